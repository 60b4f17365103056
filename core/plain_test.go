package core_test

import (
	"maps"
	"math/rand/v2"
	"slices"
	"testing"

	"drover/api"
	"drover/bag"
	"drover/core"
	"drover/oplog"
	"drover/vr"
)

// plain is what the chapter says, word by word, with lists and maps alone: no log, no clock, nothing of chapter 10.
type plain struct {
	id, n, phase, view, last, nonce, committed, taken int
	incs                                              []int
	log                                               []api.Op
	timers                                            map[int]int // ticks that are left, by names
	acks                                              map[int]int
	starts                                            map[int]bool
	dos, answers                                      map[int]api.Msg
	told                                              bool
}

func plainNew(id, n int) *plain {
	p := &plain{id: id, n: n, phase: vr.Normal, incs: make([]int, n), timers: map[int]int{}}
	p.forget()
	if id == 1 {
		p.timers[1] = 2
	} else {
		p.timers[2] = 7 + id
	}
	return p
}

func plainRestart(id, n, nonce int) (*plain, []api.Msg) {
	p := &plain{id: id, n: n, phase: vr.Recover, nonce: nonce, incs: make([]int, n), timers: map[int]int{4: 4}}
	p.forget()
	p.incs[id-1] = nonce
	return p, p.all(api.Msg{Kind: api.MsgRecover, Nonce: nonce})
}

func (p *plain) forget() {
	p.acks, p.starts, p.dos, p.answers = map[int]int{}, map[int]bool{}, map[int]api.Msg{}, map[int]api.Msg{}
}

func (p *plain) leader(v int) int { return 1 + v%p.n }
func (p *plain) quorum() int      { return p.n/2 + 1 }
func (p *plain) leads() bool      { return p.phase == vr.Normal && p.leader(p.view) == p.id }

func (p *plain) to(node int, m api.Msg) []api.Msg {
	m.From, m.To, m.Incs = p.id, node, p.incs
	return []api.Msg{bag.Copy(m)}
}

func (p *plain) all(m api.Msg) []api.Msg {
	var l []api.Msg
	for node := 1; node <= p.n; node++ {
		if node != p.id {
			l = append(l, p.to(node, m)...)
		}
	}
	return l
}

func (p *plain) commit(n int) { p.committed = max(p.committed, min(n, len(p.log))) }

func (p *plain) join(ops []api.Op) {
	if p.committed+len(ops) <= api.MaxOps {
		p.log = slices.Concat(p.log[:p.committed], ops)
	}
}

func (p *plain) replace(ops []api.Op, commit int) bool {
	if len(ops) > api.MaxOps || commit < p.committed || commit > len(ops) {
		return false
	}
	if !slices.EqualFunc(ops[:p.committed], p.log[:p.committed], oplog.Same) {
		return false
	}
	p.log, p.committed = slices.Clone(ops), commit
	return true
}

func (p *plain) changes(v int) []api.Msg {
	p.view, p.phase, p.told = v, vr.Change, false
	p.starts, p.dos = map[int]bool{p.id: true}, map[int]api.Msg{}
	delete(p.timers, 1)
	delete(p.timers, 2)
	p.timers[3] = 9 + p.id
	return p.all(api.Msg{Kind: api.MsgStart, View: v})
}

func (p *plain) enters(v int) {
	p.phase, p.view, p.last = vr.Normal, v, v
	p.timers = map[int]int{2: 7 + p.id}
	if p.leader(v) == p.id {
		p.timers = map[int]int{1: 2}
	}
	p.forget()
}

func (p *plain) propose(o api.Op) ([]api.Msg, api.Errno) {
	if !p.leads() {
		return nil, api.ErrLate
	}
	if len(p.log) == api.MaxOps {
		return nil, api.ErrFull
	}
	p.log = append(p.log, o)
	return p.all(api.Msg{Kind: api.MsgPrepare, View: p.view, Num: len(p.log), Commit: p.committed, Op: o}), api.OK
}

func (p *plain) tick() []api.Msg {
	var over []int
	for name := range p.timers {
		p.timers[name]--
		if p.timers[name] == 0 {
			over = append(over, name)
		}
	}
	maps.DeleteFunc(p.timers, func(_, left int) bool { return left == 0 })
	slices.Sort(over)
	var l []api.Msg
	for _, name := range over {
		switch name {
		case 1:
			p.timers[1] = 2
			l = append(l, p.all(api.Msg{Kind: api.MsgCommit, View: p.view, Commit: p.committed, Num: len(p.log)})...)
		case 2, 3:
			l = append(l, p.changes(p.view+1)...)
		case 4:
			p.timers[4] = 4
			l = append(l, p.all(api.Msg{Kind: api.MsgRecover, Nonce: p.nonce})...)
		}
	}
	return l
}

func (p *plain) take() []api.Op {
	l := p.log[p.taken:p.committed]
	p.taken = p.committed
	return l
}

func (p *plain) hear(m api.Msg) []api.Msg {
	if m.To != p.id || m.From == p.id || m.From < 1 || m.From > p.n || len(m.Incs) != p.n || m.Incs[m.From-1] < p.incs[m.From-1] {
		return nil
	}
	if min(m.View, m.Last, m.Num, m.Commit, m.Nonce) < 0 || max(m.View, m.Last, m.Num, m.Commit, m.Nonce) > 1<<40 {
		return nil
	}
	for i, inc := range m.Incs {
		if inc > p.incs[i] {
			p.incs[i] = inc
			delete(p.acks, i+1)
			delete(p.starts, i+1)
			delete(p.dos, i+1)
			delete(p.answers, i+1)
		}
	}
	switch {
	case p.phase == vr.Recover:
		return p.hearAsOneThatRecovers(m)
	case m.Kind == api.MsgGet:
		if p.phase == vr.Normal && p.view >= m.View && m.Num <= len(p.log) {
			return p.to(m.From, api.Msg{Kind: api.MsgNew, View: p.view, Num: m.Num, Commit: p.committed, Ops: p.log[m.Num:]})
		}
	case m.Kind == api.MsgRecover:
		if p.leads() {
			return p.to(m.From, api.Msg{Kind: api.MsgRecovered, View: p.view, Nonce: m.Nonce, Commit: p.committed, Lead: true, Ops: p.log})
		}
		if p.phase == vr.Normal {
			return p.to(m.From, api.Msg{Kind: api.MsgRecovered, View: p.view, Nonce: m.Nonce, Commit: p.committed})
		}
	case m.View > p.view:
		return p.hearElsewhere(m, true)
	case m.View == p.view && p.phase == vr.Change:
		return p.hearElsewhere(m, false)
	case m.View == p.view:
		return p.hearHere(m)
	}
	return nil
}

// hearHere: of its own view.
func (p *plain) hearHere(m api.Msg) []api.Msg {
	leads := p.leader(p.view)
	switch m.Kind {
	case api.MsgPrepare, api.MsgCommit:
		if m.From != leads {
			return nil
		}
		p.timers[2] = 7 + p.id
		if m.Kind == api.MsgPrepare && m.Num == len(p.log)+1 && m.Num <= api.MaxOps {
			p.log = append(p.log, m.Op)
		}
		p.commit(m.Commit)
		if m.Num > len(p.log) {
			return p.to(m.From, api.Msg{Kind: api.MsgGet, View: p.view, Num: p.committed})
		}
		return p.to(m.From, api.Msg{Kind: api.MsgPrepareOK, View: p.view, Num: len(p.log)})
	case api.MsgPrepareOK:
		if leads != p.id {
			return nil
		}
		p.acks[m.From] = max(p.acks[m.From], min(m.Num, len(p.log)))
		for num := len(p.log); num > p.committed; num-- {
			have := 1
			for _, ack := range p.acks {
				if ack >= num {
					have++
				}
			}
			if have >= p.quorum() {
				p.commit(num)
			}
		}
	case api.MsgNew:
		if leads == p.id || m.Num > p.committed || m.Num+len(m.Ops) < p.committed {
			return nil
		}
		if m.Num+len(m.Ops) > len(p.log) {
			p.join(m.Ops[p.committed-m.Num:])
		}
		p.commit(m.Commit)
		return p.to(leads, api.Msg{Kind: api.MsgPrepareOK, View: p.view, Num: len(p.log)})
	}
	return nil
}

// hearElsewhere: of a view that has yet to begin here, or of one that is greater.
func (p *plain) hearElsewhere(m api.Msg, greater bool) []api.Msg {
	leads := p.leader(m.View)
	var l []api.Msg
	switch m.Kind {
	case api.MsgPrepare, api.MsgCommit:
		return p.to(m.From, api.Msg{Kind: api.MsgGet, View: m.View, Num: p.committed})
	case api.MsgNew:
		if leads == p.id || m.Num > p.committed || m.Num+len(m.Ops) < p.committed {
			return nil
		}
		p.join(m.Ops[p.committed-m.Num:])
		p.enters(m.View)
		p.commit(m.Commit)
		return p.to(leads, api.Msg{Kind: api.MsgPrepareOK, View: m.View, Num: len(p.log)})
	case api.MsgView:
		if m.From != leads || !p.replace(m.Ops, max(m.Commit, p.committed)) {
			return nil
		}
		p.enters(m.View)
		return p.to(leads, api.Msg{Kind: api.MsgPrepareOK, View: m.View, Num: len(p.log)})
	case api.MsgStart:
		if greater {
			l = p.changes(m.View)
		}
		p.starts[m.From] = true
		if len(p.starts) >= p.quorum() && !p.told {
			p.told = true
			if leads == p.id {
				p.dos[p.id] = p.do()
			} else {
				l = append(l, p.to(leads, p.do())...)
			}
		}
	case api.MsgDo:
		if greater {
			l = p.changes(m.View)
		}
		if leads == p.id {
			p.dos[m.From], p.dos[p.id] = bag.Copy(m), p.do()
			l = append(l, p.begins()...)
		}
	}
	return l
}

func (p *plain) do() api.Msg {
	return api.Msg{Kind: api.MsgDo, View: p.view, Last: p.last, Commit: p.committed, Ops: slices.Clone(p.log)}
}

func (p *plain) begins() []api.Msg {
	if len(p.dos) < p.quorum() {
		return nil
	}
	var best api.Msg
	commit := 0
	for i, from := range slices.Sorted(maps.Keys(p.dos)) {
		m := p.dos[from]
		if i == 0 || m.Last > best.Last || m.Last == best.Last && len(m.Ops) > len(best.Ops) {
			best = m
		}
		commit = max(commit, m.Commit)
	}
	if !p.replace(best.Ops, commit) {
		return nil
	}
	p.enters(p.view)
	return p.all(api.Msg{Kind: api.MsgView, View: p.view, Commit: p.committed, Ops: p.log})
}

func (p *plain) hearAsOneThatRecovers(m api.Msg) []api.Msg {
	if m.Kind != api.MsgRecovered {
		return nil
	}
	p.answers[m.From] = bag.Copy(m)
	count, greatest := 0, 0
	for _, a := range p.answers {
		if a.Nonce == p.nonce {
			count++
			greatest = max(greatest, a.View)
		}
	}
	best, ok := p.answers[p.leader(greatest)]
	if count < (p.n-1)/2+1 || !ok || best.Nonce != p.nonce || best.View != greatest || !best.Lead || !p.replace(best.Ops, best.Commit) {
		return nil
	}
	p.enters(best.View)
	return p.to(best.From, api.Msg{Kind: api.MsgPrepareOK, View: p.view, Num: len(p.log)})
}

// pair is a Replica, and what the chapter says of it.
type pair struct {
	r *core.Replica
	p *plain
}

// alike holds the two of a pair, and what they told of it, against each other.
func (x pair) alike(t *testing.T, what any, got, want []api.Msg) {
	t.Helper()
	r, p := x.r, x.p
	if !slices.EqualFunc(got, want, bag.Same) {
		t.Fatalf("of %+v\n%v told\n%+v, want\n%+v", what, r.Status(), got, want)
	}
	if s := (vr.Status{Id: p.id, N: p.n, Phase: p.phase, View: p.view, Last: p.last}); r.Status() != s || r.Leads() != p.leads() {
		t.Fatalf("of %+v\nStatus is %v, want %v; it leads: %v", what, r.Status(), s, r.Leads())
	}
	if !slices.EqualFunc(r.Log(), p.log, oplog.Same) || r.Committed() != p.committed || !slices.Equal(r.Incs(), p.incs) {
		t.Fatalf("of %+v\nthere are %v, %d of them committed, Incs %v, want %v, %d, %v", what, r.Log(), r.Committed(), r.Incs(), p.log, p.committed, p.incs)
	}
}

// both: some nodes, each of which is held against what the chapter says, and what they sent.
type both struct {
	t     *testing.T
	by    *rand.Rand
	nodes []pair
	bag   []api.Msg
	made  int // how many operations and nonces were made
}

func (b *both) sent(l []api.Msg) {
	b.bag = append(b.bag, l...)
	for len(b.bag) > 40 {
		i := b.by.IntN(len(b.bag))
		b.bag = slices.Delete(b.bag, i, i+1)
	}
}

// strange: m, or one in which something is otherwise.
func (b *both) strange(m api.Msg) api.Msg {
	m = bag.Copy(m)
	n, few := len(b.nodes), b.by.IntN(4)
	switch b.by.IntN(40) {
	case 0:
		m.View += few - 1
	case 1:
		m.Num += few - 1
	case 2:
		m.Commit += few - 1
	case 3:
		m.Last = few
	case 4:
		m.From = b.by.IntN(n + 2)
	case 5:
		m.Kind = b.by.IntN(16)
	case 6:
		m.Incs[b.by.IntN(n)] += few - 1
	case 7:
		m.Incs = m.Incs[1:]
	case 8:
		m.Lead = !m.Lead
	case 9:
		m.Nonce += few - 1
	case 10:
		m.Ops = m.Ops[min(few, len(m.Ops)):]
	case 11:
		b.made++
		m.Ops = append(m.Ops, api.Op{Kind: api.OpCancel, Saga: b.made})
	case 12:
		m.To = m.To%n + 1
	}
	return m
}

func (b *both) step() {
	i := b.by.IntN(len(b.nodes))
	x := b.nodes[i]
	switch k := b.by.IntN(100); {
	case k < 25 || len(b.bag) == 0:
		got, want := x.r.Tick(), x.p.tick()
		x.alike(b.t, "a tick", got, want)
		b.sent(got)
	case k < 32:
		b.made++
		o := api.Op{Kind: api.OpStart, Def: api.Def{Steps: []api.Step{{Wait: b.made}}}}
		got, err := x.r.Propose(o)
		want, wantErr := x.p.propose(o)
		x.alike(b.t, o, got, want)
		if err != wantErr {
			b.t.Fatalf("Propose: %v, want %v", err, wantErr)
		}
		b.sent(got)
	case k < 34:
		b.made++
		r, got := core.Restart(i+1, len(b.nodes), b.made)
		p, want := plainRestart(i+1, len(b.nodes), b.made)
		b.nodes[i] = pair{r, p}
		b.nodes[i].alike(b.t, "a Restart", got, want)
		b.sent(got)
	case k < 38:
		if got, want := x.r.Take(), x.p.take(); !slices.EqualFunc(got, want, oplog.Same) {
			b.t.Fatalf("Take: %v, want %v", got, want)
		}
	default:
		b.hear(b.by.IntN(len(b.bag)), k < 50)
	}
}

func (b *both) hear(i int, again bool) {
	m := b.strange(b.bag[i])
	if !again {
		b.bag = slices.Delete(b.bag, i, i+1)
	}
	x := b.nodes[b.by.IntN(len(b.nodes))]
	if m.To >= 1 && m.To <= len(b.nodes) && b.by.IntN(20) > 0 {
		x = b.nodes[m.To-1]
	}
	got, want := x.r.Hear(m), x.p.hear(m)
	x.alike(b.t, m, got, want)
	b.sent(got)
}

func TestNodesDoWhatTheChapterSays(t *testing.T) {
	for seed := range uint64(1200) {
		n := 2 + int(seed%4)
		b := &both{t: t, by: rand.New(rand.NewPCG(seed, 111))}
		for i := range n {
			b.nodes = append(b.nodes, pair{core.New(i+1, n), plainNew(i+1, n)})
		}
		for range 600 {
			b.step()
		}
	}
}
