package core_test

import (
	"slices"
	"testing"

	"drover/api"
	"drover/bag"
	"drover/core"
	"drover/oplog"
	"drover/vr"
)

// The rules that hold everywhere, P1 and the bound, for this package.

// numbers: some of all sorts, those at the ends too.
func numbers() []int {
	return []int{0, 1, 2, 3, 5, 6, -1, -2, 1 << 32, most, most + 1, high - 1, high, low, low + 1}
}

// kinds: those of all messages, and some that are none.
func kinds() []int {
	l := numbers()
	for kind := api.MsgRequest; kind <= api.MsgResult+1; kind++ {
		l = append(l, kind)
	}
	return l
}

// some: nodes in all phases.
func some(t *testing.T) []*core.Replica {
	asleep := asleep(5)
	asleep.Hear(by(1, 2, 5, answer(0, 7, 1, true, row(1, 3))))
	led := core.New(3, 5)
	begins(t, led, 7)
	changes := changer(t, 3, 2, 4, 2)
	changes.Hear(by(1, 3, 5, do(2, 0, 3, row(1, 3))))
	return []*core.Replica{leader(t, 5, 3), asleep, led, changes, follower(t, 3, 5, 4, 3, 1), core.New(2, 2)}
}

// odd: those that no call made, too, and one that was copied as a value.
func odd(t *testing.T) []*core.Replica {
	var zero core.Replica
	l := some(t)
	other := *l[0]
	return append(l, nil, &zero, new(core.Replica), &other)
}

// R1, P1

// ask makes all calls of r that tell something.
func ask(r *core.Replica) {
	r.Take()
	r.Status()
	r.Log()
	r.Committed()
	r.Incs()
	r.Leads()
}

func TestEveryCallEnds(t *testing.T) {
	for _, id := range numbers() {
		for _, n := range numbers() {
			ask(core.New(id, n))
			for _, nonce := range numbers() {
				r, _ := core.Restart(id, n, nonce)
				ask(r)
			}
		}
	}
	incs := [][]int{nil, {}, {0}, {0, 0}, make([]int, 5), {low, low, low, low, low}, {high, high, high, high, high}, make([]int, 6)}
	ops := [][]api.Op{nil, {}, {{}}, row(1, 4), small(api.MaxOps + 1)}
	for _, kind := range kinds() {
		for _, n := range numbers() {
			for _, r := range odd(t) {
				for from := range 7 {
					for i, l := range incs {
						m := api.Msg{Kind: kind, From: from - 1, To: r.Status().Id, View: n, Last: n, Num: n, Commit: n, Nonce: n, Lead: true, Ops: ops[(i+from)%len(ops)], Incs: l}
						r.Hear(m)
						m.View = 2 + i
						r.Hear(m)
						m.Num, m.Commit = 0, 1
						r.Hear(m)
					}
				}
				r.Propose(api.Op{Kind: n, Client: n, Def: api.Def{Name: "\xff\x00", Steps: []api.Step{{Stub: n}}}})
				r.Tick()
				ask(r)
			}
		}
	}
}

// R2, R5

func TestAReplicaThatNoCallMade(t *testing.T) {
	var zero core.Replica
	for _, r := range []*core.Replica{nil, &zero, new(core.Replica)} {
		for range 3 {
			if l, err := r.Propose(op(1)); len(l) != 0 || err != api.ErrMade {
				t.Errorf("Propose: %v, %v", l, err)
			}
			for _, m := range anyKind() {
				for id := range 3 {
					if l := r.Hear(by(1, id, 3, m)); len(l) != 0 {
						t.Errorf("Hear: %v", l)
					}
				}
				if l := r.Hear(m); len(l) != 0 {
					t.Errorf("Hear: %v", l)
				}
			}
			if l := r.Tick(); len(l) != 0 {
				t.Errorf("Tick: %v", l)
			}
			if r.Status() != (vr.Status{}) || len(r.Log()) != 0 || r.Committed() != 0 || len(r.Incs()) != 0 || r.Leads() || len(r.Take()) != 0 {
				t.Error("it tells something")
			}
		}
	}
}

// R3

// roomy: m, all of whose lists have room behind their ends, which is filled.
func roomy(m api.Msg) api.Msg {
	m = bag.Copy(m)
	m.Op.Def.Steps = widened(m.Op.Def.Steps, api.Step{Name: "filler"})
	for i, o := range m.Ops {
		m.Ops[i].Def.Steps = widened(o.Def.Steps, api.Step{Name: "filler"})
	}
	m.Ops, m.Incs = widened(m.Ops, api.Op{Kind: 777}), widened(m.Incs, 777)
	return m
}

func widened[T any](l []T, by T) []T { return append(slices.Clone(l), by, by, by)[: len(l) : len(l)+3] }

// fill writes over l and the room behind its end.
func fill[T any](l []T, by T) {
	l = l[:cap(l)]
	for i := range l {
		l[i] = by
	}
}

func scribbleOp(o api.Op) { fill(o.Def.Steps, api.Step{Name: "scribble"}) }

func scribbleOps(l []api.Op) {
	for _, o := range l {
		scribbleOp(o)
	}
	fill(l, api.Op{Kind: 888})
}

// scribble writes over all lists of m, what lies in them, and the room behind their ends.
func scribble(m api.Msg) {
	scribbleOp(m.Op)
	scribbleOps(m.Ops)
	fill(m.Incs, 888)
}

// scribbleAll writes over all that was told; each message in turn is to leave the others as they are.
func scribbleAll(t *testing.T, l []api.Msg) {
	t.Helper()
	want := make([]api.Msg, len(l))
	for i, m := range l {
		want[i] = bag.Copy(m)
	}
	for i, m := range l {
		scribble(m)
		for j := i + 1; j < len(l); j++ {
			if !bag.Same(l[j], want[j]) {
				t.Errorf("messages %d and %d of one answer share memory", i, j)
			}
		}
	}
	fill(l, api.Msg{Kind: 888})
}

// unharmed: what room there is behind the ends of m's lists, which roomy filled, is as it was.
func unharmed(t *testing.T, m api.Msg) {
	t.Helper()
	ok := !slices.ContainsFunc(m.Ops[len(m.Ops):len(m.Ops)+3], func(o api.Op) bool { return o.Kind != 777 }) &&
		!slices.ContainsFunc(m.Incs[len(m.Incs):len(m.Incs)+3], func(n int) bool { return n != 777 })
	for _, o := range append(slices.Clone(m.Ops), m.Op) {
		steps := o.Def.Steps
		ok = ok && !slices.ContainsFunc(steps[len(steps):len(steps)+3], func(s api.Step) bool { return s.Name != "filler" })
	}
	if !ok {
		t.Errorf("the room behind a list of %+v was written to", m)
	}
}

// hearsAlone: the node hears m, which is then written over, as is what the node sent; a twin of it that hears the same is left alone, and stays like it.
func hearsAlone(t *testing.T, r, twin *core.Replica, m api.Msg) {
	t.Helper()
	handed := roomy(m)
	sent, other := r.Hear(handed), twin.Hear(bag.Copy(m))
	if !bag.Same(handed, m) {
		t.Errorf("what was handed in became %+v", handed)
	}
	unharmed(t, handed)
	scribble(handed)
	sends(t, sent, other...)
	scribbleAll(t, sent)
	alike(t, r, twin)
}

// alike: two nodes tell the same, also when what one of them told is written over.
func alike(t *testing.T, r, twin *core.Replica) {
	t.Helper()
	for range 2 {
		holds(t, r, twin.Committed(), twin.Log())
		if r.Status() != twin.Status() || !slices.Equal(r.Incs(), twin.Incs()) {
			t.Errorf("%v, Incs %v, and its twin: %v, %v", r.Status(), r.Incs(), twin.Status(), twin.Incs())
		}
		fill(r.Incs(), 888)
		scribbleOps(r.Log())
	}
}

func TestMemory(t *testing.T) {
	rs, others := some(t), some(t)
	for i, r := range rs {
		s := r.Status()
		for round := range 4 {
			for _, m := range []api.Msg{
				prepare(s.View, 4, 2, 4), commit(s.View, 4, 4), prepareOK(s.View, 3), recovers(9), get(s.View, 0), news(s.View, 1, 1, row(2, 5)),
				start(s.View + 6), do(s.View+6, 0, 2, row(1, 4)), begun(s.View+6, 2, row(1, 4)), answer(s.View, 7, 2, true, row(1, 4)),
			} {
				m.View += round * 7
				for from := 1; from <= s.N; from++ {
					if from != s.Id {
						hearsAlone(t, r, others[i], by(from, s.Id, s.N, m))
					}
				}
			}
			o := roomy(prepare(0, 0, 0, 9)).Op
			sent, err := r.Propose(o)
			other, otherErr := others[i].Propose(op(9))
			if err != otherErr || !oplog.Same(o, op(9)) {
				t.Errorf("Propose: %v, %v; it became %v", err, otherErr, o)
			}
			scribbleOp(o)
			sends(t, sent, other...)
			scribbleAll(t, sent)
			sent, other = r.Tick(), others[i].Tick()
			sends(t, sent, other...)
			scribbleAll(t, sent)
			alike(t, r, others[i])
			taken, want := r.Take(), others[i].Take()
			if !slices.EqualFunc(taken, want, oplog.Same) {
				t.Errorf("Take: %v, %v", taken, want)
			}
			scribbleOps(taken)
			alike(t, r, others[i])
		}
	}
	r, sent := core.Restart(2, 5, 7)
	scribbleAll(t, sent)
	alike(t, r, asleep(5))
}

// What a node keeps till a view begins, or till it recovered, is its own, too.
func TestWhatIsKeptIsNewMemory(t *testing.T) {
	r, handed := core.New(3, 5), roomy(by(1, 3, 5, do(2, 1, 2, row(1, 4))))
	scribbleAll(t, r.Hear(handed))
	scribble(handed)
	hears(t, r, 2, do(2, 0, 0, nil), toAll(3, 5, begun(2, 2, row(1, 4)))...)
	r, handed = asleep(3), roomy(by(1, 2, 3, answer(0, 7, 2, true, row(1, 4))))
	r.Hear(handed)
	scribble(handed)
	tells(t, r, 3, answer(0, 7, 0, false, nil), by(2, 1, 3, prepareOK(0, 4)))
	holds(t, r, 2, row(1, 4))
}

// R4

func TestAnswersAreTheSameAgain(t *testing.T) {
	for range 200 { // a map is gone over in another order each time
		r := core.New(3, 5)
		r.Hear(by(5, 3, 5, do(2, 1, 1, row(3, 5))))
		hears(t, r, 1, do(2, 1, 0, row(1, 3)), toAll(3, 5, begun(2, 1, row(1, 3)))...)
		r = leader(t, 5, 4)
		for from, ack := range []int{4, 2, 3, 1} {
			r.Hear(by(from+2, 1, 5, prepareOK(0, ack)))
		}
		holds(t, r, 3, row(1, 4))
		r = asleep(5)
		r.Hear(by(5, 2, 5, answer(3, 7, 1, false, nil)))
		r.Hear(by(3, 2, 5, answer(3, 7, 1, false, nil)))
		tells(t, r, 4, answer(3, 7, 1, true, row(1, 2)), by(2, 4, 5, prepareOK(3, 2)))
		if t.Failed() {
			return
		}
	}
}

// R6

func TestNothingWraps(t *testing.T) {
	r, sent := core.Restart(1, 5, high)
	if len(sent) != 4 || sent[0].Nonce != high {
		t.Errorf("Restart: %v", sent)
	}
	m := by(2, 1, 5, commit(most, most, most))
	m.Incs = []int{high, high, high, high, high}
	sends(t, r.Hear(m))
	r = core.New(1, 5)
	m.Incs[0] = low
	want := by(1, 2, 5, get(most, 0))
	want.Incs = []int{0, high, high, high, high}
	sends(t, r.Hear(m), want)
	r = core.New(3, 5)
	hears(t, r, 2, news(most, most, most, row(1, 9)))
	hears(t, r, 2, prepareOK(most, most))
	hears(t, r, 2, get(most, most))
	stands(t, r, vr.Normal, 0, 0)
	holds(t, r, 0, nil)
}

// R7: what a Kind does not name is not looked at, and zero in what is sent.

func TestWhatAKindDoesNotNameIsNotLookedAt(t *testing.T) {
	named := map[int]func(m, from api.Msg) api.Msg{
		api.MsgPrepare: func(m, x api.Msg) api.Msg {
			m.View, m.Num, m.Commit, m.Op = x.View, x.Num, x.Commit, x.Op
			return m
		},
		api.MsgPrepareOK: func(m, x api.Msg) api.Msg { m.View, m.Num = x.View, x.Num; return m },
		api.MsgCommit:    func(m, x api.Msg) api.Msg { m.View, m.Num, m.Commit = x.View, x.Num, x.Commit; return m },
		api.MsgStart:     func(m, x api.Msg) api.Msg { m.View = x.View; return m },
		api.MsgDo: func(m, x api.Msg) api.Msg {
			m.View, m.Last, m.Commit, m.Ops = x.View, x.Last, x.Commit, x.Ops
			return m
		},
		api.MsgView:    func(m, x api.Msg) api.Msg { m.View, m.Commit, m.Ops = x.View, x.Commit, x.Ops; return m },
		api.MsgRecover: func(m, x api.Msg) api.Msg { m.Nonce = x.Nonce; return m },
		api.MsgRecovered: func(m, x api.Msg) api.Msg {
			m.View, m.Nonce, m.Commit, m.Ops, m.Lead = x.View, x.Nonce, x.Commit, x.Ops, x.Lead
			return m
		},
		api.MsgGet: func(m, x api.Msg) api.Msg { m.View, m.Num = x.View, x.Num; return m },
		api.MsgNew: func(m, x api.Msg) api.Msg {
			m.View, m.Num, m.Commit, m.Ops = x.View, x.Num, x.Commit, x.Ops
			return m
		},
	}
	for _, v := range []int{0, 1, 2, 4, 7, 8} {
		for _, m := range []api.Msg{
			prepare(v, 4, 2, 4), prepareOK(v, 3), commit(v, 3, 2), start(v), do(v, 1, 3, row(1, 3)), begun(v, 2, row(1, 4)),
			recovers(6), answer(v, 7, 2, true, row(1, 4)), get(v, 1), news(v, 1, 2, row(2, 5)),
		} {
			full := api.Msg{
				Kind: m.Kind, View: 3, Last: 3, Num: 3, Commit: 3, Nonce: 3, Request: 3, Lead: true, Good: true, Fenced: true,
				Op: op(70), Reply: api.Reply{Err: 3, Saga: 3}, Command: api.Command{View: 3}, Ops: row(70, 73),
			}
			full = named[m.Kind](full, m)
			twins := some(t)
			for i, r := range some(t) {
				twin, s := twins[i], r.Status()
				from := max(1, v%s.N+1)
				if from == s.Id {
					from = s.Id%s.N + 1
				}
				sends(t, r.Hear(by(from, s.Id, s.N, full)), twin.Hear(by(from, s.Id, s.N, m))...)
				alike(t, r, twin)
			}
		}
	}
}

// nil and empty lists are the same.
func TestNoOperationsAreAnEmptyList(t *testing.T) {
	none := []api.Op{}
	r := follower(t, 3, 5, 1, 0, 0)
	hears(t, r, 2, news(1, 0, 0, none), by(3, 2, 5, prepareOK(1, 0)))
	hears(t, r, 4, begun(3, 0, none), by(3, 4, 5, prepareOK(3, 0)))
	hears(t, r, 1, do(7, 0, 0, none), toAll(3, 5, start(7))...)
	hears(t, r, 2, do(7, 0, 0, nil), toAll(3, 5, begun(7, 0, nil))...)
	bare, empty := op(1), op(1)
	bare.Def.Steps, empty.Def.Steps = nil, []api.Step{}
	r = core.New(2, 3)
	m := prepare(0, 1, 1, 0)
	m.Op = bare
	hears(t, r, 1, m, by(2, 1, 3, prepareOK(0, 1)))
	hears(t, r, 3, begun(2, 1, []api.Op{empty}), by(2, 3, 3, prepareOK(2, 1))) // what is committed is the same
}

// The bound

func TestMuchIsHeard(t *testing.T) {
	r, other := core.New(1, 2), core.New(2, 2)
	for i := range api.MaxOps {
		l, err := r.Propose(api.Op{Kind: api.OpStatus, Saga: i + 1})
		if err != api.OK {
			t.Fatal(err)
		}
		r.Hear(other.Hear(l[0])[0])
	}
	for range 20000 {
		for _, m := range r.Tick() {
			r.Hear(other.Hear(m)[0])
		}
		other.Tick()
	}
	holds(t, r, api.MaxOps, small(api.MaxOps))
	holds(t, other, api.MaxOps, small(api.MaxOps))
	takes(t, r, small(api.MaxOps))
	takes(t, other, small(api.MaxOps))
	stands(t, other, vr.Normal, 0, 0)
}
