package core_test

import (
	"math"
	"slices"
	"testing"

	"drover/api"
	"drover/bag"
	"drover/core"
	"drover/oplog"
	"drover/view"
	"drover/vr"
)

// The signatures that the chapter lists.
var (
	_ func(int, int) *core.Replica                       = core.New
	_ func(int, int, int) (*core.Replica, []api.Msg)     = core.Restart
	_ func(*core.Replica, api.Op) ([]api.Msg, api.Errno) = (*core.Replica).Propose
	_ func(*core.Replica, api.Msg) []api.Msg             = (*core.Replica).Hear
	_ func(*core.Replica) []api.Msg                      = (*core.Replica).Tick
	_ func(*core.Replica) []api.Op                       = (*core.Replica).Take
	_ func(*core.Replica) vr.Status                      = (*core.Replica).Status
	_ func(*core.Replica) []api.Op                       = (*core.Replica).Log
	_ func(*core.Replica) int                            = (*core.Replica).Committed
	_ func(*core.Replica) []int                          = (*core.Replica).Incs
	_ func(*core.Replica) bool                           = (*core.Replica).Leads
	_                                                    = api.MaxNodes
)

const (
	most = 1 << 40 // the greatest number that a message may tell
	high = math.MaxInt
	low  = math.MinInt
)

// counts: how many nodes there may be; others: how many not.
func counts() []int { return []int{2, 3, 4, 5} }

func others() []int {
	return []int{0, 1, 6, 7, 10, -1, -2, -3, 1 << 32, 1<<32 + 3, high, high - 1, low, low + 1, low + 3}
}

// op: an operation with something in each field, another one for each n.
func op(n int) api.Op {
	return api.Op{
		Kind: api.OpStart, Client: n, Request: n + 1, Saga: n + 2, Step: n + 3, Try: n + 4, Back: n%2 == 0, Good: n%3 == 0,
		Def: api.Def{Name: "saga", Steps: []api.Step{{Name: "one", Stub: n}, {Name: "two", Wait: n, Undo: true}}},
	}
}

// row: the operations from to to.
func row(from, to int) []api.Op {
	var l []api.Op
	for n := from; n <= to; n++ {
		l = append(l, op(n))
	}
	return l
}

// small: n operations without lists.
func small(n int) []api.Op {
	l := make([]api.Op, n)
	for i := range l {
		l[i] = api.Op{Kind: api.OpStatus, Saga: i + 1}
	}
	return l
}

// by: m as it goes from a node to another one of n, nobody being started anew.
func by(from, to, n int, m api.Msg) api.Msg {
	m.From, m.To, m.Incs = from, to, make([]int, n)
	return m
}

// toAll: m as it goes from a node to each other one of n.
func toAll(from, n int, m api.Msg) []api.Msg {
	var l []api.Msg
	for to := 1; to <= n; to++ {
		if to != from {
			l = append(l, by(from, to, n, m))
		}
	}
	return l
}

func prepare(v, num, commit, o int) api.Msg {
	return api.Msg{Kind: api.MsgPrepare, View: v, Num: num, Commit: commit, Op: op(o)}
}

func commit(v, num, commit int) api.Msg {
	return api.Msg{Kind: api.MsgCommit, View: v, Num: num, Commit: commit}
}

func prepareOK(v, num int) api.Msg { return api.Msg{Kind: api.MsgPrepareOK, View: v, Num: num} }
func get(v, num int) api.Msg       { return api.Msg{Kind: api.MsgGet, View: v, Num: num} }
func start(v int) api.Msg          { return api.Msg{Kind: api.MsgStart, View: v} }

func news(v, num, commit int, ops []api.Op) api.Msg {
	return api.Msg{Kind: api.MsgNew, View: v, Num: num, Commit: commit, Ops: ops}
}

func do(v, last, commit int, ops []api.Op) api.Msg {
	return api.Msg{Kind: api.MsgDo, View: v, Last: last, Commit: commit, Ops: ops}
}

func begun(v, commit int, ops []api.Op) api.Msg {
	return api.Msg{Kind: api.MsgView, View: v, Commit: commit, Ops: ops}
}

func recovers(nonce int) api.Msg { return api.Msg{Kind: api.MsgRecover, Nonce: nonce} }

func answer(v, nonce, commit int, lead bool, ops []api.Op) api.Msg {
	return api.Msg{Kind: api.MsgRecovered, View: v, Nonce: nonce, Commit: commit, Lead: lead, Ops: ops}
}

// sends holds what was sent against what was to be.
func sends(t *testing.T, got []api.Msg, want ...api.Msg) {
	t.Helper()
	if !slices.EqualFunc(got, want, bag.Same) {
		t.Errorf("sent is\n%+v, want\n%+v", got, want)
	}
}

// hears: the node hears m from another one, nobody being started anew, and sends what is wanted, as from it.
func hears(t *testing.T, r *core.Replica, from int, m api.Msg, want ...api.Msg) {
	t.Helper()
	s := r.Status()
	sends(t, r.Hear(by(from, s.Id, s.N, m)), want...)
}

// holds: the node's log is as is said.
func holds(t *testing.T, r *core.Replica, committed int, want []api.Op) {
	t.Helper()
	if got := r.Log(); !slices.EqualFunc(got, want, oplog.Same) || r.Committed() != committed {
		t.Errorf("of %v there are %v, %d of them committed, want %v, %d", r.Status(), got, r.Committed(), want, committed)
	}
}

// stands: the node stands in that phase and view; Leads is as it follows from that.
func stands(t *testing.T, r *core.Replica, phase, v, last int) {
	t.Helper()
	got := r.Status()
	if want := (vr.Status{Id: got.Id, N: got.N, Phase: phase, View: v, Last: last}); got != want {
		t.Errorf("Status: %v, want %v", got, want)
	}
	if r.Leads() != vr.Leads(got) {
		t.Errorf("of %v it Leads: %v", got, r.Leads())
	}
}

// over: so many ticks are silent, and the one behind them sends what is wanted.
func over(t *testing.T, r *core.Replica, silent int, want ...api.Msg) {
	t.Helper()
	for i := range silent {
		if got := r.Tick(); len(got) != 0 {
			t.Fatalf("of %v tick %d sends %+v", r.Status(), i+1, got)
		}
	}
	sends(t, r.Tick(), want...)
}

// leader: node 1 of n, which leads view 0, with the operations from 1 to last.
func leader(t *testing.T, n, last int) *core.Replica {
	t.Helper()
	r := core.New(1, n)
	for i := 1; i <= last; i++ {
		if _, err := r.Propose(op(i)); err != api.OK {
			t.Fatalf("Propose: %v", err)
		}
	}
	return r
}

// follower: a node of n that takes part in view v, which another one leads, with the operations from 1 to last, of which the first ones are committed.
func follower(t *testing.T, id, n, v, last, committed int) *core.Replica {
	t.Helper()
	r := core.New(id, n)
	if v == 0 {
		r.Hear(by(1, id, n, news(0, 0, committed, row(1, last))))
	} else {
		r.Hear(by(view.Leader(v, n), id, n, begun(v, committed, row(1, last))))
	}
	stands(t, r, vr.Normal, v, v)
	holds(t, r, committed, row(1, last))
	return r
}

// changer: node id of 5, which took part in view 0, whose view v has yet to begin, with the operations from 1 to last, of which the first ones are committed.
func changer(t *testing.T, id, v, last, committed int) *core.Replica {
	t.Helper()
	r := core.New(id, 5)
	if id == 1 {
		r = leader(t, 5, last)
		r.Hear(by(2, 1, 5, prepareOK(0, committed)))
		r.Hear(by(3, 1, 5, prepareOK(0, committed)))
	} else {
		r = follower(t, id, 5, 0, last, committed)
	}
	hears(t, r, id%5+1, start(v), toAll(id, 5, start(v))...)
	stands(t, r, vr.Change, v, 0)
	holds(t, r, committed, row(1, last))
	return r
}

// P11.1

func TestNew(t *testing.T) {
	for _, n := range counts() {
		for id := 1; id <= n; id++ {
			r := core.New(id, n)
			if r == nil {
				t.Fatalf("there is no node %d of %d", id, n)
			}
			stands(t, r, vr.Normal, 0, 0)
			holds(t, r, 0, nil)
			if s := r.Status(); s.Id != id || s.N != n || r.Leads() != (id == 1) || len(r.Take()) != 0 || !slices.Equal(r.Incs(), make([]int, n)) {
				t.Errorf("node %d of %d: %v, Incs %v", id, n, s, r.Incs())
			}
		}
	}
}

func TestThereIsNoSuchNode(t *testing.T) {
	none := func(id, n, nonce int) {
		t.Helper()
		if r, l := core.Restart(id, n, nonce); r != nil || l != nil {
			t.Errorf("Restart(%d, %d, %d): %v, %v", id, n, nonce, r, l)
		}
	}
	for _, n := range others() {
		for _, id := range append([]int{1, 2, 3, 4, 5}, others()...) {
			if core.New(id, n) != nil {
				t.Errorf("New(%d, %d) is one", id, n)
			}
			none(id, n, 1)
		}
	}
	for _, n := range counts() {
		for _, id := range append([]int{n + 1, n + 2}, others()...) {
			if (id < 1 || id > n) && core.New(id, n) != nil {
				t.Errorf("New(%d, %d) is one", id, n)
			}
			if id < 1 || id > n {
				none(id, n, 1)
			}
		}
		for _, nonce := range []int{0, -1, -1 << 40, low, low + 1} {
			none(1, n, nonce)
			none(n, n, nonce)
		}
	}
}

func TestRestart(t *testing.T) {
	for _, n := range counts() {
		for id := 1; id <= n; id++ {
			for _, nonce := range []int{1, 2, most, most + 1, high} {
				r, sent := core.Restart(id, n, nonce)
				want := toAll(id, n, recovers(nonce))
				for i := range want {
					want[i].Incs[id-1] = nonce
				}
				sends(t, sent, want...)
				stands(t, r, vr.Recover, 0, 0)
				holds(t, r, 0, nil)
				if s := r.Status(); s.Id != id || s.N != n || r.Leads() || len(r.Take()) != 0 || !slices.Equal(r.Incs(), want[0].Incs) {
					t.Errorf("node %d of %d: %v, Incs %v", id, n, s, r.Incs())
				}
			}
		}
	}
}

// takes: that is what was committed and not yet taken.
func takes(t *testing.T, r *core.Replica, want []api.Op) {
	t.Helper()
	for range 2 {
		if got := r.Take(); !slices.EqualFunc(got, want, oplog.Same) {
			t.Errorf("Take: %v, want %v", got, want)
		}
		want = nil
	}
}

func TestTake(t *testing.T) {
	r := follower(t, 2, 3, 0, 5, 0)
	takes(t, r, nil)
	hears(t, r, 1, commit(0, 5, 2), by(2, 1, 3, prepareOK(0, 5)))
	takes(t, r, row(1, 2))
	hears(t, r, 1, commit(0, 5, 3), by(2, 1, 3, prepareOK(0, 5)))
	hears(t, r, 1, commit(0, 5, 5), by(2, 1, 3, prepareOK(0, 5)))
	takes(t, r, row(3, 5))
	hears(t, r, 3, begun(2, 7, row(1, 8)), by(2, 3, 3, prepareOK(2, 8)))
	takes(t, r, row(6, 7))
	hears(t, r, 1, news(3, 7, 9, row(8, 10)), by(2, 1, 3, prepareOK(3, 10)))
	takes(t, r, row(8, 9))
}

func TestTakeOfOneThatWasStartedAnew(t *testing.T) {
	r, _ := core.Restart(2, 3, 7)
	hears(t, r, 3, answer(0, 7, 1, false, nil))
	takes(t, r, nil)
	r.Hear(by(1, 2, 3, answer(0, 7, 3, true, row(1, 4))))
	takes(t, r, row(1, 3))
}

func TestTakeOfOneThatLeads(t *testing.T) {
	r := leader(t, 3, 3)
	takes(t, r, nil)
	hears(t, r, 2, prepareOK(0, 2))
	takes(t, r, row(1, 2))
	hears(t, r, 3, prepareOK(0, 3))
	takes(t, r, row(3, 3))
}

// P11.2

func TestPropose(t *testing.T) {
	for _, n := range counts() {
		r := core.New(1, n)
		for i := 1; i <= 3; i++ {
			got, err := r.Propose(op(i))
			if err != api.OK {
				t.Fatalf("Propose: %v", err)
			}
			sends(t, got, toAll(1, n, prepare(0, i, 0, i))...)
			holds(t, r, 0, row(1, i))
		}
		for from := 2; from <= n; from++ {
			hears(t, r, from, prepareOK(0, 2))
		}
		got, err := r.Propose(op(4))
		if err != api.OK {
			t.Fatalf("Propose: %v", err)
		}
		sends(t, got, toAll(1, n, prepare(0, 4, 2, 4))...)
		holds(t, r, 2, row(1, 4))
	}
}

func TestProposeInAViewThatChanged(t *testing.T) {
	r := core.New(3, 5)
	l := begins(t, r, 7)
	sends(t, l, toAll(3, 5, begun(7, 0, nil))...)
	got, err := r.Propose(op(1))
	if err != api.OK {
		t.Fatalf("Propose: %v", err)
	}
	sends(t, got, toAll(3, 5, prepare(7, 1, 0, 1))...)
}

func TestProposeOfOneThatDoesNotLead(t *testing.T) {
	asleep, _ := core.Restart(1, 3, 1)
	deposed := leader(t, 3, 2)
	deposed.Hear(by(2, 1, 3, begun(1, 0, row(1, 2))))
	for _, r := range []*core.Replica{core.New(2, 3), asleep, deposed, changer(t, 1, 1, 2, 1), changer(t, 1, 5, 2, 1), changer(t, 3, 2, 2, 1)} {
		s, log, committed := r.Status(), r.Log(), r.Committed()
		for range 2 {
			if got, err := r.Propose(op(9)); len(got) != 0 || err != api.ErrLate {
				t.Errorf("of %v: %v, %v", s, got, err)
			}
		}
		stands(t, r, s.Phase, s.View, s.Last)
		holds(t, r, committed, log)
	}
}

func TestProposeWithoutRoom(t *testing.T) {
	r := core.New(1, 2)
	all := small(api.MaxOps)
	for i, o := range all {
		got, err := r.Propose(o)
		if err != api.OK || len(got) != 1 || got[0].Num != i+1 {
			t.Fatalf("Propose: %v, %v", got, err)
		}
	}
	for range 2 {
		if got, err := r.Propose(op(1)); len(got) != 0 || err != api.ErrFull {
			t.Errorf("Propose: %v, %v", got, err)
		}
		holds(t, r, 0, all)
	}
	hears(t, r, 2, prepareOK(0, api.MaxOps))
	holds(t, r, api.MaxOps, all)
}

// begins: view v, which the node leads, is begun by those that it hears their logs of, which are empty; what it sent then.
func begins(t *testing.T, r *core.Replica, v int) []api.Msg {
	t.Helper()
	s := r.Status()
	var l []api.Msg
	for from := 1; from <= s.N && !r.Leads(); from++ {
		if from != s.Id {
			l = r.Hear(by(from, s.Id, s.N, do(v, 0, 0, nil)))
		}
	}
	stands(t, r, vr.Normal, v, v)
	return l[max(0, len(l)-s.N+1):]
}

// P11.4

func TestTicksOfOneThatLeads(t *testing.T) {
	for _, n := range counts() {
		r := leader(t, n, 4)
		over(t, r, 1, toAll(1, n, commit(0, 4, 0))...)
		over(t, r, 1, toAll(1, n, commit(0, 4, 0))...)
		for from := 2; from <= n; from++ {
			hears(t, r, from, prepareOK(0, 3))
		}
		for range 30 {
			over(t, r, 1, toAll(1, n, commit(0, 4, 3))...)
		}
		stands(t, r, vr.Normal, 0, 0)
	}
}

func TestTicksOfOneThatHearsNothing(t *testing.T) {
	for _, n := range counts() {
		for id := 2; id <= n; id++ {
			r := core.New(id, n)
			over(t, r, 6+id, toAll(id, n, start(1))...)
			stands(t, r, vr.Change, 1, 0)
			for v := 2; v < 9; v++ { // of views too that it leads
				over(t, r, 8+id, toAll(id, n, start(v))...)
				stands(t, r, vr.Change, v, 0)
			}
		}
	}
}

func TestTicksOfOneThatRecovers(t *testing.T) {
	for _, n := range counts() {
		for id := 1; id <= n; id++ {
			r, want := core.Restart(id, n, 40+id)
			for range 9 {
				over(t, r, 3, want...)
				stands(t, r, vr.Recover, 0, 0)
			}
			hears(t, r, id%n+1, start(3)) // what it hears does not put it off
			over(t, r, 3, want...)
		}
	}
}

func TestAskedAreTheIncarnationsThatAreKnown(t *testing.T) {
	r, _ := core.Restart(2, 3, 5)
	m := by(1, 2, 3, commit(0, 0, 0))
	m.Incs = []int{4, 3, 6}
	sends(t, r.Hear(m))
	if !slices.Equal(r.Incs(), []int{4, 5, 6}) {
		t.Fatalf("Incs: %v", r.Incs())
	}
	want := toAll(2, 3, recovers(5))
	for i := range want {
		want[i].Incs = []int{4, 5, 6}
	}
	over(t, r, 3, want...)
}

// What sets WATCH, and what does not: behind each the ticks are counted anew, or are not.
func TestWatchIsSetAnew(t *testing.T) {
	const id, n = 3, 4
	for name, m := range map[string]api.Msg{
		"a MsgPrepare":                by(2, id, n, prepare(1, 3, 0, 3)),
		"one that was there":          by(2, id, n, prepare(1, 1, 0, 9)),
		"one that is too far":         by(2, id, n, prepare(1, 9, 0, 9)),
		"a MsgCommit":                 by(2, id, n, commit(1, 2, 0)),
		"one of more than are there":  by(2, id, n, commit(1, 9, 0)),
		"a MsgView of a greater view": by(1, id, n, begun(4, 0, row(1, 2))),
		"a MsgNew of a greater view":  by(4, id, n, news(4, 0, 0, row(1, 2))),
	} {
		r := follower(t, id, n, 1, 2, 0)
		for range 6 + id {
			r.Tick()
		}
		r.Hear(m)
		v := r.Status().View
		for i := range 6 + id {
			if l := r.Tick(); len(l) != 0 {
				t.Fatalf("behind %s tick %d sends %v", name, i+1, l)
			}
		}
		sends(t, r.Tick(), toAll(id, n, start(v+1))...)
	}
}

func TestWatchIsNotSetAnew(t *testing.T) {
	const id, n = 3, 4
	r := follower(t, id, n, 1, 2, 0)
	l := []api.Msg{
		by(1, id, n, prepare(1, 3, 0, 3)), by(4, id, n, commit(1, 2, 0)), // of one that does not lead
		by(1, id, n, prepare(0, 3, 0, 3)), by(1, id, n, commit(0, 2, 0)), // of an elder view
		by(1, id, n, prepare(4, 3, 0, 3)), by(1, id, n, commit(4, 2, 0)), // of a greater one
		by(2, id, n, news(1, 0, 0, row(1, 2))), by(2, id, n, begun(1, 0, row(1, 2))), by(2, id, n, get(1, 0)), by(2, id, n, recovers(3)),
		by(2, id, n, start(1)), by(2, id, n, do(1, 0, 0, nil)), by(2, id, n, prepareOK(1, 2)), by(2, id, n, api.Msg{Kind: 99, View: 1}),
		by(2, 1, n, commit(1, 2, 0)),
	}
	for i := range 6 + id {
		for _, m := range l {
			r.Hear(m)
		}
		if sent := r.Tick(); len(sent) != 0 {
			t.Fatalf("tick %d sends %v", i+1, sent)
		}
	}
	for _, m := range l {
		r.Hear(m)
	}
	sends(t, r.Tick(), toAll(id, n, start(2))...)
}

// Each phase has one timer, whatever ran ahead of it.
func TestTheOtherTimersStop(t *testing.T) {
	const n = 3
	deposed := func() *core.Replica { r := leader(t, n, 1); r.Tick(); return r }
	r := deposed() // BEAT, and then WATCH
	hears(t, r, 2, begun(1, 0, nil), by(1, 2, n, prepareOK(1, 0)))
	over(t, r, 7, toAll(1, n, start(2))...)
	r = deposed() // BEAT, and then CHANGE
	hears(t, r, 3, start(2), append(toAll(1, n, start(2)), by(1, 3, n, do(2, 0, 0, row(1, 1))))...)
	over(t, r, 9, toAll(1, n, start(3))...)
	hears(t, r, 2, do(3, 0, 0, nil), toAll(1, n, begun(3, 0, row(1, 1)))...) // CHANGE, and then BEAT
	for range 20 {
		over(t, r, 1, toAll(1, n, commit(3, 1, 0))...)
	}
	r = core.New(2, n) // WATCH, CHANGE, and then WATCH
	over(t, r, 8, toAll(2, n, start(1))...)
	for range 5 {
		r.Tick()
	}
	hears(t, r, 3, begun(2, 0, nil), by(2, 3, n, prepareOK(2, 0)))
	over(t, r, 8, toAll(2, n, start(3))...)
	r, _ = core.Restart(2, n, 1) // ASK, and then WATCH
	r.Hear(by(3, 2, n, answer(0, 1, 0, false, nil)))
	r.Hear(by(1, 2, n, answer(0, 1, 0, true, nil)))
	stands(t, r, vr.Normal, 0, 0)
	want := toAll(2, n, start(1))
	for i := range want {
		want[i].Incs = []int{0, 1, 0}
	}
	over(t, r, 8, want...)
}

func TestEveryGreaterViewSetsChangeAnew(t *testing.T) {
	r := core.New(4, 5)
	for v := 1; v < 12; v++ {
		r.Hear(by(1, 4, 5, start(v)))
		for range 12 {
			sends(t, r.Tick())
		}
		r.Hear(by(1, 4, 5, start(v))) // of the same view it does not
		stands(t, r, vr.Change, v, 0)
	}
	sends(t, r.Tick(), toAll(4, 5, start(12))...)
}
