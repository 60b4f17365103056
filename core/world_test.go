package core_test

import (
	"math/rand/v2"
	"slices"
	"testing"

	"drover/api"
	"drover/core"
	"drover/oplog"
	"drover/view"
	"drover/vr"
)

// world is some nodes, those that are down being nil, and the messages between them, each of which may be heard at any time, more than once, or never.
type world struct {
	t       *testing.T
	by      *rand.Rand
	nodes   []*core.Replica
	bag     []api.Msg
	taken   []int    // by nodes, how many operations were taken
	ledger  []api.Op // what was committed anywhere
	starts  int
	ops     int
	changes int // how often some node entered a view as its leader
	healed  int // how often some node began to take part again that was started anew
}

func newWorld(t *testing.T, n int, seed uint64) *world {
	w := &world{t: t, by: rand.New(rand.NewPCG(seed, 110)), nodes: make([]*core.Replica, n), taken: make([]int, n)}
	for i := range w.nodes {
		w.nodes[i] = core.New(i+1, n)
	}
	return w
}

// weak: how many nodes are down, or know nothing yet.
func (w *world) weak() int {
	n := 0
	for _, r := range w.nodes {
		if r == nil || r.Status().Phase == vr.Recover {
			n++
		}
	}
	return n
}

// sent: those messages are under way; of too many some are lost.
func (w *world) sent(l []api.Msg) {
	w.bag = append(w.bag, l...)
	for len(w.bag) > 60 {
		w.lose(w.by.IntN(len(w.bag)))
	}
}

func (w *world) lose(i int) { w.bag = slices.Delete(w.bag, i, i+1) }

// hear: the i-th message is heard, and lost, or kept to be heard again.
func (w *world) hear(i int, again bool) {
	m := w.bag[i]
	if !again {
		w.lose(i)
	}
	r := w.nodes[m.To-1]
	if r == nil {
		return
	}
	was := r.Status().Phase
	l := r.Hear(m)
	now := r.Status().Phase
	if was == vr.Change && r.Leads() {
		w.changes++
	}
	if was == vr.Recover && now == vr.Normal {
		w.healed++
	}
	w.sent(l)
}

func (w *world) propose(i int) {
	if w.nodes[i] == nil {
		return
	}
	l, err := w.nodes[i].Propose(api.Op{Kind: api.OpStatus, Saga: w.ops + 1})
	if err == api.OK {
		w.ops++
		w.sent(l)
	}
}

// crash: the node knows nothing any more, if so many may be so at once.
func (w *world) crash(i int) {
	r := w.nodes[i]
	if r == nil || r.Status().Phase != vr.Recover && w.weak() >= view.Faults(len(w.nodes)) {
		return
	}
	w.nodes[i], w.taken[i] = nil, 0
}

func (w *world) start(i int) {
	if w.nodes[i] != nil {
		return
	}
	w.starts++
	r, l := core.Restart(i+1, len(w.nodes), w.starts)
	w.nodes[i] = r
	w.sent(l)
}

func (w *world) tick(i int) {
	if w.nodes[i] != nil {
		w.sent(w.nodes[i].Tick())
	}
}

func (w *world) step(calm int) {
	i := w.by.IntN(len(w.nodes))
	switch k := w.by.IntN(calm + 40); {
	case k < 4:
		w.tick(i)
	case k < 6:
		w.propose(i)
	case k < 7:
		w.crash(i)
	case k < 10:
		w.start(i)
	case len(w.bag) == 0:
		w.tick(i)
	case k < 12:
		w.lose(w.by.IntN(len(w.bag)))
	case k < 15:
		w.hear(w.by.IntN(len(w.bag)), true)
	case k < 30:
		w.hear(w.by.IntN(len(w.bag)), false)
	default:
		w.hear(0, false)
	}
}

// agree: what is committed in any node is what was committed there, in it and in all others.
func (w *world) agree() {
	w.t.Helper()
	for i, r := range w.nodes {
		if r == nil {
			continue
		}
		l := r.Log()[:r.Committed()]
		if oplog.Prefix(l, w.ledger) < min(len(l), len(w.ledger)) {
			w.t.Fatalf("node %d committed %v, others %v", i+1, l, w.ledger)
		}
		if len(l) > len(w.ledger) {
			w.ledger = l
		}
		was := w.taken[i]
		taken := r.Take()
		w.taken[i] += len(taken)
		if w.taken[i] != len(l) || oplog.Prefix(taken, l[was:]) < len(taken) {
			w.t.Fatalf("node %d took %v behind %d, of %v", i+1, taken, was, l)
		}
	}
}

func TestWhatIsCommittedIsTheSameInAllNodes(t *testing.T) {
	for _, n := range counts() {
		changes, healed, committed := 0, 0, 0
		for seed := range uint64(50) {
			w := newWorld(t, n, seed)
			for range 2000 {
				w.step(int(seed))
				w.agree()
			}
			changes, healed, committed = changes+w.changes, healed+w.healed, committed+len(w.ledger)
		}
		if changes < 100 || committed < 300 || healed < 300 && n > 2 { // of two nodes none may be down
			t.Errorf("of %d nodes little came about: %d views, %d that were started anew, %d operations", n, changes, healed, committed)
		}
	}
}

// settle: all are up, and all that is sent is heard, as it was sent.
func (w *world) settle() {
	for i := range w.nodes {
		w.start(i)
	}
	for range 200 {
		for len(w.bag) > 0 {
			w.hear(0, false)
			w.agree()
		}
		for i := range w.nodes {
			w.tick(i)
		}
	}
}

func TestNodesThatHearAllGoOn(t *testing.T) {
	for _, n := range counts() {
		for seed := range uint64(50) {
			w := newWorld(t, n, 1000+seed)
			for range 500 {
				w.step(int(seed))
			}
			w.settle()
			for i := range w.nodes {
				w.propose(i) // one of them leads
			}
			w.settle()
			for _, r := range w.nodes {
				s, first := r.Status(), w.nodes[0].Status()
				if s.Phase != vr.Normal || s.View != first.View || r.Committed() != w.nodes[0].Committed() || r.Log()[r.Committed()-1].Saga != w.ops {
					t.Fatalf("of seed %d: %v and %v, committed %v", seed, s, first, r.Log()[:r.Committed()])
				}
			}
		}
	}
}

// told: those of l that go to one of the nodes are heard: what is sent then.
func (w *world) told(l []api.Msg, to ...int) []api.Msg {
	var sent []api.Msg
	for _, m := range l {
		if slices.Contains(to, m.To) {
			sent = append(sent, w.nodes[m.To-1].Hear(m)...)
		}
	}
	return sent
}

// anew: the node knows nothing any more, and learns all from the others.
func (w *world) anew(node int, from ...int) {
	w.t.Helper()
	w.starts++
	r, asks := core.Restart(node, len(w.nodes), w.starts)
	w.nodes[node-1], w.taken[node-1] = r, 0
	w.told(w.told(asks, from...), node)
	if r.Status().Phase != vr.Normal {
		w.t.Fatalf("node %d learned nothing: %v", node, r.Status())
	}
}

// silent: what the node sends when it heard nothing for so long that it wants another view.
func (w *world) silent(node int) []api.Msg {
	var l []api.Msg
	for w.nodes[node-1].Status().Phase == vr.Normal {
		l = w.nodes[node-1].Tick()
	}
	return l
}

// Nodes 3, 4 and 5 want view 1, or tell node 2 their logs for it, and are started anew, one behind the other; what they said ahead comes late, when an operation was committed that they knew nothing of.
func TestWhatElderIncarnationsSaidBeginsNoView(t *testing.T) {
	w := newWorld(t, 5, 0)
	three := w.silent(3)
	w.anew(3, 1, 4, 5)
	two := w.silent(2)
	five := w.told(slices.Concat(two, three), 5)
	w.anew(5, 1, 3, 4)
	four := w.told(slices.Concat(two, three), 4)
	w.anew(4, 1, 3, 5)
	l, err := w.nodes[0].Propose(api.Op{Kind: api.OpStatus, Saga: 1})
	if err != api.OK {
		t.Fatal(err)
	}
	w.told(w.told(l, 3, 4, 5), 1)
	w.agree()
	if len(w.ledger) != 1 {
		t.Fatalf("committed is %v", w.ledger)
	}
	for _, late := range [][]api.Msg{four, five, three} {
		w.told(w.told(late, 2), 1, 3, 4, 5)
		w.agree()
	}
	if r := w.nodes[1]; r.Leads() {
		t.Errorf("node 2 leads view %d with %v", r.Status().View, r.Log())
	}
}
