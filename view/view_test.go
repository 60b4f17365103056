package view_test

import (
	"math"
	"math/rand/v2"
	"slices"
	"testing"

	"drover/api"
	"drover/view"
)

// The signatures that the chapter lists.
var (
	_ func(int, int) int          = view.Leader
	_ func(int) int               = view.Quorum
	_ func(int) int               = view.Faults
	_ func(int, int, int) int     = view.Next
	_ func(int) *view.Votes       = view.NewVotes
	_ func(*view.Votes, int) bool = (*view.Votes).Add
	_ func(*view.Votes, int) bool = (*view.Votes).Has
	_ func(*view.Votes) int       = (*view.Votes).Count
	_ func(*view.Votes) bool      = (*view.Votes).Enough
	_ func(*view.Votes) []int     = (*view.Votes).Nodes
	_ func(*view.Votes)           = (*view.Votes).Clear
	_ func([]api.Msg) (int, bool) = view.Choose
)

const top = 1 << 40 // the greatest view that Next takes

// counts: of so many nodes there may be; others: of so many there may not.
func counts() []int { return []int{2, 3, 4, 5} }

func others() []int {
	return []int{1, 0, 6, 7, -1, -2, -3, -5, 8, 10, 100, 1 << 31, 1<<32 + 2, 1<<32 + 3, 1<<32 + 5, -1 << 32, 1 << 62, math.MaxInt, math.MaxInt - 1, math.MinInt, math.MinInt + 1}
}

// strangers: numbers that are no node's of n.
func strangers(n int) []int {
	return []int{0, n + 1, n + 2, 8, 11, 21, -1, -2, -n, 31, 32, 33, 63, 64, 65, 66, 128, 1<<8 + 1, 1<<16 + 1, 1 << 31, 1<<32 + 1, 1<<32 + 2, -1 << 32, 1 << 62, math.MaxInt, math.MaxInt - 1, math.MinInt, math.MinInt + 1}
}

// below: views that there are not.
func below() []int { return []int{-1, -2, -3, -5, -1 << 31, -top, math.MinInt, math.MinInt + 1} }

// P8.1

func TestLeader(t *testing.T) {
	for _, n := range counts() {
		want := 1 // each node in its turn, from the first one on
		for v := range 1000 {
			if got := view.Leader(v, n); got != want {
				t.Fatalf("Leader(%d, %d): %d, want %d", v, n, got, want)
			}
			if want++; want > n {
				want = 1
			}
		}
	}
}

func TestLeaderOfGreatViews(t *testing.T) {
	for _, c := range []struct{ v, two, three, four, five int }{
		{1 << 31, 1, 3, 1, 4},
		{1<<32 - 1, 2, 1, 4, 1},
		{1 << 32, 1, 2, 1, 2},
		{top, 1, 2, 1, 2},
		{top + 1, 2, 3, 2, 3},
		{math.MaxInt - 1, 1, 1, 3, 2},
		{math.MaxInt, 2, 2, 4, 3},
	} {
		got := []int{view.Leader(c.v, 2), view.Leader(c.v, 3), view.Leader(c.v, 4), view.Leader(c.v, 5)}
		if want := []int{c.two, c.three, c.four, c.five}; !slices.Equal(got, want) {
			t.Errorf("%d is led by %v, want %v", c.v, got, want)
		}
	}
}

func TestLeaderOfNoViewAndOfAnotherCount(t *testing.T) {
	for _, n := range counts() {
		for _, v := range below() {
			if got := view.Leader(v, n); got != 0 {
				t.Errorf("Leader(%d, %d): %d", v, n, got)
			}
		}
	}
	for _, n := range others() {
		for _, v := range append(below(), 0, 1, 2, 3, 7, 100, top, math.MaxInt) {
			if got := view.Leader(v, n); got != 0 {
				t.Errorf("Leader(%d, %d): %d", v, n, got)
			}
		}
	}
}

func TestQuorumAndFaults(t *testing.T) {
	for _, c := range []struct{ n, quorum, faults int }{{2, 2, 0}, {3, 2, 1}, {4, 3, 1}, {5, 3, 2}} {
		if q, f := view.Quorum(c.n), view.Faults(c.n); q != c.quorum || f != c.faults {
			t.Errorf("of %d nodes: %d and %d, want %d and %d", c.n, q, f, c.quorum, c.faults)
		}
	}
	for _, n := range others() {
		if q, f := view.Quorum(n), view.Faults(n); q != 0 || f != 0 {
			t.Errorf("of %d nodes: %d and %d", n, q, f)
		}
	}
}

func TestTheChaptersExample(t *testing.T) {
	got := []int{view.Leader(4, 3), view.Quorum(4), view.Faults(4), view.Next(4, 1, 3)}
	if want := []int{2, 3, 1, 6}; !slices.Equal(got, want) {
		t.Errorf("%v, want %v", got, want)
	}
}

func TestNext(t *testing.T) {
	for _, n := range counts() {
		for node := 1; node <= n; node++ {
			for v := range 200 {
				want := v + 1
				for want%n != node-1 {
					want++
				}
				if got := view.Next(v, node, n); got != want {
					t.Fatalf("Next(%d, %d, %d): %d, want %d", v, node, n, got, want)
				}
			}
		}
	}
}

func TestNextOfAViewThatNodeLeadsIsAnother(t *testing.T) {
	for _, n := range counts() {
		for _, v := range []int{0, 1, 2, 3, 4, 5, 99, 1 << 31, 1 << 32, top - 1, top} {
			if got := view.Next(v, view.Leader(v, n), n); got != v+n {
				t.Errorf("behind %d its leader of %d leads %d", v, n, got)
			}
		}
	}
}

func TestNextAtTheGreatestView(t *testing.T) {
	for _, c := range []struct{ v, n int }{{top - 1, 2}, {top, 2}, {top, 3}, {top, 4}, {top, 5}} {
		for more := 1; more <= c.n; more++ {
			if got := view.Next(c.v, view.Leader(c.v+more, c.n), c.n); got != c.v+more {
				t.Errorf("behind %d, of %d: %d, want %d more", c.v, c.n, got, more)
			}
		}
	}
	for _, n := range counts() {
		for node := 1; node <= n; node++ {
			for _, v := range []int{top + 1, top + 2, 1 << 41, 1 << 62, math.MaxInt - 5, math.MaxInt - 1, math.MaxInt} {
				if got := view.Next(v, node, n); got != -1 {
					t.Errorf("Next(%d, %d, %d): %d", v, node, n, got)
				}
			}
		}
	}
}

func TestNextOfWhatMayNotBe(t *testing.T) {
	views := []int{0, 1, 2, 3, 4, 5, 100, top}
	for _, n := range counts() {
		for _, v := range below() {
			for node := 1; node <= n; node++ {
				if got := view.Next(v, node, n); got != -1 {
					t.Errorf("Next(%d, %d, %d): %d", v, node, n, got)
				}
			}
		}
		for _, node := range strangers(n) {
			for _, v := range append(below(), views...) {
				if got := view.Next(v, node, n); got != -1 {
					t.Errorf("Next(%d, %d, %d): %d", v, node, n, got)
				}
			}
		}
	}
	for _, n := range others() {
		for _, v := range append(below(), views...) {
			for node := -1; node <= 7; node++ {
				if got := view.Next(v, node, n); got != -1 {
					t.Errorf("Next(%d, %d, %d): %d", v, node, n, got)
				}
			}
		}
	}
}

// P8.2

// holds holds all that Votes of n nodes tell against who is to be there.
func holds(t *testing.T, v *view.Votes, n int, want ...int) {
	t.Helper()
	if got := v.Nodes(); !slices.Equal(got, want) || v.Count() != len(want) {
		t.Fatalf("of %d: %v, Count %d, want %v", n, got, v.Count(), want)
	}
	for node := 1; node <= n; node++ {
		if got := v.Has(node); got != slices.Contains(want, node) {
			t.Fatalf("of %d with %v: Has(%d): %v", n, want, node, got)
		}
	}
	for _, node := range strangers(n) {
		if v.Has(node) {
			t.Fatalf("of %d with %v: Has(%d)", n, want, node)
		}
	}
	if got := v.Enough(); got != (2*len(want) > n) {
		t.Fatalf("of %d with %v: Enough: %v", n, want, got)
	}
}

func TestNewVotes(t *testing.T) {
	for _, n := range counts() {
		v := view.NewVotes(n)
		if v == nil {
			t.Fatalf("NewVotes(%d) tells none", n)
		}
		holds(t, v, n)
	}
	for _, n := range others() {
		if v := view.NewVotes(n); v != nil {
			t.Errorf("NewVotes(%d) tells %v", n, *v)
		}
	}
}

func TestAdd(t *testing.T) {
	v := view.NewVotes(5)
	there := []int{}
	for _, node := range []int{4, 1, 5, 3, 2} {
		if !v.Add(node) {
			t.Fatalf("Add(%d) behind %v: false", node, there)
		}
		there = append(there, node)
		slices.Sort(there)
		holds(t, v, 5, there...)
		for _, again := range there {
			if v.Add(again) {
				t.Errorf("Add(%d) with %v: true", again, there)
			}
		}
		holds(t, v, 5, there...)
	}
}

func TestAddOfNoNode(t *testing.T) {
	for _, n := range counts() {
		v := view.NewVotes(n)
		for node := range n + 1 { // at first with nobody there, then with ever more
			if node > 0 {
				v.Add(node)
			}
			there := v.Nodes()
			for _, stranger := range strangers(n) {
				if v.Add(stranger) {
					t.Fatalf("of %d with %v: Add(%d): true", n, there, stranger)
				}
				holds(t, v, n, there...)
			}
		}
	}
}

func TestEnough(t *testing.T) {
	for _, c := range []struct{ n, first int }{{2, 2}, {3, 2}, {4, 3}, {5, 3}} {
		v := view.NewVotes(c.n)
		for node := c.n; node >= 1; node-- {
			if there := c.n - node; v.Enough() != (there >= c.first) {
				t.Errorf("%d of %d: Enough: %v", there, c.n, v.Enough())
			}
			v.Add(node)
			v.Add(node) // once more is not one more
		}
		if !v.Enough() {
			t.Errorf("all of %d are not enough", c.n)
		}
	}
}

func TestClear(t *testing.T) {
	for _, n := range counts() {
		v := view.NewVotes(n)
		v.Clear()
		holds(t, v, n)
		for range 3 {
			var there []int
			for node := 1; node <= n; node++ {
				if !v.Add(node) {
					t.Fatalf("of %d: Add(%d): false", n, node)
				}
				there = append(there, node)
				holds(t, v, n, there...)
			}
			v.Clear()
			holds(t, v, n)
			v.Clear()
			holds(t, v, n)
		}
	}
}

// sets goes over all sets of n nodes.
func sets(n int, tell func([]int)) {
	for chosen := range 1 << n {
		var set []int
		for node := 1; node <= n; node++ {
			if chosen>>(node-1)&1 == 1 {
				set = append(set, node)
			}
		}
		tell(set)
	}
}

// votesOf: Votes of n nodes, of which those of that set are there.
func votesOf(t *testing.T, n int, set []int) *view.Votes {
	t.Helper()
	v := view.NewVotes(n)
	for _, node := range set {
		if !v.Add(node) {
			t.Fatalf("of %d: Add(%d): false", n, node)
		}
	}
	return v
}

func TestAllSets(t *testing.T) {
	for _, n := range counts() {
		sets(n, func(set []int) {
			holds(t, votesOf(t, n, set), n, set...)
			back := slices.Clone(set)
			slices.Reverse(back)
			holds(t, votesOf(t, n, back), n, set...)
		})
	}
}

func TestAnyCallsAreAsOfASet(t *testing.T) {
	for seed := range uint64(40) {
		by := rand.New(rand.NewPCG(seed, 8))
		n := counts()[seed%4]
		v, there := view.NewVotes(n), []int{}
		for range 500 {
			if by.IntN(12) == 0 {
				v.Clear()
				there = nil
			}
			node := by.IntN(n+4) - 1
			want := node >= 1 && node <= n && !slices.Contains(there, node)
			if got := v.Add(node); got != want {
				t.Fatalf("of %d with %v: Add(%d): %v", n, there, node, got)
			}
			if want {
				there = append(there, node)
				slices.Sort(there)
			}
			holds(t, v, n, there...)
		}
	}
}

// P8.1 and P8.2: of nothing

func TestOfVotesThatNoCallMade(t *testing.T) {
	var zero view.Votes
	for _, v := range []*view.Votes{nil, &zero, new(view.Votes), view.NewVotes(1), view.NewVotes(6)} {
		for range 3 {
			for node := -1; node <= 7; node++ {
				if v.Add(node) || v.Has(node) {
					t.Errorf("%d is there", node)
				}
			}
			for _, node := range strangers(5) {
				if v.Add(node) || v.Has(node) {
					t.Errorf("%d is there", node)
				}
			}
			if v.Enough() {
				t.Error("nobody of no nodes is enough")
			}
			if v.Count() != 0 || len(v.Nodes()) != 0 {
				t.Errorf("Count %d, Nodes %v", v.Count(), v.Nodes())
			}
			v.Clear()
		}
	}
	if zero != (view.Votes{}) {
		t.Errorf("a zero value became %v", zero)
	}
}

// P8.3

// do: a message of Kind MsgDo with that Last, and so many Ops.
func do(last, ops int) api.Msg {
	return api.Msg{Kind: api.MsgDo, Last: last, Ops: make([]api.Op, ops)}
}

func choose(t *testing.T, want int, l ...api.Msg) {
	t.Helper()
	if got, ok := view.Choose(l); got != want || !ok {
		t.Errorf("%d, %v, want %d", got, ok, want)
	}
}

func chooseNone(t *testing.T, l ...api.Msg) {
	t.Helper()
	if got, ok := view.Choose(l); got != 0 || ok {
		t.Errorf("%d, %v of what holds none", got, ok)
	}
}

func TestChoose(t *testing.T) {
	choose(t, 0, do(0, 0))
	choose(t, 1, do(1, 0), do(2, 0))
	choose(t, 0, do(2, 0), do(1, 0))
	choose(t, 1, do(1, 9), do(2, 0)) // Last stands ahead of how many Ops there are
	choose(t, 0, do(2, 0), do(1, 9))
	choose(t, 1, do(2, 3), do(2, 4))
	choose(t, 0, do(2, 4), do(2, 3))
	choose(t, 2, do(2, 3), do(1, 5), do(2, 4), do(2, 4), do(0, 9)) // the first one of those that are as good
	choose(t, 0, do(3, 3), do(3, 3), do(3, 3))
	choose(t, 1, do(3, 0), api.Msg{Kind: api.MsgDo, Last: 3, Ops: []api.Op{{}}})
	choose(t, 0, api.Msg{Kind: api.MsgDo, Last: 3, Ops: []api.Op{}}, api.Msg{Kind: api.MsgDo, Last: 3}) // nil and empty are the same
	choose(t, 0, api.Msg{Kind: api.MsgDo, Last: 3}, api.Msg{Kind: api.MsgDo, Last: 3, Ops: []api.Op{}})
}

func TestChooseOfNone(t *testing.T) {
	chooseNone(t)
	if got, ok := view.Choose([]api.Msg{}); got != 0 || ok {
		t.Errorf("%d, %v of an empty list", got, ok)
	}
	for kind := -1; kind <= 15; kind++ {
		m := do(5, 5)
		if m.Kind = kind; kind != api.MsgDo {
			chooseNone(t, m)
			chooseNone(t, m, m, m)
		}
	}
	chooseNone(t, api.Msg{Kind: math.MaxInt}, api.Msg{Kind: math.MinInt}, api.Msg{Kind: 1<<32 + api.MsgDo})
}

func TestChooseLooksAtNoOtherKind(t *testing.T) {
	for kind := -1; kind <= 15; kind++ {
		if kind == api.MsgDo {
			continue
		}
		m := do(math.MaxInt, 50)
		m.Kind = kind
		choose(t, 1, m, do(1, 1))
		choose(t, 0, do(1, 1), m)
		choose(t, 3, m, do(1, 1), m, do(1, 2), m)
		choose(t, 1, m, do(0, 0), m, do(0, 0))
		choose(t, 1, m, do(-5, 0), m, do(-6, 9))
	}
}

func TestChooseOfLastsAtTheirEnds(t *testing.T) {
	low, high := math.MinInt, math.MaxInt
	choose(t, 1, do(low, 2), do(high, 1)) // whose difference is no int
	choose(t, 0, do(high, 1), do(low, 2))
	choose(t, 1, do(-1, 2), do(0, 1))
	choose(t, 0, do(-1, 1), do(-2, 2))
	choose(t, 0, do(low, 0)) // no less than that is none
	choose(t, 0, do(low, 0), do(low, 0))
	choose(t, 1, do(low, 0), do(low, 1))
	choose(t, 2, do(high-1, 5), do(low, 5), do(high, 0), do(high, 0))
	choose(t, 1, do(1<<32, 0), do(1<<32+1, 0))
	choose(t, 0, do(1<<32, 0), do(1, 0))
}

// What else a message says is not looked at.
func TestChooseLooksAtLastAndOpsAlone(t *testing.T) {
	most := api.Msg{
		Kind: api.MsgDo, From: 5, To: 5, View: 1 << 40, Last: 3, Num: 99, Commit: 99, Nonce: 99, Request: 99, Lead: true, Good: true, Fenced: true,
		Op: api.Op{Kind: api.OpStart}, Reply: api.Reply{State: api.Done}, Command: api.Command{View: 99}, Ops: make([]api.Op, 2), Incs: []int{9, 9, 9},
	}
	choose(t, 0, do(3, 2), most)
	choose(t, 0, most, do(3, 2))
	choose(t, 0, do(4, 0), most)
	choose(t, 1, most, do(3, 3))
	full := do(3, 2)
	full.Ops[1] = api.Op{Kind: api.OpReport, Client: 4, Request: 9, Saga: 32, Def: api.Def{Name: "a", Steps: make([]api.Step, 8)}}
	choose(t, 0, do(3, 2), full)
}

// bestOf is what the chapter says, by three goings over: of the greatest Last, of these with the most Ops, of these the first one.
func bestOf(l []api.Msg) (int, bool) {
	last, most, found := math.MinInt, 0, false
	for _, m := range l {
		if m.Kind == api.MsgDo {
			last, found = max(last, m.Last), true
		}
	}
	for _, m := range l {
		if m.Kind == api.MsgDo && m.Last == last {
			most = max(most, len(m.Ops))
		}
	}
	return max(0, slices.IndexFunc(l, func(m api.Msg) bool { return m.Kind == api.MsgDo && m.Last == last && len(m.Ops) == most })), found
}

func TestAnyListIsChosenFrom(t *testing.T) {
	for seed := range uint64(200) {
		by := rand.New(rand.NewPCG(seed, 9))
		for range 50 {
			l := make([]api.Msg, by.IntN(9))
			for i := range l {
				l[i] = do(by.IntN(4)-1, by.IntN(4))
				l[i].From = i
				l[i].Kind += by.IntN(4) / 3 // one of four is of another Kind
			}
			got, ok := view.Choose(l)
			if want, there := bestOf(l); got != want || ok != there {
				t.Fatalf("of %v: %d, %v, want %d, %v", l, got, ok, want, there)
			}
		}
	}
}

// P8.4

func TestAnyTwoQuorumsHaveOneInCommon(t *testing.T) {
	for _, n := range counts() {
		sets(n, func(a []int) {
			v := votesOf(t, n, a)
			if len(a) == view.Quorum(n) && !v.Enough() {
				t.Errorf("of %d %v are not enough", n, a)
			}
			if !v.Enough() {
				return
			}
			sets(n, func(b []int) {
				if votesOf(t, n, b).Enough() && !slices.ContainsFunc(b, v.Has) {
					t.Errorf("of %d both %v and %v are enough", n, a, b)
				}
			})
		})
	}
}

func TestFaultsFewerAreEnough(t *testing.T) {
	for _, n := range counts() {
		if left := n - view.Faults(n); left < view.Quorum(n) {
			t.Errorf("of %d %d are left", n, left)
		}
		sets(n, func(set []int) {
			if len(set) == n-view.Faults(n) && !votesOf(t, n, set).Enough() {
				t.Errorf("of %d %v are not enough", n, set)
			}
			if len(set) == n-view.Faults(n)-1 && votesOf(t, n, set).Enough() {
				t.Errorf("of %d one less, %v, are enough", n, set)
			}
		})
	}
}
