package view_test

import (
	"math"
	"reflect"
	"slices"
	"testing"

	"drover/api"
	"drover/view"
)

// The rules that hold everywhere, P1 and the bound, for this package. (R2: no call answers an Errno; R5 stands behind P8.2, where the chapter names it too.)

// numbers: some of all sorts, those at the ends too.
func numbers() []int {
	return []int{0, 1, 2, 3, 4, 5, 6, 7, -1, -2, -5, 10, 31, 32, 33, 63, 64, 65, 1 << 31, 1<<32 + 1, -1 << 32, top - 1, top, top + 1, 1 << 62, math.MaxInt - 5, math.MaxInt - 1, math.MaxInt, math.MinInt, math.MinInt + 1}
}

// R1, P1

func TestEveryCallEnds(t *testing.T) {
	var zero view.Votes
	all := []*view.Votes{nil, &zero, new(view.Votes)}
	for _, a := range numbers() {
		all = append(all, view.NewVotes(a))
		view.Quorum(a)
		view.Faults(a)
		view.Choose([]api.Msg{{Kind: a, Last: a}, {Kind: api.MsgDo, Last: a, View: a}, {Kind: api.MsgDo, Last: -a}})
		for _, b := range numbers() {
			view.Leader(a, b)
			for _, c := range numbers() {
				view.Next(a, b, c)
			}
		}
	}
	for _, v := range all {
		for range 2 {
			for _, node := range numbers() {
				v.Has(node)
				v.Add(node)
				v.Count()
				v.Enough()
				v.Nodes()
			}
			v.Clear()
		}
	}
	for _, l := range [][]api.Msg{nil, {}, {{}}, make([]api.Msg, 1, 9), make([]api.Msg, 0, 9), {{Kind: api.MsgDo}}, {{Kind: api.MsgDo, Ops: []api.Op{}}, {}}} {
		view.Choose(l)
	}
}

func TestVotesThatAreCopiedAsAValueAreOthers(t *testing.T) {
	v := view.NewVotes(5)
	v.Add(2)
	w := *v
	w.Add(1)
	holds(t, v, 5, 2)
	holds(t, &w, 5, 1, 2)
	v.Clear()
	v.Add(5)
	holds(t, v, 5, 5)
	holds(t, &w, 5, 1, 2)
}

// R2, R7: what may not be changes nothing

func TestAFalseChangesNothing(t *testing.T) {
	for _, n := range counts() {
		sets(n, func(set []int) {
			v := votesOf(t, n, set)
			for _, node := range append(strangers(n), set...) {
				if v.Add(node) {
					t.Fatalf("of %d with %v: Add(%d): true", n, set, node)
				}
				v.Has(node)
				v.Count()
				v.Enough()
				v.Nodes()
			}
			holds(t, v, n, set...)
		})
	}
}

// R3

func TestNodesAreNewMemory(t *testing.T) {
	for _, n := range counts() {
		sets(n, func(set []int) {
			v := votesOf(t, n, set)
			a, b := v.Nodes(), v.Nodes()
			for _, l := range [][]int{a[:cap(a)], append(a, 77, 78, 79)} {
				for i := range l {
					l[i] = -7
				}
			}
			if !slices.Equal(b, set) {
				t.Fatalf("of %d with %v: what was told became %v", n, set, b)
			}
			holds(t, v, n, set...)
			v.Clear()
			v.Add(1)
			if !slices.Equal(b, set) {
				t.Fatalf("of %d with %v: what was told became %v behind Clear", n, set, b)
			}
		})
	}
}

func TestChooseChangesNothing(t *testing.T) {
	make9 := func() []api.Msg {
		l := make([]api.Msg, 9)
		for i := range l {
			l[i] = do(i*5%7, i*3%4)
			l[i].From, l[i].Incs = i, []int{i, i}
			for j := range l[i].Ops {
				l[i].Ops[j] = api.Op{Kind: api.OpStart, Request: 10*i + j, Def: api.Def{Steps: []api.Step{{Name: "a", Stub: j}}}}
			}
		}
		return l
	}
	l := make9()
	for long := range len(l) + 1 {
		view.Choose(l[:long])
		if !reflect.DeepEqual(l, make9()) {
			t.Fatalf("behind Choose of %d: %v", long, l)
		}
	}
}

func TestChooseDoesNotLookBehindAListsEnd(t *testing.T) {
	l := []api.Msg{do(1, 1), do(2, 1), do(3, 1)}
	choose(t, 1, l[:2]...)
	chooseNone(t, l[:0]...)
	ops := make([]api.Op, 5)
	short := api.Msg{Kind: api.MsgDo, Ops: ops[:1]} // room is not there
	choose(t, 1, short, do(0, 2))
}

func TestWhatChooseWasGivenIsNotKept(t *testing.T) {
	l := []api.Msg{do(5, 1), do(4, 1)}
	choose(t, 0, l...)
	l[0], l[1] = do(1, 1), do(2, 1)
	choose(t, 1, l...)
	l[1].Kind = api.MsgCommit
	choose(t, 0, l...)
}

// R4

func TestVotesKnowNothingOfEachOther(t *testing.T) {
	a, b, c := view.NewVotes(5), view.NewVotes(5), view.NewVotes(3)
	for i := range 2000 {
		node := i * 7 % 11
		if x, y := a.Add(node), b.Add(node); x != y {
			t.Fatalf("Add %d: %v and %v", i, x, y)
		}
		c.Add(node % 3)
		if i%13 == 0 {
			a.Clear()
			view.NewVotes(5).Add(node)
			b.Clear()
		}
		c.Clear()
		holds(t, b, 5, a.Nodes()...)
		holds(t, c, 3)
	}
}

func TestAnswersAreTheSameAgain(t *testing.T) {
	l := []api.Msg{do(1, 1), do(2, 5), {}, do(2, 5)}
	for range 100 {
		if view.Leader(7, 5) != 3 || view.Next(7, 3, 5) != 12 || view.Quorum(5) != 3 || view.Faults(5) != 2 {
			t.Fatal("another answer than at first")
		}
		choose(t, 1, l...)
	}
}

// R6

func TestNothingWraps(t *testing.T) {
	for _, n := range counts() {
		for less := range 10 {
			v := math.MaxInt - less
			if got := view.Leader(v, n); got != int(uint64(v)%uint64(n))+1 {
				t.Errorf("Leader(%d, %d): %d", v, n, got)
			}
			for node := 1; node <= n; node++ {
				if got := view.Next(v, node, n); got != -1 {
					t.Errorf("Next(%d, %d, %d): %d", v, node, n, got)
				}
			}
		}
	}
	for _, n := range []int{math.MinInt, math.MinInt + 1, math.MaxInt} { // of which one less, or half and one, is another count
		if view.Faults(n) != 0 || view.Quorum(n) != 0 || view.Leader(math.MaxInt, n) != 0 || view.NewVotes(n) != nil {
			t.Errorf("there may be %d nodes", n)
		}
	}
}

// The bound, and the language's rule 8

func TestMuchIsChosenFrom(t *testing.T) {
	l := make([]api.Msg, 20000)
	for i := range l {
		l[i] = do(i%100, 0)
	}
	choose(t, 99, l...)
	l[19999] = do(99, api.MaxOps)
	choose(t, 19999, l...)
	l[19999].Last = 98
	choose(t, 99, l...)
	clear(l)
	chooseNone(t, l...)
}

func TestNextIsFoundAtOnce(t *testing.T) {
	for v := range 1 << 20 {
		if got := view.Next(top-v, 1+v%5, 5); got <= top-v || got > top-v+5 {
			t.Fatalf("Next(%d, %d, 5): %d", top-v, 1+v%5, got)
		}
	}
}

func TestNoMoreIsKeptThanWhoVoted(t *testing.T) {
	v, i := view.NewVotes(5), 0
	if some := testing.AllocsPerRun(1000, func() {
		i++
		v.Add(i % 7)
		v.Has(i % 7)
		v.Enough()
		if i%11 == 0 {
			v.Clear()
		}
	}); some != 0 {
		t.Errorf("%v things are kept anew for each vote", some)
	}
}
