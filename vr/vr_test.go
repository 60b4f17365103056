package vr_test

import (
	"math"
	"math/rand/v2"
	"reflect"
	"slices"
	"testing"

	"drover/api"
	"drover/view"
	"drover/vr"
)

// The signatures that the chapter lists.
var (
	_ func(vr.Status) bool                   = vr.Leads
	_ func([]int, []int) []int               = vr.Merge
	_ func([]int, api.Msg) bool              = vr.Stale
	_ func(vr.Status, api.Msg) int           = vr.Follows
	_ func([]int, int, int) int              = vr.Reached
	_ func([]api.Msg, int, int) (int, bool)  = vr.Recovered
	_ func([]api.Msg, []int) []api.Msg       = vr.Fresh
	_ struct{ Id, N, Phase, View, Last int } = vr.Status{}
)

const (
	low  = math.MinInt
	high = math.MaxInt
	far  = 1 << 32 // what is as much above another number is alike in its low half
)

// counts: of so many nodes there may be; others: of so many there may not.
func counts() []int { return []int{2, 3, 4, 5} }

func others() []int {
	return []int{0, 1, 6, 7, -1, -2, -3, -5, 8, 10, 100, 1 << 31, far + 2, far + 3, far + 5, -far, 1 << 62, high, high - 1, low, low + 1}
}

// phases: all that there are; noPhases: numbers that are none.
func phases() []int { return []int{vr.Normal, vr.Change, vr.Recover} }

func noPhases() []int {
	return []int{0, 4, 5, -1, -2, -3, far + 1, far + 2, far + 3, high, low, low + 1}
}

// strangers: numbers that are no node's of n, or of fewer.
func strangers(n int) []int {
	return []int{0, n + 1, n + 2, 8, 11, 21, -1, -2, -n, 64, 1<<8 + 1, 1<<16 + 1, 1 << 31, far + 1, far + 2, -far, 1 << 62, high, high - 1, low, low + 1}
}

func TestPhasesAreNumbersThatStandFast(t *testing.T) {
	if want := []int{1, 2, 3}; !slices.Equal(phases(), want) {
		t.Errorf("%v, want %v", phases(), want)
	}
}

func TestTheChaptersExample(t *testing.T) {
	if got := vr.Reached([]int{5, 3, 4}, 5, 3); got != 4 {
		t.Errorf("Reached: %d", got)
	}
	if got := vr.Merge([]int{1, 2}, []int{3}); !slices.Equal(got, []int{3, 2}) {
		t.Errorf("Merge: %v", got)
	}
}

// P10.1: Leads

func TestLeads(t *testing.T) {
	for _, n := range counts() {
		leader := 1 // each node in its turn, from the first one on
		for v := range 40 {
			for id := -1; id <= n+2; id++ {
				for _, last := range []int{0, v, v + 1, -1, high, low} { // is not looked at
					s := vr.Status{Id: id, N: n, Phase: vr.Normal, View: v, Last: last}
					if got := vr.Leads(s); got != (id == leader) {
						t.Errorf("%+v leads: %v", s, got)
					}
				}
			}
			if leader++; leader > n {
				leader = 1
			}
		}
	}
}

func TestNobodyLeadsInAnotherPhase(t *testing.T) {
	for _, phase := range append(noPhases(), vr.Change, vr.Recover) {
		for _, n := range counts() {
			for v := range 12 {
				for id := range n + 2 {
					if s := (vr.Status{Id: id, N: n, Phase: phase, View: v, Last: v}); vr.Leads(s) {
						t.Errorf("%+v leads", s)
					}
				}
			}
		}
	}
}

func TestNoNodeLeads(t *testing.T) {
	for _, n := range counts() {
		for _, id := range strangers(n) {
			for v := -3; v < 12; v++ {
				if s := (vr.Status{Id: id, N: n, Phase: vr.Normal, View: v}); vr.Leads(s) {
					t.Errorf("%+v leads", s)
				}
			}
		}
	}
}

func TestNobodyLeadsWhatHasNoLeader(t *testing.T) {
	for id := -1; id <= 6; id++ { // 0 among them, which is told where there is no leader
		for _, n := range others() {
			for v := -2; v < 10; v++ {
				if s := (vr.Status{Id: id, N: n, Phase: vr.Normal, View: v}); vr.Leads(s) {
					t.Errorf("%+v leads", s)
				}
			}
		}
		for _, n := range counts() {
			for _, v := range []int{-1, -2, -3, -4, -5, -far, low, low + 1} {
				if s := (vr.Status{Id: id, N: n, Phase: vr.Normal, View: v}); vr.Leads(s) {
					t.Errorf("%+v leads", s)
				}
			}
		}
	}
	if vr.Leads(vr.Status{}) {
		t.Error("nobody leads nothing")
	}
}

func TestGreatViewsAreLed(t *testing.T) {
	for _, n := range counts() {
		for _, v := range []int{1 << 31, far, 1 << 40, high - 1, high} {
			for id := 1; id <= n; id++ {
				s := vr.Status{Id: id, N: n, Phase: vr.Normal, View: v}
				if got := vr.Leads(s); got != (v%n == id-1) {
					t.Errorf("%+v leads: %v", s, got)
				}
			}
		}
	}
}

// P10.1: Merge

func TestMerge(t *testing.T) {
	for _, c := range []struct{ a, b, want []int }{
		{nil, nil, nil},
		{nil, []int{1, 2}, nil},
		{[]int{}, []int{}, nil},
		{[]int{1, 2}, nil, []int{1, 2}},
		{[]int{1, 2}, []int{}, []int{1, 2}},
		{[]int{1, 2}, []int{2, 1}, []int{2, 2}},
		{[]int{1, 2}, []int{0, 3}, []int{1, 3}},
		{[]int{4, 4}, []int{4, 4}, []int{4, 4}},
		{[]int{1, 2, 3}, []int{0, 9}, []int{1, 9, 3}},
		{[]int{1}, []int{0, 9, 8}, []int{1}},
		{[]int{1}, []int{3, 9, 8}, []int{3}},
		{[]int{0, 0, 0, 0, 0}, []int{5, 4, 3, 2, 1}, []int{5, 4, 3, 2, 1}},
		{[]int{-1, -1}, []int{-2}, []int{-1, 0}}, // what b lacks counts as 0, and what it has as it is
		{[]int{-2, -1}, []int{-1, -2}, []int{-1, -1}},
		{[]int{low, high, low, high, low}, []int{high, low, low, high}, []int{high, high, low, high, 0}},
		{[]int{far, 1, far + 1}, []int{1, far, far}, []int{far, far, far + 1}},
	} {
		if got := vr.Merge(c.a, c.b); !slices.Equal(got, c.want) {
			t.Errorf("Merge(%v, %v): %v, want %v", c.a, c.b, got, c.want)
		}
	}
}

func TestMergeOfAnyLists(t *testing.T) {
	for seed := range uint64(100) {
		by := rand.New(rand.NewPCG(seed, 101))
		a, b := make([]int, by.IntN(8)), make([]int, by.IntN(8))
		for _, l := range [][]int{a, b} {
			for i := range l {
				l[i] = by.IntN(9) - 3
			}
		}
		got := vr.Merge(a, b)
		if len(got) != len(a) {
			t.Fatalf("Merge(%v, %v): %v", a, b, got)
		}
		long := append(slices.Clone(b), make([]int, len(a))...)
		for i, n := range got {
			if n < a[i] || n < long[i] || n != a[i] && n != long[i] {
				t.Fatalf("Merge(%v, %v): %v", a, b, got)
			}
		}
		if again := vr.Merge(got, b); !slices.Equal(again, got) {
			t.Fatalf("Merge(%v, %v) once more: %v", got, b, again)
		}
	}
}

// P10.1: Stale

// of: a message from that node with those incarnations.
func of(from int, incs ...int) api.Msg { return api.Msg{Kind: api.MsgCommit, From: from, Incs: incs} }

func TestStale(t *testing.T) {
	for _, c := range []struct {
		incs []int
		m    api.Msg
		want bool
	}{
		{[]int{0, 0, 0}, of(1, 0, 0, 0), false},
		{[]int{0, 0, 0}, of(3, 0, 0, 0), false},
		{[]int{0, 5, 0}, of(2, 0, 4, 0), true},
		{[]int{0, 5, 0}, of(2, 0, 5, 0), false},
		{[]int{0, 5, 0}, of(2, 0, 6, 0), false},
		{[]int{5, 0, 0}, of(1, 4, 0, 0), true},
		{[]int{0, 0, 5}, of(3, 0, 0, 4), true},
		{[]int{9, 5, 9}, of(2, 0, 5, 0), false}, // what it knows of others is not looked at
		{[]int{0, 5, 0}, of(2, 9, 4, 9), true},
		{[]int{1}, of(1, 1), false},
		{[]int{1}, of(1, 0), true},
		{[]int{0, 5}, of(2, 0, 5, 7, 7), false}, // a place of both, though one is longer
		{[]int{0, 5, 7, 7}, of(2, 0, 5), false},
		{[]int{0, 5, 7, 7}, of(2, 0, 4), true},
		{[]int{0, low}, of(2, 0, low), false},
		{[]int{0, low + 1}, of(2, 0, low), true},
		{[]int{0, high}, of(2, 0, low), true}, // whose difference is no int
		{[]int{0, low}, of(2, 0, high), false},
		{[]int{0, far}, of(2, 0, 1), true},
		{[]int{0, 1}, of(2, 0, far), false},
	} {
		if got := vr.Stale(c.incs, c.m); got != c.want {
			t.Errorf("Stale(%v, From %d %v): %v", c.incs, c.m.From, c.m.Incs, got)
		}
	}
}

func TestWhatIsFromNoPlaceOfBothIsStale(t *testing.T) {
	for long := range 7 {
		for known := range 7 {
			incs, told := make([]int, known), make([]int, long)
			for i := range told {
				told[i] = 9 // not elder
			}
			for from := 1; from <= 8; from++ {
				if got, want := vr.Stale(incs, of(from, told...)), from > long || from > known; got != want {
					t.Errorf("from %d, of %d and %d places: %v", from, known, long, got)
				}
			}
			for _, from := range strangers(max(long, known)) {
				if !vr.Stale(incs, of(from, told...)) {
					t.Errorf("from %d, of %d and %d places: not Stale", from, known, long)
				}
			}
		}
	}
}

func TestRoomBehindAListsEndIsNoPlace(t *testing.T) {
	room := []int{0, 9, 9}
	if !vr.Stale(room[:1], of(2, 0, 9, 9)) || !vr.Stale([]int{0, 0, 0}, of(2, room[:1]...)) || vr.Stale(room[:2], of(2, room[:2]...)) {
		t.Error("what lies behind a list's end was looked at")
	}
}

// full: a message with something in each field, from node 2.
func full() api.Msg {
	o := api.Op{Kind: 1, Client: 2, Request: 3, Def: api.Def{Name: "d", Steps: []api.Step{{Name: "s", Stub: 4, Retry: 5, Wait: 6, Undo: true, Pivot: true}, {Name: "t"}}}, Saga: 7, Step: 8, Try: 9, Back: true, Good: true}
	other := o
	other.Def.Steps = []api.Step{{Name: "u", Stub: 3}}
	return api.Msg{
		Kind: api.MsgRecovered, From: 2, To: 3, View: 4, Last: 5, Num: 6, Commit: 7, Nonce: 8, Request: 9, Lead: true, Good: true, Fenced: true, Op: o,
		Reply: api.Reply{Err: api.ErrLate, Saga: 1, State: 2, Step: 3}, Command: api.Command{View: 1, Stub: 2, Saga: 3, Step: 4, Try: 5, Back: true},
		Ops: []api.Op{other, {Kind: 3}, other}, Incs: []int{1, 2, 3},
	}
}

// What else a message says is not looked at.
func TestStaleLooksAtFromAndIncsAlone(t *testing.T) {
	for kind := -1; kind <= 15; kind++ {
		for _, m := range []api.Msg{full(), {From: 2, Incs: []int{1, 2, 3}}} {
			m.Kind = kind
			if vr.Stale([]int{9, 2, 9}, m) || !vr.Stale([]int{0, 3, 0}, m) || !vr.Stale([]int{9}, m) {
				t.Errorf("of Kind %d it is otherwise", kind)
			}
		}
	}
}

// P10.1: Fresh

// nums: what each message of l has as its Num.
func nums(l []api.Msg) []int {
	var told []int
	for _, m := range l {
		told = append(told, m.Num)
	}
	return told
}

// numbered: each message of l with its place, from 0 on, as its Num.
func numbered(l ...api.Msg) []api.Msg {
	for i := range l {
		l[i].Num = i
	}
	return l
}

func TestFresh(t *testing.T) {
	l := numbered(of(1, 3, 0), of(2, 0, 4), of(1, 4, 0), of(3, 0, 0, 9), of(2, 0, 5), of(0, 9, 9), of(1, 9), of(2, 9), of(1, 3, 0))
	for _, c := range []struct{ incs, want []int }{
		{[]int{0, 0}, []int{0, 1, 2, 4, 6, 8}},
		{[]int{0, 0, 0}, []int{0, 1, 2, 3, 4, 6, 8}},
		{[]int{4, 5}, []int{2, 4, 6}},
		{[]int{4, 0}, []int{1, 2, 4, 6}},
		{[]int{0, 5}, []int{0, 2, 4, 6, 8}},
		{[]int{3}, []int{0, 2, 6, 8}},
		{[]int{10, 10, 10}, nil},
		{[]int{}, nil},
		{nil, nil},
	} {
		if got := nums(vr.Fresh(l, c.incs)); !slices.Equal(got, c.want) {
			t.Errorf("of %v there are %v, want %v", c.incs, got, c.want)
		}
	}
	if len(vr.Fresh(nil, []int{0})) != 0 || len(vr.Fresh([]api.Msg{}, []int{0})) != 0 {
		t.Error("of no messages there are some")
	}
}

func TestFreshTellsMessagesWhole(t *testing.T) {
	plain := of(1, 5)
	got := vr.Fresh([]api.Msg{full(), {}, plain, full()}, []int{5, 2})
	if want := []api.Msg{full(), plain, full()}; !reflect.DeepEqual(got, want) {
		t.Errorf("%v, want %v", got, want)
	}
}

func TestFreshIsWhatIsNotStale(t *testing.T) {
	for seed := range uint64(200) {
		by := rand.New(rand.NewPCG(seed, 102))
		some := func(most int) []int {
			l := make([]int, by.IntN(most))
			for i := range l {
				l[i] = by.IntN(3)
			}
			return l
		}
		l := make([]api.Msg, by.IntN(9))
		for i := range l {
			l[i] = of(by.IntN(6), some(6)...)
		}
		numbered(l...)
		incs := some(6)
		var want []int
		for i, m := range l {
			if from := m.From; from >= 1 && from <= len(incs) && from <= len(m.Incs) && m.Incs[from-1] >= incs[from-1] {
				want = append(want, i)
			}
		}
		if got := nums(vr.Fresh(l, incs)); !slices.Equal(got, want) {
			t.Fatalf("of %v and %v: %v, want %v", l, incs, got, want)
		}
	}
}

// P10.2

func TestFollows(t *testing.T) {
	for _, c := range []struct{ phase, less, same, greater int }{
		{vr.Normal, 0, 1, 3},
		{vr.Change, 0, 2, 3},
		{vr.Recover, 0, 0, 0},
	} {
		for _, v := range []int{0, 1, 2, 7, 1 << 31, far, 1 << 40, high - 1} {
			s := vr.Status{Id: 1, N: 3, Phase: c.phase, View: v}
			got := []int{vr.Follows(s, api.Msg{View: v - 1}), vr.Follows(s, api.Msg{View: v}), vr.Follows(s, api.Msg{View: v + 1})}
			if want := []int{c.less, c.same, c.greater}; !slices.Equal(got, want) {
				t.Errorf("at view %d in phase %d: %v, want %v", v, c.phase, got, want)
			}
		}
	}
}

func TestFollowsOfViewsAtTheirEnds(t *testing.T) {
	views := []int{low, low + 1, -far, -1, 0, 1, far, far + 1, 1 << 62, high - 1, high}
	for i, own := range views {
		for j, other := range views {
			want := 0
			if j > i {
				want = 3
			}
			for phase, same := range map[int]int{vr.Normal: 1, vr.Change: 2} {
				if i == j {
					want = same
				}
				if got := vr.Follows(vr.Status{Phase: phase, View: own}, api.Msg{View: other}); got != want {
					t.Errorf("at view %d in phase %d, of view %d: %d, want %d", own, phase, other, got, want)
				}
			}
			if got := vr.Follows(vr.Status{Phase: vr.Recover, View: own}, api.Msg{View: other}); got != 0 {
				t.Errorf("at view %d, started anew, of view %d: %d", own, other, got)
			}
		}
	}
}

// Of a phase that is none a greater view is greater all the same; of its own view nothing is said.
func TestFollowsInNoPhase(t *testing.T) {
	for _, phase := range noPhases() {
		s := vr.Status{Id: 1, N: 3, Phase: phase, View: 5}
		got := []int{vr.Follows(s, api.Msg{View: 4}), vr.Follows(s, api.Msg{View: 5}), vr.Follows(s, api.Msg{View: 6})}
		if want := []int{0, 0, 3}; !slices.Equal(got, want) {
			t.Errorf("in phase %d: %v, want %v", phase, got, want)
		}
	}
}

// What else a message says, and who the node is, is not looked at.
func TestFollowsLooksAtViewsAndPhaseAlone(t *testing.T) {
	for kind := -1; kind <= 15; kind++ {
		m := full()
		m.Kind = kind
		for id := -1; id <= 6; id++ {
			for _, phase := range []int{vr.Normal, vr.Change} {
				s := vr.Status{Id: id, N: id - 1, Phase: phase, View: m.View, Last: m.View + id}
				got := []int{vr.Follows(s, m)}
				s.View = m.View - 1
				got = append(got, vr.Follows(s, m))
				s.View = m.View + 1
				got = append(got, vr.Follows(s, m))
				if want := []int{phase, 3, 0}; !slices.Equal(got, want) {
					t.Errorf("%+v, of Kind %d: %v, want %v", s, kind, got, want)
				}
			}
		}
	}
}

// P10.3: Reached

func TestReached(t *testing.T) {
	for _, c := range []struct {
		acks          []int
		last, n, want int
	}{
		{[]int{1, 1}, 1, 2, 1},
		{[]int{1, 0}, 1, 2, 0}, // of two both are needed
		{[]int{0, 9}, 9, 2, 0},
		{[]int{7, 9}, 9, 2, 7},
		{[]int{9, 7}, 9, 2, 7},
		{[]int{0, 0, 0}, 5, 3, 0},
		{[]int{5, 0, 0}, 5, 3, 0},
		{[]int{5, 0, 2}, 5, 3, 2},
		{[]int{0, 5, 2}, 5, 3, 2},
		{[]int{2, 5, 5}, 5, 3, 5},
		{[]int{5, 5, 5}, 5, 3, 5},
		{[]int{4, 3, 2, 1}, 4, 4, 2},
		{[]int{1, 2, 3, 4}, 4, 4, 2},
		{[]int{4, 4, 0, 0}, 4, 4, 0}, // half of them are not enough
		{[]int{4, 4, 1, 0}, 4, 4, 1},
		{[]int{5, 4, 3, 2, 1}, 5, 5, 3},
		{[]int{1, 5, 2, 4, 3}, 5, 5, 3},
		{[]int{9, 9, 0, 0, 0}, 9, 5, 0},
		{[]int{9, 9, 0, 1, 0}, 9, 5, 1},
		{[]int{9, 9, 9, 9, 9}, 4, 5, 4}, // up to last
		{[]int{9, 9, 9, 9, 9}, 1, 5, 1},
		{[]int{9, 9, 9, 9, 9}, 0, 5, 0},
		{[]int{9, 9, 9, 9, 9}, -1, 5, 0},
		{[]int{9, 9, 9, 9, 9}, low, 5, 0},
		{[]int{9, 3, 3}, 4, 3, 3},
		{[]int{9, 5, 3}, 4, 3, 4},
		{[]int{-1, -2, 5}, 5, 3, 0},
		{[]int{low, low, low}, high, 3, 0},
		{[]int{low, high, high}, high, 3, high},
		{[]int{high, high - 1, low}, high, 3, high - 1},
		{[]int{high, high, high}, high - 1, 3, high - 1},
		{[]int{far + 1, 1, far}, high, 3, far},
		{[]int{1, 1, far}, far, 3, 1},
		{nil, 5, 3, 0},
		{[]int{}, 5, 3, 0},
		{[]int{5}, 5, 2, 0}, // as many as are enough have to be there
		{[]int{5}, 5, 3, 0},
		{[]int{5, 4}, 5, 3, 4},
		{[]int{5, 4}, 5, 4, 0},
		{[]int{5, 4, 3}, 5, 5, 3},
	} {
		if got := vr.Reached(c.acks, c.last, c.n); got != c.want {
			t.Errorf("Reached(%v, %d, %d): %d, want %d", c.acks, c.last, c.n, got, c.want)
		}
	}
}

func TestReachedOfAnotherCount(t *testing.T) {
	for _, n := range others() {
		for long := range 9 {
			acks := slices.Repeat([]int{5}, long)
			for _, last := range []int{-1, 0, 1, 5, 9, high} {
				if got := vr.Reached(acks, last, n); got != 0 {
					t.Errorf("Reached(%v, %d, %d): %d", acks, last, n, got)
				}
			}
		}
	}
}

// reaches: do as many of the acks reach num as are enough of n?
func reaches(acks []int, num, n int) bool {
	some := 0
	for _, ack := range acks {
		if ack >= num {
			some++
		}
	}
	return 2*some > n
}

// lists goes over all lists of so many numbers from 0 to most.
func lists(long, most int, tell func([]int)) {
	l := make([]int, long)
	for {
		tell(l)
		i := 0
		for i < long && l[i] == most {
			l[i] = 0
			i++
		}
		if i == long {
			return
		}
		l[i]++
	}
}

func TestReachedIsTheGreatestThatEnoughReach(t *testing.T) {
	const most = 4
	for _, n := range counts() {
		lists(n, most, func(acks []int) {
			for last := range most + 2 {
				want := 0
				for num := 1; num <= last; num++ {
					if reaches(acks, num, n) {
						want = num
					}
				}
				if got := vr.Reached(acks, last, n); got != want {
					t.Fatalf("Reached(%v, %d, %d): %d, want %d", acks, last, n, got, want)
				}
			}
		})
	}
}

// P10.3: Recovered

const nonce = 7

// told: an answer to the nonce.
func told(from, v int, lead bool) api.Msg {
	return api.Msg{Kind: api.MsgRecovered, From: from, View: v, Nonce: nonce, Lead: lead}
}

// with: m behind a change.
func with(m api.Msg, change func(m *api.Msg)) api.Msg {
	change(&m)
	return m
}

func recovered(t *testing.T, want, n int, l ...api.Msg) {
	t.Helper()
	if got, ok := vr.Recovered(l, nonce, n); got != want || !ok {
		t.Errorf("of %d: %d, %v, want %d", n, got, ok, want)
	}
}

func notYet(t *testing.T, n int, l ...api.Msg) {
	t.Helper()
	if got, ok := vr.Recovered(l, nonce, n); got != 0 || ok {
		t.Errorf("of %d: %d, %v, though not yet", n, got, ok)
	}
}

func TestRecovered(t *testing.T) {
	recovered(t, 0, 3, told(1, 0, true), told(2, 0, false))
	recovered(t, 1, 3, told(2, 0, false), told(1, 0, true))
	recovered(t, 1, 3, told(3, 0, false), told(1, 0, true), told(2, 0, false))
	recovered(t, 1, 3, told(1, 0, false), told(2, 4, true))
	recovered(t, 0, 3, told(2, 4, true), told(1, 3, true)) // who leads an elder view is not listened to
	notYet(t, 3, told(3, 4, false), told(1, 3, true))
	notYet(t, 3, told(1, 0, false), told(2, 0, false))
	notYet(t, 3, told(3, 4, false), told(1, 4, false))
	notYet(t, 3, told(3, 4, true), told(1, 4, true)) // node 2 leads view 4, whoever says so of itself
	notYet(t, 3, told(2, 4, false), told(1, 3, false))
	notYet(t, 3, told(2, 3, true), told(1, 3, false))
	notYet(t, 3, told(2, 1, true), told(1, 4, false)) // of its leader an elder view alone is told
	recovered(t, 2, 3, told(2, 1, true), told(1, 4, false), told(2, 4, true))
}

func TestRecoveredOfTooFew(t *testing.T) {
	for _, c := range []struct{ n, enough int }{{2, 1}, {3, 2}, {4, 2}, {5, 3}} {
		l := []api.Msg{told(1, 0, true)}
		for from := 2; from <= c.n; from++ {
			if len(l) < c.enough {
				notYet(t, c.n, l...)
				notYet(t, c.n, append(l, l...)...) // each node is one, however often it tells
				notYet(t, c.n, append(slices.Repeat(l[:1], 9), l...)...)
			} else {
				recovered(t, 0, c.n, l...)
				recovered(t, len(l), c.n, append(l, l...)...)
			}
			l = append(l, told(from, 0, false))
		}
		recovered(t, 0, c.n, l...)
		notYet(t, c.n, l[1:]...)
		notYet(t, c.n)
	}
}

func TestRecoveredIsOfTheLastOneOfEach(t *testing.T) {
	recovered(t, 2, 3, told(1, 0, true), told(2, 0, false), told(1, 0, true))
	notYet(t, 3, told(1, 0, true), told(2, 0, false), told(1, 0, false))
	recovered(t, 2, 3, told(1, 0, false), told(2, 0, false), told(1, 0, true))
	recovered(t, 2, 3, told(2, 4, true), told(2, 0, false), told(1, 0, true)) // a view that it told ahead is not looked at
	notYet(t, 3, told(2, 4, true), told(1, 0, false), told(2, 0, true))
	recovered(t, 1, 3, told(3, 9, true), told(1, 6, true), told(3, 6, false))
}

func TestWhatIsNoAnswerIsNotLookedAt(t *testing.T) {
	asElder := func(m *api.Msg) { m.Nonce-- }
	asLater := func(m *api.Msg) { m.Nonce++ }
	asFar := func(m *api.Msg) { m.Nonce += far }
	asNone := func(m *api.Msg) { m.Nonce = 0 }
	changes := []func(m *api.Msg){asElder, asLater, asFar, asNone}
	for kind := -1; kind <= 15; kind++ {
		if kind != api.MsgRecovered {
			changes = append(changes, func(m *api.Msg) { m.Kind = kind })
		}
	}
	changes = append(changes, func(m *api.Msg) { m.Kind += far }, func(m *api.Msg) { m.Kind = high }, func(m *api.Msg) { m.Kind = low })
	for _, change := range changes {
		lead, other, later := with(told(1, 0, true), change), with(told(2, 0, false), change), with(told(2, 4, true), change)
		notYet(t, 3, lead, told(2, 0, false))
		notYet(t, 3, told(1, 0, true), other)
		notYet(t, 3, told(1, 0, true), later, other)
		recovered(t, 0, 3, told(1, 0, true), told(2, 0, false), later) // neither as its last one, nor its View
		recovered(t, 1, 3, later, told(1, 0, true), told(2, 0, false), with(told(1, 0, false), change))
	}
}

func TestRecoveredOfAnyNonce(t *testing.T) {
	for _, nonce := range []int{0, 1, -1, 1 << 40, far, high, low} {
		l := []api.Msg{told(2, 0, false), told(1, 0, true)}
		for i := range l {
			l[i].Nonce = nonce
		}
		if got, ok := vr.Recovered(l, nonce, 3); got != 1 || !ok {
			t.Errorf("of nonce %d: %d, %v", nonce, got, ok)
		}
		if got, ok := vr.Recovered(l, nonce^far, 3); got != 0 || ok {
			t.Errorf("of another than nonce %d: %d, %v", nonce, got, ok)
		}
	}
}

func TestRecoveredOfGreatViews(t *testing.T) {
	for _, n := range counts() {
		for _, v := range []int{0, 1, 1 << 31, far, 1 << 40, 1<<40 + 1, high - 1, high} {
			leader := v%n + 1
			var l []api.Msg
			for from := 1; from <= n; from++ {
				l = append(l, told(from, v, from == leader))
			}
			recovered(t, leader-1, n, l...)
			for _, from := range l {
				if from.From != leader {
					recovered(t, leader, n, append([]api.Msg{told(from.From, low, true)}, l...)...)
				}
			}
			l[leader-1].Lead = false
			notYet(t, n, l...)
		}
	}
}

func TestNothingIsRecoveredOfNoView(t *testing.T) {
	for _, n := range counts() {
		for _, v := range []int{-1, -2, -3, -5, -far, low, low + 1} {
			var l []api.Msg
			for from := range n + 1 { // 0 among them, which is told where there is no leader
				l = append(l, told(from, v, true))
			}
			notYet(t, n, l...)
			recovered(t, n+1, n, append(l, told(1, 0, true))...)
		}
	}
}

func TestNothingIsRecoveredOfAnotherCount(t *testing.T) {
	for _, n := range others() {
		for v := -1; v < 8; v++ {
			var l []api.Msg
			notYet(t, n, l...)
			for from := range 9 {
				l = append(l, told(from, v, true))
				notYet(t, n, l...)
			}
		}
	}
}

// Who tells is a number as any other: the chapter counts each From.
func TestStrangersCount(t *testing.T) {
	for _, from := range strangers(3) {
		recovered(t, 1, 3, told(from, 0, false), told(1, 0, true))
		notYet(t, 3, told(from, 1, true), told(1, 0, true))
		recovered(t, 2, 3, told(from, 1, true), told(1, 0, true), told(2, 1, true))
		notYet(t, 3, told(from, 0, true), told(from, 0, true))
	}
}

// What else an answer says is not looked at.
func TestRecoveredLooksAtNoMore(t *testing.T) {
	m := full()
	m.From, m.View, m.Nonce = 2, 4, nonce
	recovered(t, 0, 3, m, told(1, 4, false))
	recovered(t, 1, 3, told(1, 4, false), m)
	m.View = 3
	recovered(t, 1, 3, m, told(1, 3, true))
	m.View = 5
	notYet(t, 3, m, told(1, 3, true))
}

// recoveredOf is what the chapter says, without a map: who told something behind it is not looked at.
func recoveredOf(l []api.Msg, n int) (int, bool) {
	var last []int
	for i, m := range l {
		again := slices.ContainsFunc(l[i+1:], func(x api.Msg) bool {
			return x.Kind == api.MsgRecovered && x.Nonce == nonce && x.From == m.From
		})
		if m.Kind == api.MsgRecovered && m.Nonce == nonce && !again {
			last = append(last, i)
		}
	}
	if len(last) <= (n-1)/2 {
		return 0, false
	}
	for _, i := range last {
		greater := slices.ContainsFunc(last, func(j int) bool { return l[j].View > l[i].View })
		if !greater && l[i].Lead && l[i].From == l[i].View%n+1 {
			return i, true
		}
	}
	return 0, false
}

func TestAnyAnswersAreRecoveredFrom(t *testing.T) {
	yes := 0
	for seed := range uint64(400) {
		by := rand.New(rand.NewPCG(seed, 103))
		n := counts()[seed%4]
		for range 100 {
			l := make([]api.Msg, by.IntN(9))
			for i := range l {
				l[i] = told(by.IntN(n)+1, by.IntN(4), by.IntN(4) > 0)
				l[i].Nonce += by.IntN(8) / 7
				l[i].Kind -= by.IntN(8) / 7
			}
			got, ok := vr.Recovered(l, nonce, n)
			if want, there := recoveredOf(l, n); got != want || ok != there {
				t.Fatalf("of %d, %v: %d, %v, want %d, %v", n, l, got, ok, want, there)
			}
			if ok {
				yes++
			}
		}
	}
	if yes < 1000 {
		t.Errorf("that told only %d", yes)
	}
}

func TestAllFewAnswersAreRecoveredFrom(t *testing.T) {
	const kinds = 2 * 3 * 3 // of each From, from 1 on, and View, with Lead and without
	for _, n := range []int{2, 3} {
		for long := range 4 {
			lists(long, kinds-1, func(which []int) {
				l := make([]api.Msg, long)
				for i, k := range which {
					l[i] = told(1+k/2%3, k/6, k%2 == 1)
				}
				got, ok := vr.Recovered(l, nonce, n)
				if want, there := recoveredOf(l, n); got != want || ok != there {
					t.Fatalf("of %d, %v: %d, %v, want %d, %v", n, l, got, ok, want, there)
				}
			})
		}
	}
}

// P10.4

// sets goes over all sets of n nodes.
func sets(n int, tell func([]int)) {
	for chosen := range 1 << n {
		var set []int
		for node := 1; node <= n; node++ {
			if chosen>>(node-1)&1 == 1 {
				set = append(set, node)
			}
		}
		tell(set)
	}
}

func TestWhatIsReachedIsReachedByOneOfAnyQuorum(t *testing.T) {
	const most = 3
	for _, n := range counts() {
		lists(n, most, func(acks []int) {
			num := vr.Reached(acks, most, n)
			if num == 0 {
				return
			}
			sets(n, func(set []int) {
				if len(set) < view.Quorum(n) {
					return
				}
				if !slices.ContainsFunc(set, func(node int) bool { return acks[node-1] >= num }) {
					t.Fatalf("of %v is %d Reached, and by none of %v", acks, num, set)
				}
			})
		})
	}
}

func TestARecoveredOneIsOfTheGreatestViewThatWasTold(t *testing.T) {
	yes := 0
	for seed := range uint64(400) {
		by := rand.New(rand.NewPCG(seed, 104))
		n := counts()[seed%4]
		views := make([]int, n) // a node's never fall
		var l []api.Msg
		for range 12 {
			node := by.IntN(n) + 1
			views[node-1] += by.IntN(3) / 2
			v := views[node-1]
			l = append(l, told(node, v, view.Leader(v, n) == node))
			i, ok := vr.Recovered(l, nonce, n)
			if !ok {
				continue
			}
			yes++
			if l[i].View != slices.Max(views) || !l[i].Lead || l[i].From != view.Leader(l[i].View, n) {
				t.Fatalf("of %v: %d", l, i)
			}
		}
	}
	if yes < 1000 {
		t.Errorf("that told only %d", yes)
	}
}
