package vr_test

import (
	"math"
	"reflect"
	"slices"
	"testing"

	"drover/api"
	"drover/vr"
)

// The rules that hold everywhere, P1 and the bound, for this package. (R2: no call answers an Errno; R5: no call makes an object, and a zero Status is one as any other.)

// numbers: some of all sorts, those at the ends too.
func numbers() []int {
	return []int{0, 1, 2, 3, 4, 5, 6, -1, -2, 10, 64, 1 << 31, far + 1, -far, 1 << 40, 1<<40 + 1, 1 << 62, high - 1, high, low, low + 1}
}

// R1, P1

func TestEveryCallEnds(t *testing.T) {
	lists := [][]int{nil, {}, {0}, numbers(), make([]int, 1, 9), make([]int, 5)}
	for _, a := range numbers() {
		for _, b := range numbers() {
			m := api.Msg{Kind: api.MsgRecovered, From: a, View: b, Nonce: a, Lead: true, Incs: []int{a, b}}
			for _, c := range numbers() {
				vr.Leads(vr.Status{Id: a, N: b, Phase: vr.Normal, View: c, Last: c})
				vr.Leads(vr.Status{Id: a, N: 3, Phase: b, View: c})
				vr.Follows(vr.Status{Id: c, N: c, Phase: a, View: c}, m)
				vr.Recovered([]api.Msg{m, {Kind: api.MsgRecovered, From: c, View: c, Nonce: a}}, a, b)
				vr.Recovered([]api.Msg{m, {Kind: a, From: b, View: c}, m}, b, c)
			}
			for _, l := range lists {
				vr.Reached(l, a, b)
				vr.Merge(l, []int{a, b})
				vr.Merge([]int{a, b}, l)
				vr.Stale(l, m)
				m.Incs = l
				vr.Stale([]int{a, b}, m)
				vr.Fresh([]api.Msg{m, m, {}}, l)
			}
		}
	}
	for _, l := range [][]api.Msg{nil, {}, {{}}, make([]api.Msg, 0, 9), make([]api.Msg, 9)} {
		vr.Recovered(l, 0, 2)
		vr.Fresh(l, nil)
		vr.Fresh(l, numbers())
	}
	for _, a := range lists {
		for _, b := range lists {
			vr.Merge(a, b)
		}
	}
}

// R3

// roomy: l with some numbers in the room behind its end, and that room.
func roomy(l ...int) ([]int, []int) {
	wide := append(slices.Clone(l), 777, 778, 779, 780)
	return wide[:len(l):len(wide)], wide
}

func TestNumbersThatAreHandedInAreNotChanged(t *testing.T) {
	a, wideA := roomy(5, 3, 9, 1)
	b, wideB := roomy(4, 7)
	before, beforeB := slices.Clone(wideA), slices.Clone(wideB)
	m := api.Msg{From: 2, Incs: b}
	vr.Merge(a, b)
	vr.Merge(b, a)
	for _, n := range numbers() {
		vr.Reached(a, 9, n)
		vr.Reached(b, n, 2)
	}
	vr.Stale(a, m)
	vr.Stale(b, m)
	vr.Fresh([]api.Msg{m, m}, a)
	vr.Follows(vr.Status{Phase: vr.Normal}, m)
	if !slices.Equal(wideA, before) || !slices.Equal(wideB, beforeB) {
		t.Errorf("they became %v and %v", wideA, wideB)
	}
}

// fill writes over l and the room behind its end.
func fill[T any](l []T, by T) {
	l = l[:cap(l)]
	for i := range l {
		l[i] = by
	}
}

func TestMergedNumbersAreNewMemory(t *testing.T) {
	for _, c := range [][2][]int{{{5, 3, 9}, {4, 7}}, {{1, 2}, {1, 2}}, {{1, 2}, nil}, {{9, 9}, {0, 0, 0}}} {
		a, wideA := roomy(c[0]...)
		b, wideB := roomy(c[1]...)
		before, beforeB := slices.Clone(wideA), slices.Clone(wideB)
		got, other := vr.Merge(a, b), vr.Merge(a, b)
		want := slices.Clone(other)
		fill(got, -7)
		if !slices.Equal(wideA, before) || !slices.Equal(wideB, beforeB) || !slices.Equal(other, want) {
			t.Errorf("what Merge(%v, %v) told shares memory", c[0], c[1])
		}
		fill(a, -7)
		fill(b, -7)
		if !slices.Equal(other, want) {
			t.Errorf("what Merge(%v, %v) told became %v", c[0], c[1], other)
		}
	}
	for _, empty := range [][]int{{}, make([]int, 0, 4)} {
		fill(vr.Merge(empty, []int{1, 2}), 5)
		if room := empty[:cap(empty)]; slices.Contains(room, 5) {
			t.Errorf("what Merge of none told shares memory with its room: %v", room)
		}
	}
}

// scribble writes over all lists of m, what lies in them, and the room behind their ends.
func scribble(m api.Msg) {
	for _, o := range m.Ops {
		fill(o.Def.Steps, api.Step{Name: "filler"})
	}
	fill(m.Op.Def.Steps, api.Step{Name: "filler"})
	fill(m.Ops, api.Op{Kind: 777})
	fill(m.Incs, 777)
}

// crowd: messages that all have their lists in one piece of memory, and whose second one is Stale to those that know of 5.
func crowd() []api.Msg {
	m, elder := full(), full()
	elder.From, elder.Incs = 1, []int{4, 2, 3}
	m.Incs = append(m.Incs[:0], 5, 2, 3)
	return []api.Msg{m, elder, m, m}
}

func TestFreshMessagesAreNewMemory(t *testing.T) {
	want := []api.Msg{crowd()[0], crowd()[2], crowd()[3]}
	l := crowd()
	got, other := vr.Fresh(l, []int{5, 2}), vr.Fresh(l, []int{5, 2})
	for i, m := range got {
		scribble(m)
		for _, rest := range got[i+1:] {
			if !reflect.DeepEqual(rest, want[0]) {
				t.Fatalf("message %d shares memory with another: %v", i, rest)
			}
		}
	}
	fill(got, api.Msg{Kind: 777})
	if !reflect.DeepEqual(l, crowd()) || !reflect.DeepEqual(other, want) {
		t.Error("what Fresh told shares memory with what it was given, or with what it told ahead")
	}
	for _, m := range l {
		scribble(m)
	}
	fill(l, api.Msg{Kind: 777})
	if !reflect.DeepEqual(other, want) {
		t.Errorf("what Fresh told became %v", other)
	}
}

func TestListsOfOneFreshMessageShareNothing(t *testing.T) {
	steps := []api.Step{{Name: "a"}, {Name: "b"}}
	o := api.Op{Def: api.Def{Steps: steps}}
	part := api.Op{Def: api.Def{Steps: steps[:1]}}
	got := vr.Fresh([]api.Msg{{From: 1, Incs: []int{0}, Op: o, Ops: []api.Op{o, part, o}}}, []int{0})[0]
	l := [][]api.Step{got.Op.Def.Steps, got.Ops[0].Def.Steps, got.Ops[1].Def.Steps, got.Ops[2].Def.Steps}
	for i := range l {
		before := slices.Clone(l[i])
		fill(l[i], api.Step{Name: "filler"})
		for j := range l {
			if j != i && (l[j][0] != steps[0] || len(l[j]) == 2 && l[j][1] != steps[1]) {
				t.Errorf("lists %d and %d share memory", i, j)
			}
		}
		copy(l[i], before)
	}
}

func TestMessagesThatAreHandedInAreNotChanged(t *testing.T) {
	room := append(crowd(), crowd()...)
	l := room[:4]
	for _, n := range numbers() {
		vr.Recovered(l, 8, n)
		vr.Fresh(l, []int{n, n, n})
		vr.Fresh(l, []int{5, 2})
		vr.Stale([]int{n}, l[0])
		vr.Follows(vr.Status{Phase: vr.Change, View: n}, l[0])
	}
	if !reflect.DeepEqual(room, append(crowd(), crowd()...)) {
		t.Errorf("they became %v", room)
	}
}

func TestNothingBehindAListsEndIsLookedAt(t *testing.T) {
	l := []api.Msg{told(1, 0, true), told(2, 0, false), told(2, 1, true)}
	recovered(t, 0, 3, l[:2]...)
	notYet(t, 3, l[:1]...)
	if got := len(vr.Fresh([]api.Msg{of(1, 5), of(1, 5)}[:1], []int{5})); got != 1 {
		t.Errorf("of one message %d are Fresh", got)
	}
	acks := []int{1, 2, 9}
	if got := vr.Reached(acks[:2], 9, 3); got != 1 {
		t.Errorf("Reached: %d", got)
	}
	if got := vr.Merge([]int{0, 0, 0}, acks[:1]); !slices.Equal(got, []int{1, 0, 0}) {
		t.Errorf("Merge: %v", got)
	}
}

// R4

func TestAnswersAreTheSameAgain(t *testing.T) {
	l := []api.Msg{told(5, 3, false), told(2, 3, true), told(4, 3, true), told(1, 3, false), told(3, 3, false), told(4, 3, true)}
	acks := []int{5, 1, 4, 2, 3}
	for range 300 { // a map is gone over in another order each time
		recovered(t, 5, 5, l...)
		notYet(t, 5, l[:2]...)
		if vr.Reached(acks, 5, 5) != 3 || !slices.Equal(vr.Merge(acks, []int{2, 2, 2}), []int{5, 2, 4, 2, 3}) {
			t.Fatal("another answer than at first")
		}
	}
}

func TestWhatWasGivenIsNotKept(t *testing.T) {
	l := []api.Msg{told(1, 0, true), told(2, 0, false)}
	recovered(t, 0, 3, l...)
	l[0].Lead = false
	notYet(t, 3, l...)
	l[0], l[1] = told(3, 1, false), told(2, 1, true)
	recovered(t, 1, 3, l...)
	acks := []int{1, 1, 1}
	if vr.Reached(acks, 9, 3) != 1 {
		t.Error("1 is not Reached")
	}
	acks[0], acks[1] = 7, 6
	if vr.Reached(acks, 9, 3) != 6 {
		t.Error("6 is not Reached")
	}
}

// R6

func TestNothingWraps(t *testing.T) {
	for _, n := range counts() {
		acks := slices.Repeat([]int{high}, n)
		if got := vr.Reached(acks, high, n); got != high {
			t.Errorf("of %d: %d", n, got)
		}
		acks = slices.Repeat([]int{low}, n)
		for _, last := range []int{low, -1, 0, 1, high} {
			if got := vr.Reached(acks, last, n); got != 0 {
				t.Errorf("of %d, up to %d: %d", n, last, got)
			}
		}
	}
	for _, n := range []int{low, low + 1, high} { // of which one less, or half and one, is another count
		notYet(t, n, told(1, 0, true), told(2, 0, true), told(3, 0, true))
		if vr.Reached([]int{1, 1, 1}, 1, n) != 0 || vr.Leads(vr.Status{Id: 1, N: n, Phase: vr.Normal}) {
			t.Errorf("there may be %d nodes", n)
		}
	}
	if !vr.Stale([]int{high}, of(1, low)) || vr.Stale([]int{low}, of(1, high)) || vr.Stale([]int{math.MaxInt}, of(1, math.MaxInt)) {
		t.Error("incarnations at their ends are taken for others")
	}
}

// The bound

func TestMuchIsGoneOver(t *testing.T) {
	const much = 100000
	l := make([]api.Msg, much)
	for i := range l {
		l[i] = told(1+i%5, i/1000, true)
	}
	leader := (much-1)/1000%5 + 1
	recovered(t, much-5+leader-1, 5, l...)
	for i := range l {
		l[i].From = i + 6
	}
	notYet(t, 5, l...)
	acks := make([]int, much)
	for i := range acks {
		acks[i] = i * 7 % much
	}
	if got := vr.Reached(acks, high, 5); got != much-3 {
		t.Errorf("Reached: %d", got)
	}
	if got := vr.Merge(acks, acks[1:]); len(got) != much || got[0] != 7 || got[much-1] != acks[much-1] {
		t.Errorf("Merge tells %d", len(got))
	}
	for i := range l {
		l[i] = api.Msg{From: 1 + i%2, Incs: []int{1, 1}}
	}
	if got := vr.Fresh(l, []int{1, 2}); len(got) != much/2 {
		t.Errorf("Fresh: %d", len(got))
	}
}
