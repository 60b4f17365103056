package stub_test

import (
	"reflect"
	"slices"
	"testing"

	"drover/api"
	"drover/stub"
)

// The rules that hold everywhere, P1 and the bound, for this package. (R5 stands behind P19.2, where the chapter names it too; of R2 there is nothing to say, as no call answers an Errno.)

// R1, P1

func TestEveryCallEnds(t *testing.T) {
	numbers := []int{0, 1, 2, id, maxStubs, maxStubs + 1, behind + id, -1, most, most + 1, far + id, -far, high - 1, high, low, low + 1}
	var zero stub.Stub
	stubs := []*stub.Stub{nil, &zero, new(stub.Stub)}
	for _, n := range numbers {
		stubs = append(stubs, stub.New(n))
	}
	other := *made(t, id)
	for _, s := range append(stubs, &other) {
		for _, good := range [][]bool{nil, {}, {true}, {false, true}, same(3*most, false)} {
			s.Plan(good)
			for _, n := range numbers {
				for _, m := range numbers {
					s.Ask(api.Command{View: n, Stub: m, Saga: n, Step: m, Try: n, Back: n > m})
					s.Ask(api.Command{View: 5, Stub: id, Saga: n, Step: m, Try: n, Back: n > m})
					s.Ask(api.Command{View: n, Stub: id, Saga: 1, Step: 1, Try: m, Back: n < m})
					s.Did(n, m, n > m)
				}
			}
			s.Fence()
			s.Effects()
			s.Known()
		}
	}
}

// R3

func TestNothingThatIsHandedInIsChangedOrKept(t *testing.T) {
	whole := append([]bool{true, false, true, false}, same(4, true)...)
	was := slices.Clone(whole)
	s := made(t, id)
	s.Plan(whole[:2])
	s.Plan(whole[2:4]) // the room behind a list's end is not looked at
	if !slices.Equal(whole, was) {
		t.Errorf("the list became %v", whole)
	}
	for i := range whole {
		whole[i] = !whole[i]
	}
	changed := slices.Clone(whole)
	if got := comes(t, s, 1, 3); !slices.Equal(got, was[:3]) {
		t.Errorf("three commands come to %v", got)
	}
	s.Plan([]bool{true, false})
	if got := comes(t, s, 2, 4); !slices.Equal(got, []bool{false, true, false, true}) {
		t.Errorf("four commands come to %v", got)
	}
	if !slices.Equal(whole, changed) {
		t.Errorf("the list became %v", whole)
	}
}

func TestNothingThatIsToldIsKept(t *testing.T) {
	s := made(t, id)
	var want []stub.Effect
	for n := range 40 {
		l, again := s.Effects(), s.Effects()
		l = l[:cap(l)]
		for i := range l {
			l[i] = stub.Effect{Saga: 77, Step: 77, Back: true}
		}
		if !slices.Equal(again, want) {
			t.Fatalf("Effects was told twice as the same memory: %+v", again)
		}
		is(t, s, n-1, n, want...)
		did(t, s, 77, 77, true, false)
		c := forth(n, 1, n, 1)
		good(t, s, c)
		want = append(want, of(c))
	}
}

func TestWhatWasToldLasts(t *testing.T) {
	s := made(t, id)
	first := forth(1, 1, 1, 1)
	m, _ := s.Ask(first)
	l := s.Effects()
	room := l[:cap(l)]
	was := slices.Clone(room)
	for n := range 100 {
		good(t, s, forth(2+n, 2, n, 1), back(2+n, 2, n, 1))
	}
	if !reflect.DeepEqual(m, result(first, true, false)) || !slices.Equal(room, was) || !slices.Equal(l, []stub.Effect{of(first)}) {
		t.Errorf("what was told became %+v, %+v", m, room)
	}
}

// R4

func TestAnswersAreTheSameAgain(t *testing.T) {
	var first []stub.Effect
	for range 50 { // a map's order is another one each time
		s := made(t, id)
		s.Plan([]bool{true, false, true, true, false})
		for try := range 3 {
			for saga := range 8 {
				for step := range 4 {
					s.Ask(forth(try, saga, step, try))
					s.Ask(back(try, saga, step, saga))
				}
			}
		}
		if l := s.Effects(); first == nil {
			first = l
		} else if !slices.Equal(l, first) {
			t.Fatalf("Effects: %+v, and %+v", first, l)
		}
	}
	if len(first) < 30 {
		t.Errorf("%d effects", len(first))
	}
}

func TestStubsKnowNothingOfEachOther(t *testing.T) {
	a, b := made(t, id), made(t, id)
	a.Plan([]bool{false, true})
	good(t, b, forth(9, 1, 1, 1))
	is(t, a, -1, 0)
	bad(t, a, forth(3, 1, 1, 1))
	good(t, a, back(3, 1, 1, 1))
	is(t, b, 9, 1, of(forth(9, 1, 1, 1)))
	good(t, b, forth(9, 1, 1, 2), forth(9, 1, 2, 1))
	bad(t, a, forth(4, 1, 1, 2))
	is(t, a, 4, 3, of(back(3, 1, 1, 1)))
	is(t, b, 9, 3, of(forth(9, 1, 1, 1)), of(forth(9, 1, 2, 1)))
}

// R6

// Numbers at their ends are told as they are, and are no others.
func TestNumbersDoNotWrap(t *testing.T) {
	s := made(t, id)
	good(t, s, forth(0, high, high, high))
	is(t, s, 0, 1, of(forth(0, high, high, high)))
	did(t, s, high-1, high, false, false)
	did(t, s, -1, -1, false, false)
	did(t, s, low, low, false, false)
	refused(t, s, forth(low, 1, 1, 1), forth(1, low, 1, 1), forth(1, 1, low, 1), forth(1, 1, 1, low), api.Command{View: 1, Stub: low}, api.Command{View: 1, Stub: high})
	good(t, s, forth(high, 1, 1, 1))
	fenced(t, s, forth(high-1, 1, 1, 1))
	is(t, s, high, 2, of(forth(0, high, high, high)), of(forth(high, 1, 1, 1)))
}

// R7

// Beside a false all is zero, and nothing has changed.
func TestWhatIsRefusedChangesNothing(t *testing.T) {
	for _, c := range []api.Command{{}, {View: 9}, {View: 9, Stub: 2, Saga: 1, Step: 1, Try: 1}, {View: 9, Stub: 4, Saga: 1, Step: 1, Try: 1, Back: true}, forth(-1, 1, 2, 1), forth(9, -1, 2, 1), forth(9, 1, -1, 1), forth(9, 1, 2, -1), back(9, 1, 2, -1)} {
		s := made(t, id)
		refused(t, s, c)
		is(t, s, -1, 0)
		s.Plan([]bool{true, false})
		refused(t, s, c)
		good(t, s, forth(3, 1, 1, 1))
		refused(t, s, c, c)
		is(t, s, 3, 1, of(forth(3, 1, 1, 1)))
		bad(t, s, forth(3, 1, 2, 1)) // as planned
		good(t, s, forth(3, 1, 3, 1))
		is(t, s, 3, 3, of(forth(3, 1, 1, 1)), of(forth(3, 1, 3, 1)))
	}
}

// The bound, and the language's rule 8

func TestMuchIsTaken(t *testing.T) {
	s := made(t, id)
	s.Plan(same(50000000, true))
	for range 100000 {
		s.Plan([]bool{true, true})
	}
	for n := range 1000000 {
		m, ok := s.Ask(forth(n, n, 1, 1))
		if !ok || m.Good != (n < most) {
			t.Fatalf("command %d: %+v, %v", n+1, m, ok)
		}
	}
	if l := s.Effects(); len(l) != most || s.Known() != most || s.Fence() != 999999 {
		t.Errorf("%d effects, %d are known, the FENCE is %d", len(l), s.Known(), s.Fence())
	}
	for saga := range 2 * most {
		did(t, s, saga, 1, false, saga < most)
	}
}
