package stub

import (
	"slices"
	"testing"

	"drover/api"
)

func ask(s *Stub, step int) {
	s.Ask(api.Command{Stub: s.id, Step: step})
}

func planned(t *testing.T, s *Stub, want ...bool) {
	t.Helper()
	if !slices.Equal(s.planned, want) {
		t.Fatalf("%d are planned, the first bad one %d, want %d and %d", len(s.planned), slices.Index(s.planned, false), len(want), slices.Index(want, false))
	}
}

func times(n int, what bool) []bool {
	l := make([]bool, n)
	for i := range l {
		l[i] = what
	}
	return l
}

// P19.1: at most a thousand are kept of what is planned, the first ones; when some come off, there is room again.
func TestAtMostAThousandPlannedAreKept(t *testing.T) {
	for _, n := range []int{0, 1, mostPlanned - 1, mostPlanned, mostPlanned + 1, 5 * mostPlanned, 1000000} {
		s := New(1)
		s.Plan(append(times(n, true), times(n, false)...))
		planned(t, s, append(times(n, true), times(n, false)...)[:min(2*n, 1000)]...)
	}
	s := New(1)
	s.Plan(times(999, true))
	s.Plan([]bool{false, true}) // room for one
	planned(t, s, append(times(999, true), false)...)
	for range 3 {
		s.Plan([]bool{true}) // room for none
		s.Plan(times(2000, true))
		s.Plan(nil)
		planned(t, s, append(times(999, true), false)...)
	}
	ask(s, 1)
	ask(s, 1) // it is known
	planned(t, s, append(times(998, true), false)...)
	s.Plan([]bool{false, true})
	planned(t, s, append(times(998, true), false, false)...)
	ask(s, 2)
	ask(s, 3)
	s.Plan([]bool{true, false, true})
	planned(t, s, append(times(996, true), false, false, true, false)...)
}

// P19.2: of more commands than are remembered nothing comes off.
func TestNothingComesOffForWhatIsNotRemembered(t *testing.T) {
	s := New(1)
	for step := range mostKnown {
		ask(s, step)
	}
	s.Plan([]bool{false, true, true})
	for step := range 5 {
		ask(s, mostKnown+step)
		planned(t, s, false, true, true)
	}
	if len(s.known) != 1000 {
		t.Errorf("%d are remembered", len(s.known))
	}
}

// The language's rule 8: what came off is not kept, as the next Plan makes a new list.
func TestNoMoreIsKeptThanIsPlanned(t *testing.T) {
	s := New(1)
	for step := range mostKnown {
		s.Plan(times(1+step%3, true))
		if n := cap(s.planned); n > 2*mostPlanned {
			t.Fatalf("%d are planned, in room for %d", len(s.planned), n)
		}
		ask(s, step)
		if n := cap(s.planned); n > len(s.planned) {
			t.Fatalf("%d are planned, in room for %d", len(s.planned), n)
		}
	}
}
