package saga_test

import (
	"slices"
	"strings"
	"testing"

	"drover/api"
	"drover/saga"
)

// The rules that hold everywhere, P1 and the bound, for this package. (R5 speaks of objects: a Saga is a value, and a zero one is not Good.)

// asks hands s to every call, and tells the sagas that are answered.
func asks(s saga.Saga, step, try int) []saga.Saga {
	var l []saga.Saga
	for _, back := range []bool{false, true} {
		a, _ := saga.Report(s, step, try, back, true)
		b, _ := saga.Report(s, step, try, back, false)
		c, _ := saga.Lapse(s, step, try, back)
		l = append(l, a, b, c)
	}
	a, _ := saga.Cancel(s)
	b, _ := saga.Begin(s.Def)
	saga.Good(s)
	saga.Wants(s)
	saga.Same(s, a)
	saga.Same(b, s)
	return append(l, a, b)
}

// R1, P1

func TestEveryCallEnds(t *testing.T) {
	numbers := []int{0, 1, 2, 3, 5, 8, 9, 10, -1, 1 << 31, far + 1, -far, high - 1, high, low, low + 1}
	for _, state := range []int{0, 1, 2, 3, 4, 5, 6, -1, high, low, far + 1} {
		for _, a := range numbers {
			for _, b := range numbers {
				for _, l := range [][]api.Step{nil, {}, {{}}, drawn("uup.").Steps, drawn("uuuuuuuu").Steps, {{Name: "b", Stub: 1, Retry: a, Wait: 1, Undo: true}}, {{Name: "b", Stub: a, Retry: b, Wait: a, Undo: true, Pivot: true}, {Pivot: true}}, make([]api.Step, 100)} {
					for _, hit := range []string{"", "x", "xx", "xxxxxxxx", "     x"} {
						s := saga.Saga{Def: api.Def{Name: "a", Steps: l}, State: state, Step: a, Try: b, Hit: hits(hit)}
						asks(s, a, b)
						asks(s, b, a)
					}
				}
			}
		}
	}
	for _, name := range []string{"", "?", "\x00", "\xff", "é", strings.Repeat("a", 1000)} {
		asks(saga.Saga{Def: api.Def{Name: name, Steps: []api.Step{{Name: name}}}, State: api.Running, Step: 1, Try: 1}, 1, 1)
	}
}

// R2, R7

func TestTheFirstThingThatIsWrongCounts(t *testing.T) {
	for _, state := range []int{api.Done, api.Aborted, api.Stuck} {
		s := at("uup.", state, 4, 9, "xx x") // it is not Good, and would be too late
		cancelled(t, s, s, api.ErrArg)
	}
	s := at("uup.", api.Running, 3, 9, "xx")
	cancelled(t, s, s, api.ErrArg)
	s = at("uup.", api.Undoing, 2, 9, "xx")
	cancelled(t, s, s, api.ErrArg)
}

func TestNilAndEmptyListsAreTheSame(t *testing.T) {
	none, empty := saga.Saga{Def: api.Def{Name: "a"}}, saga.Saga{Def: api.Def{Name: "a", Steps: []api.Step{}}}
	same(t, none, empty, true)
	for _, s := range []saga.Saga{none, empty, {Def: api.Def{Name: "a", Steps: drawn("up").Steps[:0]}}} {
		goodIs(t, s, false)
		wants(t, s, api.Command{}, 0, false)
		becomes(t, s, event{step: 1, try: 1, good: true}, none, false)
		becomes(t, s, event{lapse: true, step: 1, try: 1}, none, false)
		cancelled(t, s, none, api.ErrArg)
		if got, err := saga.Begin(s.Def); !alike(got, saga.Saga{}) || err != api.ErrArg {
			t.Errorf("Begin of no steps: %s, %v", tell(got), err)
		}
	}
}

// R3

// kinds: sagas of each state, and one that is not Good.
func kinds() []saga.Saga {
	return []saga.Saga{at("uup.", api.Running, 1, 1, ""), at("uup.", api.Running, 2, 1, "x"), at("uup.", api.Running, 4, 1, "xxxx"), at("uup.", api.Undoing, 2, 1, "xx"), at("uup.", api.Undoing, 1, 1, "x"),
		at("uup.", api.Done, 0, 0, "xxxx"), at("uup.", api.Aborted, 0, 0, ""), at("uup.", api.Stuck, 4, 0, "xxx"), at("uup.", api.Running, 2, 7, "x"), at("uup", 0, 0, 0, "xxx")}
}

func TestNothingThatIsHandedInChanges(t *testing.T) {
	for _, was := range kinds() {
		room := append(slices.Clone(was.Def.Steps), api.Step{Name: "room", Stub: -7}, api.Step{Name: "room", Stub: -8, Undo: true})
		before := slices.Clone(room)
		s := was
		for n := range len(room) + 1 {
			s.Def.Steps = room[:n]
			for _, told := range asks(s, s.Step, s.Try) {
				l := append(told.Def.Steps[:cap(told.Def.Steps)], api.Step{Name: "more"}) // the spare room is the caller's, too
				for i := range l {
					l[i] = api.Step{Name: "scribble", Stub: -1, Retry: -1, Wait: -1, Undo: true, Pivot: true}
				}
			}
			if !slices.Equal(room, before) || s.Hit != was.Hit || s.State != was.State || s.Step != was.Step || s.Try != was.Try {
				t.Fatalf("behind calls with %d steps of %s: %+v, %s", n, tell(was), room, tell(s))
			}
		}
	}
}

func TestWhatStandsBehindTheStepsIsNotLookedAt(t *testing.T) {
	s := at("uup.", api.Running, 4, 1, "xxx")
	s.Def.Steps = append(slices.Clone(s.Def.Steps), drawn("uup.").Steps...)[:4]
	goodIs(t, s, true)
	becomes(t, s, event{step: 4, try: 1, good: true}, at("uup.", api.Done, 0, 0, "xxxx"), true)
	becomes(t, s, event{step: 5, try: 1, good: true}, s, false)
	same(t, s, at("uup.", api.Running, 4, 1, "xxx"), true)
	if got := begun(t, s.Def); !alike(got, at("uup.", api.Running, 1, 1, "")) {
		t.Errorf("Begin: %s", tell(got))
	}
}

func TestNothingThatIsHandedInIsKept(t *testing.T) {
	for _, s := range kinds() {
		want := asks(s, s.Step, s.Try) // a call asked again answers the same, in other memory
		got := asks(s, s.Step, s.Try)
		for i := range s.Def.Steps {
			s.Def.Steps[i] = api.Step{Name: "scribble", Stub: -1}
		}
		for i := range got {
			if !alike(got[i], want[i]) || slices.ContainsFunc(got[i].Def.Steps, func(s api.Step) bool { return s.Name == "scribble" }) {
				t.Errorf("call %d with %s kept the steps: %+v", i, tell(s), got[i].Def.Steps)
			}
			for j := range got[i].Def.Steps {
				got[i].Def.Steps[j].Stub = -9
			}
			if len(want[i].Def.Steps) > 0 && want[i].Def.Steps[0].Stub == -9 {
				t.Errorf("call %d with %s told the same steps twice", i, tell(s))
			}
		}
	}
}

// R4

func TestAnswersAreTheSameAgain(t *testing.T) {
	for _, s := range kinds() {
		want := asks(s, s.Step, s.Try)
		for range 100 {
			for i, got := range asks(s, s.Step, s.Try) {
				if !alike(got, want[i]) {
					t.Fatalf("call %d with %s: %s, want %s", i, tell(s), tell(got), tell(want[i]))
				}
			}
		}
	}
}

// R6

func TestNumbersDoNotWrap(t *testing.T) {
	for _, n := range []int{high, high - 1, low, low + 1, 1 << 62, far, far + 1, far + 2, 1<<8 + 2, 1<<16 + 2} {
		for _, s := range []saga.Saga{at("uup.", api.Running, n, 1, "x"), at("uup.", api.Running, 2, n, "x"), at("uup.", n, 2, 1, "x"), at("uup.", api.Undoing, n, 1, "xx"), at("uup.", api.Undoing, 2, n, "xx"), at("uup.", api.Stuck, n, 0, "x"), at("uup.", api.Stuck, 2, n, "x")} {
			goodIs(t, s, false)
			becomes(t, s, event{step: s.Step, try: s.Try, back: s.State == api.Undoing, good: true}, s, false)
			becomes(t, s, event{lapse: true, step: s.Step, try: s.Try, back: s.State == api.Undoing}, s, false)
			cancelled(t, s, s, api.ErrArg)
		}
		s := at("uup.", api.Running, 2, 1, "x")
		s.Def.Steps[1].Retry = n // plan's Tries would wrap at the greatest one
		goodIs(t, s, false)
		becomes(t, s, event{step: 2, try: 1}, s, false)
	}
}

// The bound

func TestMuchIsTaken(t *testing.T) {
	const many = 1 << 20
	s := saga.Saga{Def: api.Def{Name: "a", Steps: slices.Repeat(drawn("u").Steps, many)}, State: api.Running, Step: 1, Try: 1}
	for range 1000 { // which is seen by how many there are alone
		if _, err := saga.Begin(s.Def); err != api.ErrArg || saga.Good(s) {
			t.Fatal("a saga may have many steps")
		}
	}
	becomes(t, s, event{step: 1, try: 1, good: true}, s, false)
	becomes(t, s, event{lapse: true, step: 1, try: 1}, s, false)
	cancelled(t, s, s, api.ErrArg)
	other := s
	other.Def.Steps = slices.Clone(s.Def.Steps)
	same(t, s, other, true)
	other.Def.Steps[many-1].Wait++
	same(t, s, other, false)
	great := at("u", api.Running, 1, 1, "")
	great.Def.Steps[0].Name = strings.Repeat("b", 1<<24)
	goodIs(t, great, false)
	becomes(t, great, event{step: 1, try: 1, good: true}, great, false)
}
