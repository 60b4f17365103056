package stub_test

import (
	"math"
	"reflect"
	"slices"
	"testing"

	"drover/api"
	"drover/stub"
)

// The signatures that the chapter lists.
var (
	_ func(id int) *stub.Stub                                  = stub.New
	_ func(s *stub.Stub, good []bool)                          = (*stub.Stub).Plan
	_ func(s *stub.Stub, c api.Command) (m api.Msg, itIs bool) = (*stub.Stub).Ask
	_ func(*stub.Stub) (view int)                              = (*stub.Stub).Fence
	_ func(*stub.Stub) []stub.Effect                           = (*stub.Stub).Effects
	_ func(s *stub.Stub, saga, step int, back bool) (did bool) = (*stub.Stub).Did
	_ func(*stub.Stub) (commands int)                          = (*stub.Stub).Known

	_ = stub.Effect{Saga: 1, Step: 2, Try: 3, Back: true, View: 4}
)

// The limits, by their numbers.
const (
	maxStubs = 4
	most     = 1000 // are kept of what is planned, and are remembered
	behind   = 20   // stubs stand there
)

const (
	low  = math.MinInt
	high = math.MaxInt
	far  = 1 << 32 // what is as much above another number is alike in its low half
)

// Commands to stub 3, which is the one here.

const id = 3

func forth(view, saga, step, try int) api.Command {
	return api.Command{View: view, Stub: id, Saga: saga, Step: step, Try: try}
}

func back(view, saga, step, try int) api.Command {
	c := forth(view, saga, step, try)
	c.Back = true
	return c
}

// of: what is done of a command.
func of(c api.Command) stub.Effect {
	return stub.Effect{Saga: c.Saga, Step: c.Step, Try: c.Try, Back: c.Back, View: c.View}
}

func result(c api.Command, good, fenced bool) api.Msg {
	return api.Msg{Kind: api.MsgResult, From: behind + c.Stub, Command: c, Good: good, Fenced: fenced}
}

// What the calls are to answer.

func made(t *testing.T, id int) *stub.Stub {
	t.Helper()
	s := stub.New(id)
	if s == nil {
		t.Fatalf("New(%d): nil", id)
	}
	return s
}

func asks(t *testing.T, s *stub.Stub, c api.Command, want api.Msg) {
	t.Helper()
	if m, ok := s.Ask(c); !ok || !reflect.DeepEqual(m, want) {
		t.Fatalf("Ask(%+v): %+v, %v, want %+v", c, m, ok, want)
	}
}

func good(t *testing.T, s *stub.Stub, l ...api.Command) {
	t.Helper()
	for _, c := range l {
		asks(t, s, c, result(c, true, false))
	}
}

func bad(t *testing.T, s *stub.Stub, l ...api.Command) {
	t.Helper()
	for _, c := range l {
		asks(t, s, c, result(c, false, false))
	}
}

func fenced(t *testing.T, s *stub.Stub, l ...api.Command) {
	t.Helper()
	for _, c := range l {
		asks(t, s, c, result(c, false, true))
	}
}

func refused(t *testing.T, s *stub.Stub, l ...api.Command) {
	t.Helper()
	for _, c := range l {
		if m, ok := s.Ask(c); ok || !reflect.DeepEqual(m, api.Msg{}) {
			t.Fatalf("Ask(%+v): %+v, %v, want nothing", c, m, ok)
		}
	}
}

// is: what a stub is to tell of itself.
func is(t *testing.T, s *stub.Stub, fence, known int, effects ...stub.Effect) {
	t.Helper()
	if s.Fence() != fence || s.Known() != known || !slices.Equal(s.Effects(), effects) {
		t.Fatalf("Fence %d, Known %d, Effects %+v, want %d, %d, %+v", s.Fence(), s.Known(), s.Effects(), fence, known, effects)
	}
	for _, e := range effects {
		did(t, s, e.Saga, e.Step, e.Back, true)
	}
}

func did(t *testing.T, s *stub.Stub, saga, step int, back, want bool) {
	t.Helper()
	if s.Did(saga, step, back) != want {
		t.Fatalf("Did(%d, %d, %v): %v", saga, step, back, !want)
	}
}

// same: so many of one kind.
func same(n int, what bool) []bool {
	l := make([]bool, n)
	for i := range l {
		l[i] = what
	}
	return l
}

// comes: what so many new commands of that saga come to, each of another step.
func comes(t *testing.T, s *stub.Stub, saga, n int) []bool {
	t.Helper()
	var l []bool
	for step := 1; step <= n; step++ {
		m, ok := s.Ask(forth(max(s.Fence(), 0), saga, step, 1))
		if !ok || m.Fenced {
			t.Fatalf("step %d: %+v, %v", step, m, ok)
		}
		l = append(l, m.Good)
	}
	return l
}

// The chapter's example.

func TestExample(t *testing.T) {
	s := made(t, id)
	good(t, s, forth(2, 1, 1, 1))
	is(t, s, 2, 1, stub.Effect{Saga: 1, Step: 1, Try: 1, View: 2})
	good(t, s, forth(2, 1, 1, 1))
	is(t, s, 2, 1, stub.Effect{Saga: 1, Step: 1, Try: 1, View: 2})
	fenced(t, s, forth(1, 1, 1, 1))
	is(t, s, 2, 1, stub.Effect{Saga: 1, Step: 1, Try: 1, View: 2})
}

// P19.1

func TestNew(t *testing.T) {
	for _, n := range []int{0, -1, -2, -4, maxStubs + 1, maxStubs + 2, behind + 1, far + 1, -far, 1 - far, low, low + 1, high, high - 1} {
		if s := stub.New(n); s != nil {
			t.Errorf("New(%d): there is one", n)
		}
	}
	for n := 1; n <= maxStubs; n++ {
		s := made(t, n)
		is(t, s, -1, 0)
		did(t, s, 0, 0, false, false)
		did(t, s, 0, 0, true, false)
		did(t, s, 1, 1, false, false)
		c := api.Command{View: 5, Stub: n, Saga: 1, Step: 2, Try: 3}
		good(t, s, c)
		is(t, s, 5, 1, of(c))
	}
}

func TestPlan(t *testing.T) {
	s := made(t, id)
	s.Plan([]bool{false, true, false})
	s.Plan(nil)
	s.Plan([]bool{})
	s.Plan([]bool{false}) // behind what was planned
	is(t, s, -1, 0)       // what is planned is no command
	if got := comes(t, s, 1, 6); !slices.Equal(got, []bool{false, true, false, false, true, true}) {
		t.Errorf("six commands come to %v", got)
	}
	s.Plan([]bool{true, false}) // where nothing was planned any more
	if got := comes(t, s, 2, 1); !slices.Equal(got, []bool{true}) {
		t.Errorf("a command comes to %v", got)
	}
	s.Plan([]bool{true, false, true}) // behind what did not come off yet
	if got := comes(t, s, 3, 6); !slices.Equal(got, []bool{false, true, false, true, true, true}) {
		t.Errorf("six commands come to %v", got)
	}
}

// What is planned comes off for new commands alone.
func TestPlanIsForNewCommands(t *testing.T) {
	s := made(t, id)
	s.Plan([]bool{true, false})
	good(t, s, forth(4, 1, 1, 1))
	for range 3 {
		good(t, s, forth(4, 1, 1, 1))
		fenced(t, s, forth(3, 1, 2, 1))
		refused(t, s, api.Command{View: 4, Stub: 2, Saga: 1, Step: 2, Try: 1}, forth(4, -1, 2, 1))
	}
	bad(t, s, forth(4, 1, 2, 1))
	good(t, s, forth(4, 1, 3, 1))
	is(t, s, 4, 3, of(forth(4, 1, 1, 1)), of(forth(4, 1, 3, 1)))
}

// Planned by parts of these lengths: what fits is good, but for the last of it, and what does not fit is not good. (As no more than a thousand commands are ever new, what does not fit cannot be seen from outside: inside_test.go sees how much is kept.)
func TestPlanTakesWhatFits(t *testing.T) {
	for _, parts := range [][]int{{1}, {most - 1}, {most}, {most + 1}, {2 * most}, {100000}, {most - 1, 1}, {most - 1, 2}, {most, 1}, {most, most}, {1, most}, {1, most - 1}, {600, 600}, {300, 300, 300, 300}, {most - 1, 0, 1, 0, 1}} {
		planned := 0
		for _, n := range parts {
			planned += n
		}
		fits := min(planned, most)
		all := same(planned, false)
		for i := range fits - 1 {
			all[i] = true
		}
		s := made(t, id)
		for _, n := range parts {
			s.Plan(all[:n])
			all = all[n:]
		}
		want := same(most, true)
		want[fits-1] = false
		if got := comes(t, s, 1, most); !slices.Equal(got, want) {
			t.Errorf("planned by %v: the first bad one is %d", parts, 1+slices.Index(got, false))
		}
	}
}

func TestFence(t *testing.T) {
	s := made(t, id)
	is(t, s, -1, 0)
	for i, c := range []struct {
		view, fence int
	}{{0, 0}, {0, 0}, {1, 1}, {0, 1}, {1, 1}, {7, 7}, {6, 7}, {-1, 7}, {low, 7}, {7, 7}, {far, far}, {far - 1, far}, {0, far}, {far + 1, far + 1}, {high - 1, high - 1}, {high, high}, {high - 1, high}, {high, high}} {
		s.Ask(forth(c.view, 1, i, 1))
		if s.Fence() != c.fence {
			t.Errorf("view %d: the FENCE is %d, want %d", c.view, s.Fence(), c.fence)
		}
	}
}

// The FENCE is raised by what is known, and by what is not good, too; by what is no command of this stub it is not.
func TestWhatRaisesTheFence(t *testing.T) {
	s := made(t, id)
	s.Plan([]bool{true, false})
	good(t, s, forth(1, 1, 1, 1))
	bad(t, s, forth(2, 1, 2, 1)) // as planned
	is(t, s, 2, 2, of(forth(1, 1, 1, 1)))
	fenced(t, s, forth(1, 1, 1, 1))
	good(t, s, forth(3, 1, 1, 1)) // known
	fenced(t, s, forth(2, 1, 3, 1))
	bad(t, s, forth(4, 1, 2, 1)) // known
	good(t, s, back(5, 1, 1, 1))
	bad(t, s, forth(6, 1, 1, 2)) // it was undone
	fenced(t, s, back(5, 1, 1, 2))
	good(t, s, back(7, 1, 1, 2)) // done already
	is(t, s, 7, 5, of(forth(1, 1, 1, 1)), of(back(5, 1, 1, 1)))
	refused(t, s, api.Command{View: 8, Stub: 4, Saga: 1, Step: 1, Try: 1}, forth(8, -1, 1, 1), forth(8, 1, -1, 1), forth(8, 1, 1, -1))
	good(t, s, forth(7, 1, 4, 1))
	is(t, s, 7, 6, of(forth(1, 1, 1, 1)), of(back(5, 1, 1, 1)), of(forth(7, 1, 4, 1)))
}

func TestEffectsAndDid(t *testing.T) {
	s := made(t, id)
	var want []stub.Effect
	for i, c := range []api.Command{forth(0, 9, 3, 2), forth(0, 1, 1, 1), back(4, 9, 3, 1), forth(4, 0, 0, 0), back(4, 0, 0, 0), back(4, 1, 2, 7), forth(9, far+1, 1, 1), forth(9, high, high, high), back(high, high, high, high)} {
		did(t, s, c.Saga, c.Step, c.Back, false)
		good(t, s, c)
		want = append(want, of(c))
		is(t, s, c.View, i+1, want...)
	}
	for _, e := range []stub.Effect{{Saga: 9, Step: 2}, {Saga: 9, Step: 4}, {Saga: 8, Step: 3}, {Saga: 10, Step: 3}, {Saga: 3, Step: 9}, {Saga: 1, Step: 1, Back: true}, {Saga: 1, Step: 2}, {Saga: far + 1, Step: 1, Back: true}, {Saga: far + 9, Step: 3}, {Saga: 1, Step: far + 1}, {Saga: -1, Step: 1}, {Saga: 1, Step: -1}, {Saga: low, Step: high}, {Saga: high, Step: low}, {Saga: 2, Step: 1}} {
		did(t, s, e.Saga, e.Step, e.Back, false)
	}
	is(t, s, high, 9, want...)
}

// What is fenced, refused or not good is no effect.
func TestWhatIsNoEffect(t *testing.T) {
	s := made(t, id)
	s.Plan([]bool{true, false, false})
	good(t, s, forth(5, 1, 1, 1))
	bad(t, s, forth(5, 2, 1, 1), back(5, 1, 1, 1))
	fenced(t, s, forth(4, 3, 1, 1), back(4, 1, 1, 2))
	refused(t, s, api.Command{View: 5, Stub: 1, Saga: 4, Step: 1, Try: 1}, api.Command{View: 5, Saga: 4, Step: 1, Try: 1}, forth(5, 4, 1, -1))
	for saga := 2; saga <= 4; saga++ {
		did(t, s, saga, 1, false, false)
		did(t, s, saga, 1, true, false)
	}
	did(t, s, 1, 1, true, false)
	is(t, s, 5, 3, of(forth(5, 1, 1, 1)))
}

func TestKnown(t *testing.T) {
	s := made(t, id)
	n := 0
	for saga := range 3 {
		for step := range 3 {
			for try := range 3 {
				for _, c := range []api.Command{forth(1, saga, step, try), back(1, saga, step, try)} {
					s.Ask(c)
					if n++; s.Known() != n {
						t.Fatalf("behind %+v: %d, want %d", c, s.Known(), n)
					}
					s.Ask(c)
					c.View = 0
					s.Ask(c)
					c.View = 1
					c.Stub = 4
					s.Ask(c)
					if s.Known() != n {
						t.Fatalf("behind %+v once more: %d, want %d", c, s.Known(), n)
					}
				}
			}
		}
	}
	s.Plan(same(2, false))
	bad(t, s, forth(2, 7, 1, 1), back(2, 7, 1, 1))
	if s.Known() != n+2 {
		t.Errorf("what is not good is not remembered: %d", s.Known())
	}
}

// P19.2

// Each number that a command may not have, and each stub that is another one.
func TestAskOfWhatIsNoCommand(t *testing.T) {
	for n := 1; n <= maxStubs; n++ {
		s := made(t, n)
		fit := api.Command{View: 3, Stub: n, Saga: 2, Step: 1, Try: 1}
		s.Plan([]bool{true, false})
		for range 2 { // ahead of its being known, and behind it
			for other := -1; other <= behind+5; other++ {
				if c := fit; other != n {
					c.Stub = other
					refused(t, s, c)
				}
			}
			for _, m := range []int{-1, -2, -far, -far + 1, low, low + 1} {
				a, b, c, d, e, f := fit, fit, fit, fit, fit, fit
				a.View, b.Stub, c.Saga, d.Step, e.Try = m, m, m, m, m
				f.Stub = n + m
				refused(t, s, a, b, c, d, e, f)
				b.Stub, f = n+far, api.Command{View: m, Stub: m, Saga: m, Step: m, Try: m}
				refused(t, s, b, f)
				fit.Back = !fit.Back
			}
			if s.Fence() == -1 {
				is(t, s, -1, 0)
				good(t, s, fit)
			}
			is(t, s, 3, 1, of(fit))
		}
		next := api.Command{View: 3, Stub: n, Saga: 2, Step: 9, Try: 1}
		bad(t, s, next) // as was planned for the second one that is new
		refused(t, s, api.Command{})
	}
}

// Numbers that are as small or as great as may be.
func TestAskAtTheEnds(t *testing.T) {
	s := made(t, id)
	l := []api.Command{forth(0, 0, 0, 0), back(0, 0, 0, 0), forth(0, high, 0, 0), forth(0, 0, high, 0), forth(0, 1, 0, high), forth(0, high, high, high), back(0, high, high, high)}
	var want []stub.Effect
	for _, c := range l {
		good(t, s, c)
		want = append(want, of(c))
	}
	is(t, s, 0, len(l), want...)
	c := forth(high, 5, 5, 5)
	good(t, s, c)
	is(t, s, high, len(l)+1, append(want, of(c))...)
	fenced(t, s, forth(high-1, 5, 5, 5), forth(0, 0, 0, 0))
}

func TestFenced(t *testing.T) {
	s := made(t, id)
	s.Plan([]bool{true, false, false})
	good(t, s, forth(5, 1, 1, 1))
	bad(t, s, forth(5, 1, 2, 1))
	for view := range 5 {
		fenced(t, s, forth(view, 1, 1, 1), forth(view, 1, 2, 1)) // known
		fenced(t, s, forth(view, 1, 3, 1), back(view, 1, 1, 1))  // new
	}
	is(t, s, 5, 2, of(forth(5, 1, 1, 1)))
	bad(t, s, forth(5, 1, 3, 1)) // it was new still, and what was planned did not come off
	good(t, s, back(5, 1, 1, 1))
}

// What was asked is told as it was, whatever came since; with the command that asks now.
func TestAskOnceMore(t *testing.T) {
	s := made(t, id)
	s.Plan([]bool{true, false, true, false})
	first, second, third, fourth := forth(1, 1, 1, 1), forth(1, 1, 2, 1), back(1, 1, 3, 1), back(1, 1, 4, 1)
	good(t, s, first)
	bad(t, s, second)
	good(t, s, third)
	bad(t, s, fourth)
	for view := 1; view < 50; view++ {
		s.Plan([]bool{view%3 == 0, view%2 == 0})
		good(t, s, forth(view, 1, 1, 1), back(view, 1, 3, 1))
		bad(t, s, back(view, 1, 4, 1), forth(view, 1, 2, 1))
		is(t, s, view, 4, of(first), of(third))
	}
}

// What is asked is told by Saga, Step, Try and Back: where one of these is another one, the command is new.
func TestWhatIsNew(t *testing.T) {
	s := made(t, id)
	s.Plan(same(30, false))
	bad(t, s, forth(1, 1, 1, 1))
	n := 1
	for _, by := range []int{1, -1, 5, far} {
		for _, c := range []api.Command{forth(1, 1+by, 1, 1), forth(1, 1, 1+by, 1), forth(1, 1, 1, 1+by)} {
			bad(t, s, c)
			if n++; s.Known() != n {
				t.Fatalf("%+v was known", c)
			}
		}
	}
	bad(t, s, back(1, 1, 1, 1))
	is(t, s, 1, n+1)
	s.Plan(same(1, true)) // none is left over from thirty but these
	for range 30 - n - 1 {
		n++
		bad(t, s, forth(1, 100, 1, n))
	}
	good(t, s, forth(1, 100, 2, 1))
}

// Another try of what was done stays good, and is no effect.
func TestAnotherTry(t *testing.T) {
	s := made(t, id)
	good(t, s, forth(1, 1, 1, 2), forth(2, 1, 1, 1), forth(3, 1, 1, 3))
	is(t, s, 3, 3, of(forth(1, 1, 1, 2))) // by the try and the view that did it
	s.Plan([]bool{false, true})
	bad(t, s, forth(3, 1, 1, 4)) // as planned, though it was done
	good(t, s, forth(3, 1, 1, 5))
	is(t, s, 3, 5, of(forth(1, 1, 1, 2)))
	good(t, s, back(4, 1, 1, 1), back(5, 1, 1, 2))
	is(t, s, 5, 7, of(forth(1, 1, 1, 2)), of(back(4, 1, 1, 1)))

	s = made(t, id)
	s.Plan([]bool{false, false, true, true})
	bad(t, s, forth(1, 1, 1, 1), forth(1, 1, 1, 2))
	good(t, s, forth(1, 1, 1, 3), forth(1, 1, 1, 4))
	is(t, s, 1, 4, of(forth(1, 1, 1, 3)))
}

// What was undone is not done any more; what was planned comes off, too.
func TestForwardBehindItsBack(t *testing.T) {
	s := made(t, id)
	s.Plan([]bool{true, true, true, false, false})
	good(t, s, forth(1, 1, 1, 1), back(1, 1, 1, 1))
	bad(t, s, forth(1, 1, 1, 2))                    // true was planned, and came off
	bad(t, s, forth(1, 1, 1, 3), forth(1, 1, 2, 1)) // as planned
	good(t, s, forth(1, 1, 3, 1))
	good(t, s, forth(9, 1, 1, 1)) // it is known, and was good
	bad(t, s, forth(9, 1, 1, 2))  // it is remembered so
	good(t, s, forth(9, 1, 2, 2), forth(9, 2, 1, 1), forth(9, 1, 4, 1))
	is(t, s, 9, 9, of(forth(1, 1, 1, 1)), of(back(1, 1, 1, 1)), of(forth(1, 1, 3, 1)), of(forth(9, 1, 2, 2)), of(forth(9, 2, 1, 1)), of(forth(9, 1, 4, 1)))
}

// A step may be undone that was never done: it may not be done any more.
func TestBackOfWhatWasNotDone(t *testing.T) {
	s := made(t, id)
	good(t, s, back(2, 1, 1, 1))
	bad(t, s, forth(2, 1, 1, 1), forth(3, 1, 1, 2))
	good(t, s, forth(3, 1, 2, 1), forth(3, 2, 1, 1))
	is(t, s, 3, 5, of(back(2, 1, 1, 1)), of(forth(3, 1, 2, 1)), of(forth(3, 2, 1, 1)))
	did(t, s, 1, 1, false, false)
}

// A Back that was not good undid nothing.
func TestForwardBehindABadBack(t *testing.T) {
	s := made(t, id)
	s.Plan([]bool{false})
	bad(t, s, back(1, 1, 1, 1))
	good(t, s, forth(1, 1, 1, 1), back(1, 1, 1, 2))
	bad(t, s, back(1, 1, 1, 1), forth(1, 1, 1, 2))
	is(t, s, 1, 4, of(forth(1, 1, 1, 1)), of(back(1, 1, 1, 2)))
}

func TestMoreThanAThousand(t *testing.T) {
	s := made(t, id)
	s.Plan([]bool{true, false})
	if got := comes(t, s, 1, most); !slices.Equal(got[:3], []bool{true, false, true}) || slices.Contains(got[2:], false) {
		t.Fatalf("a thousand commands: the third bad one is %d", 3+slices.Index(got[2:], false))
	}
	effects := s.Effects()
	if len(effects) != most-1 || s.Known() != most {
		t.Fatalf("%d effects, %d are known", len(effects), s.Known())
	}
	for range 3 {
		s.Plan([]bool{true, true})
		bad(t, s, forth(0, 1, most+1, 1), forth(0, 1, 1, 2), back(0, 1, 1, 1), forth(0, 2, 1, 1))
		good(t, s, forth(0, 1, 1, 1), forth(0, 1, most, 1)) // they are remembered
		bad(t, s, forth(0, 1, 2, 1))
		is(t, s, 0, most, effects...)
		did(t, s, 1, most+1, false, false)
		did(t, s, 1, 1, true, false)
	}
	bad(t, s, forth(7, 2, 1, 1)) // the FENCE is its view all the same
	is(t, s, 7, most, effects...)
	fenced(t, s, forth(6, 1, 1, 1), forth(6, 3, 1, 1))
	refused(t, s, forth(7, 2, 1, -1), api.Command{View: 8, Stub: 1})
	good(t, s, forth(8, 1, 1, 1))
	is(t, s, 8, most, effects...)
}

// What is not good, and what is no other effect, has its place among the thousand.
func TestWhatIsAmongTheThousand(t *testing.T) {
	s := made(t, id)
	s.Plan(same(400, false))
	for try := 1; try <= most-1; try++ {
		if c := forth(1, 1, 1, try); try <= 400 {
			bad(t, s, c)
		} else {
			good(t, s, c)
		}
	}
	is(t, s, 1, most-1, of(forth(1, 1, 1, 401)))
	good(t, s, back(1, 1, 1, 1))
	bad(t, s, back(1, 1, 1, 2), back(2, 1, 2, 1), forth(2, 9, 1, 1))
	good(t, s, back(2, 1, 1, 1), forth(2, 1, 1, most-1))
	is(t, s, 2, most, of(forth(1, 1, 1, 401)), of(back(1, 1, 1, 1)))
}

// R5

func TestAStubThatNoCallMade(t *testing.T) {
	var zero stub.Stub
	for _, s := range []*stub.Stub{nil, &zero, new(stub.Stub), stub.New(0), stub.New(-1), stub.New(maxStubs + 1)} {
		for range 3 {
			s.Plan([]bool{true, false})
			for n := -1; n <= maxStubs; n++ {
				refused(t, s, api.Command{Stub: n}, api.Command{View: 1, Stub: n, Saga: 1, Step: 1, Try: 1}, api.Command{View: -1, Stub: n}, api.Command{Stub: n, Back: true})
			}
			is(t, s, -1, 0)
			did(t, s, 0, 0, false, false)
			did(t, s, 1, 1, false, false)
			did(t, s, 1, 1, true, false)
		}
	}
}
