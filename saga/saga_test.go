package saga_test

import (
	"math"
	"slices"
	"strconv"
	"testing"

	"drover/api"
	"drover/def"
	"drover/saga"
)

// The signatures that the chapter lists.
var (
	_ func(api.Def) (saga.Saga, api.Errno)                                = saga.Begin
	_ func(saga.Saga) (api.Command, int, bool)                            = saga.Wants
	_ func(s saga.Saga, step, try int, back, good bool) (saga.Saga, bool) = saga.Report
	_ func(s saga.Saga, step, try int, back bool) (saga.Saga, bool)       = saga.Lapse
	_ func(saga.Saga) (saga.Saga, api.Errno)                              = saga.Cancel
	_ func(a, b saga.Saga) bool                                           = saga.Same
	_ func(saga.Saga) bool                                                = saga.Good
	_                                                                     = saga.Saga{Def: api.Def{}, State: 0, Step: 0, Try: 0, Hit: [8]bool{}}
)

// The limits, by their numbers.
const (
	maxSteps  = 8
	maxStubs  = 4
	maxBudget = 9
	maxWait   = 99
)

const (
	low  = math.MinInt
	high = math.MaxInt
	far  = 1 << 32 // what is as much above another number is alike in its low half
)

// drawn: a definition drawn by a letter a step: u has Undo, p is the Pivot, . is neither. Each step has its own Stub, Retry and Wait: step 1 is tried once, step 2 twice, step 3 three times, step 4 once, ..
func drawn(letters string) api.Def {
	d := api.Def{Name: "a"}
	for i, c := range letters {
		d.Steps = append(d.Steps, api.Step{Name: "s" + strconv.Itoa(i), Stub: i%maxStubs + 1, Retry: i % 3, Wait: i + 5, Undo: c == 'u', Pivot: c == 'p'})
	}
	return d
}

// hits: what is hit, drawn by a letter a step: x is hit.
func hits(letters string) [maxSteps]bool {
	var l [maxSteps]bool
	for i, c := range letters {
		l[i] = c == 'x'
	}
	return l
}

// at: a saga of what drawn draws, and hits.
func at(letters string, state, step, try int, hit string) saga.Saga {
	return saga.Saga{Def: drawn(letters), State: state, Step: step, Try: try, Hit: hits(hit)}
}

func tell(s saga.Saga) string {
	l := []byte("saga " + s.Def.Name + " of " + strconv.Itoa(len(s.Def.Steps)) + " steps, state " + strconv.Itoa(s.State) + ", step " + strconv.Itoa(s.Step) + ", try " + strconv.Itoa(s.Try) + ", hit ")
	for _, h := range s.Hit {
		l = append(l, map[bool]byte{true: 'x', false: ' '}[h])
	}
	return string(l)
}

// alike is plain: it asks no call of the program's.
func alike(a, b saga.Saga) bool {
	return a.Def.Name == b.Def.Name && slices.Equal(a.Def.Steps, b.Def.Steps) && a.State == b.State && a.Step == b.Step && a.Try == b.Try && a.Hit == b.Hit
}

func goodIs(t *testing.T, s saga.Saga, want bool) {
	t.Helper()
	if saga.Good(s) != want {
		t.Errorf("Good(%s): %v", tell(s), !want)
	}
}

func wants(t *testing.T, s saga.Saga, want api.Command, ticks int, ok bool) {
	t.Helper()
	if got, n, is := saga.Wants(s); got != want || n != ticks || is != ok {
		t.Errorf("Wants(%s): %+v, %d, %v, want %+v, %d, %v", tell(s), got, n, is, want, ticks, ok)
	}
}

// event: a Report, or a Lapse (with which good is not looked at).
type event struct {
	lapse      bool
	step, try  int
	back, good bool
}

func (e event) of(s saga.Saga) (saga.Saga, bool) {
	if e.lapse {
		return saga.Lapse(s, e.step, e.try, e.back)
	}
	return saga.Report(s, e.step, e.try, e.back, e.good)
}

func becomes(t *testing.T, s saga.Saga, e event, want saga.Saga, ok bool) {
	t.Helper()
	if got, is := e.of(s); !alike(got, want) || is != ok {
		t.Errorf("%s behind %+v: %s, %v, want %s, %v", tell(s), e, tell(got), is, tell(want), ok)
	}
}

func cancelled(t *testing.T, s, want saga.Saga, err api.Errno) {
	t.Helper()
	if got, e := saga.Cancel(s); !alike(got, want) || e != err {
		t.Errorf("Cancel(%s): %s, %v, want %s, %v", tell(s), tell(got), e, tell(want), err)
	}
}

// goes: the events, one behind the other, each of which is to be wanted: what comes of them.
func goes(t *testing.T, s saga.Saga, l ...event) saga.Saga {
	t.Helper()
	for _, e := range l {
		next, ok := e.of(s)
		if !ok {
			t.Fatalf("%s does not want %+v", tell(s), e)
		}
		s = next
	}
	return s
}

func begun(t *testing.T, d api.Def) saga.Saga {
	t.Helper()
	s, err := saga.Begin(d)
	if err != api.OK {
		t.Fatalf("Begin(%+v): %v", d, err)
	}
	return s
}

func TestTheChaptersExample(t *testing.T) {
	d, _, err := def.Parse("saga pay { step hold stub 1 undo; step ship stub 2 pivot; }")
	if err != api.OK {
		t.Fatal(err)
	}
	s := goes(t, begun(t, d), event{step: 1, try: 1, good: true}, event{step: 2, try: 1})
	if !alike(s, saga.Saga{Def: d, State: api.Undoing, Step: 1, Try: 1, Hit: hits("x")}) {
		t.Errorf("behind a bad ship: %s", tell(s))
	}
	s = goes(t, s, event{step: 1, try: 1, back: true, good: true})
	if !alike(s, saga.Saga{Def: d, State: api.Aborted}) {
		t.Errorf("behind hold back: %s", tell(s))
	}
}

// P15.1: Begin

// mayBe: of each count of steps each place at which the Pivot may stand, or none.
func mayBe() []string {
	var l []string
	for n := 1; n <= maxSteps; n++ {
		for ahead := range n + 1 {
			s := ""
			for i := range n {
				s += map[bool]string{true: "u", false: "."}[i < ahead]
			}
			if ahead < n {
				s = s[:ahead] + "p" + s[ahead+1:]
			}
			l = append(l, s)
		}
	}
	return l
}

func TestBegin(t *testing.T) {
	for _, letters := range mayBe() {
		if got := begun(t, drawn(letters)); !alike(got, at(letters, api.Running, 1, 1, "")) {
			t.Errorf("Begin of %s: %s", letters, tell(got))
		}
	}
}

// refused: definitions that may not be, each with the error that def's Check tells.
func refused() map[api.Errno][]api.Def {
	with := func(letters string, set func(*api.Step)) api.Def {
		d := drawn(letters)
		set(&d.Steps[len(letters)-1])
		return d
	}
	nameless := drawn("uu")
	nameless.Name = ""
	return map[api.Errno][]api.Def{
		api.ErrArg: {{}, {Name: "a"}, {Name: "A", Steps: drawn("u").Steps}, nameless, drawn("uuuuuuuuu"), drawn("uuuuuuuup"), drawn("p........"),
			with("u", func(s *api.Step) { s.Name = "" }), with("uu", func(s *api.Step) { s.Name = "B" }), with("u", func(s *api.Step) { s.Stub = 0 }), with("uup", func(s *api.Step) { s.Stub = maxStubs + 1 }),
			with("up", func(s *api.Step) { s.Retry = -1 }), with("up.", func(s *api.Step) { s.Retry = maxBudget + 1 }), with("u", func(s *api.Step) { s.Wait = 0 }), with("uu", func(s *api.Step) { s.Wait = maxWait + 1 })},
		api.ErrTwice: {drawn("pp"), drawn("up.p"), with("uu", func(s *api.Step) { s.Name = "s0" }), with("up.", func(s *api.Step) { s.Name = "s1" })},
		api.ErrLate:  {drawn("."), drawn("u."), drawn("pu"), drawn("up.u"), drawn(".p"), with("up", func(s *api.Step) { s.Undo = true })},
	}
}

func TestBeginOfWhatMayNotBe(t *testing.T) {
	for want, l := range refused() {
		for _, d := range l {
			if got, err := saga.Begin(d); !alike(got, saga.Saga{}) || got.Def.Steps != nil || err != want {
				t.Errorf("Begin(%+v): %s, %v, want %v", d, tell(got), err, want)
			}
		}
	}
}

// P15.1: Good

func TestGoodRunning(t *testing.T) {
	for _, letters := range []string{"uuuu", "uup.", "p...", "uuup"} {
		for hit, steps := range map[string][]int{"": {1}, "x": {1, 2}, "xx": {2, 3}, "xxx": {3, 4}, "xxxx": {4}, "xxxxx": nil, " x": nil, "x x": nil, "  x": nil, "xx x": nil, "xxxx   x": nil, "       x": nil} {
			for step := -1; step <= 6; step++ {
				is := slices.Contains(steps, step)
				goodIs(t, at(letters, api.Running, step, 1, hit), is)
				goodIs(t, at(letters, api.Stuck, step, 0, hit), is)
				goodIs(t, at(letters, api.Running, step, 0, hit), false)
				goodIs(t, at(letters, api.Stuck, step, 1, hit), false)
			}
		}
	}
}

func TestGoodUndoing(t *testing.T) {
	for hit, step := range map[string]int{"": 0, "x": 1, "xx": 2, "xxx": 3, "xxxx": 4, " x": 0, "x x": 0, "xxxxx": 0, "xx x": 0, "xxxx   x": 0} {
		for from := -1; from <= 6; from++ {
			goodIs(t, at("uuuu", api.Undoing, from, 1, hit), from == step && step > 0)
			goodIs(t, at("uup.", api.Undoing, from, 1, hit), from == step && step > 0 && step < 3) // the Pivot, and what stands behind it, have no way back
			goodIs(t, at("p...", api.Undoing, from, 1, hit), false)
		}
	}
}

func TestGoodOfWhatEnded(t *testing.T) {
	for _, letters := range mayBe() {
		n := len(letters)
		for hit := range 1 << maxSteps {
			s := saga.Saga{Def: drawn(letters)}
			for i := range maxSteps {
				s.Hit[i] = hit>>i&1 == 1
			}
			s.State = api.Done
			goodIs(t, s, hit == 1<<n-1)
			s.State = api.Aborted
			goodIs(t, s, hit == 0)
		}
		for _, n := range []int{1, 2, -1, 8, 9, far, low, high} {
			goodIs(t, at(letters, api.Done, n, 0, "xxxxxxxx"[:len(letters)]), false)
			goodIs(t, at(letters, api.Done, 0, n, "xxxxxxxx"[:len(letters)]), false)
			goodIs(t, at(letters, api.Aborted, n, 0, ""), false)
			goodIs(t, at(letters, api.Aborted, 0, n, ""), false)
		}
	}
}

func TestGoodOfEachTry(t *testing.T) {
	for retry := range maxBudget + 1 {
		for _, try := range []int{1, 2, 3, 5, 8, 9, 10, 11, 12, 0, -1, -9, 1<<8 + 1, 1 << 31, far, far + 1, -far + 1, high, low, low + 1} {
			s := at("uup", api.Running, 2, try, "x")
			s.Def.Steps[1].Retry = retry
			goodIs(t, s, try >= 1 && try <= retry+1)
			s.Hit[1] = true
			goodIs(t, s, try >= 1 && try <= retry+1)
			s.State = api.Undoing
			goodIs(t, s, try >= 1 && try <= retry+1)
			s.State = api.Stuck
			goodIs(t, s, try == 0)
		}
	}
}

func TestGoodOfNoSuchState(t *testing.T) {
	for _, state := range []int{0, 6, 7, -1, -5, 1<<8 + 1, 1 << 31, far + 1, far + 5, -far + 2, high, low, low + 1} {
		for _, hit := range []string{"", "x", "xx", "xxx"} {
			for step := range 4 {
				goodIs(t, at("uuu", state, step, 0, hit), false)
				goodIs(t, at("uuu", state, step, 1, hit), false)
			}
		}
	}
}

func TestGoodOfNoSuchStep(t *testing.T) {
	for _, letters := range []string{"u", "p", "uup.", "uuuuuuuu", "p......."} {
		for _, step := range []int{0, len(letters) + 1, len(letters) + 2, 9, 10, -1, -8, 64, 1<<8 + 1, 1 << 31, far, far + 1, -far + 1, high, high - 1, low, low + 1} {
			for _, state := range []int{api.Running, api.Undoing, api.Stuck} {
				for _, hit := range []string{"", "xxxxxxxx", "xxxxxxxx"[:len(letters)]} {
					goodIs(t, at(letters, state, step, 0, hit), false)
					goodIs(t, at(letters, state, step, 1, hit), false)
				}
			}
		}
	}
}

func TestGoodOfNoSuchDef(t *testing.T) {
	for _, l := range refused() {
		for _, d := range l {
			for state := api.Running; state <= api.Stuck; state++ {
				for step := range 3 {
					for try := range 2 {
						goodIs(t, saga.Saga{Def: d, State: state, Step: step, Try: try}, false)
						goodIs(t, saga.Saga{Def: d, State: state, Step: step, Try: try, Hit: hits("x")}, false)
						goodIs(t, saga.Saga{Def: d, State: state, Step: step, Try: try, Hit: hits("xxxxxxxx")}, false)
					}
				}
			}
		}
	}
	goodIs(t, saga.Saga{}, false)
}

// P15.1: Wants

func TestWants(t *testing.T) {
	wants(t, at("uup.", api.Running, 1, 1, ""), api.Command{Stub: 1, Step: 1, Try: 1}, 5, true)
	wants(t, at("uup.", api.Running, 1, 1, "x"), api.Command{Stub: 1, Step: 1, Try: 1}, 5, true)
	wants(t, at("uup.", api.Running, 2, 2, "x"), api.Command{Stub: 2, Step: 2, Try: 2}, 6, true)
	wants(t, at("uup.", api.Running, 3, 3, "xx"), api.Command{Stub: 3, Step: 3, Try: 3}, 7, true)
	wants(t, at("uup.", api.Running, 4, 1, "xxx"), api.Command{Stub: 4, Step: 4, Try: 1}, 8, true)
	wants(t, at("uup.", api.Undoing, 1, 1, "x"), api.Command{Stub: 1, Step: 1, Try: 1, Back: true}, 5, true)
	wants(t, at("uup.", api.Undoing, 2, 2, "xx"), api.Command{Stub: 2, Step: 2, Try: 2, Back: true}, 6, true)
	for _, s := range []saga.Saga{
		at("uup.", api.Done, 0, 0, "xxxx"), at("uup.", api.Aborted, 0, 0, ""), at("uup.", api.Stuck, 4, 0, "xxx"), at("uup.", api.Stuck, 2, 0, "xx"),
		{}, at("uup.", api.Running, 2, 3, "x"), at("uup.", api.Running, 2, 0, "x"), at("uup.", api.Running, 5, 1, "xxxx"), at("uup.", api.Running, 0, 1, ""), at("uup.", 0, 1, 1, ""), at("uup.", 6, 1, 1, ""),
		at("uup.", api.Undoing, 3, 1, "xxx"), at("uup.", api.Undoing, 2, 1, "x"), at("uu..", api.Running, 1, 1, ""), at("uup.", api.Running, 1, 1, "     x"), at("", api.Running, 1, 1, ""),
	} {
		wants(t, s, api.Command{}, 0, false)
	}
}

// P15.2

func TestReportForward(t *testing.T) {
	for _, c := range []struct {
		s    saga.Saga
		good bool
		want saga.Saga
	}{
		{at("uup.", api.Running, 1, 1, ""), true, at("uup.", api.Running, 2, 1, "x")},
		{at("uup.", api.Running, 2, 1, "x"), true, at("uup.", api.Running, 3, 1, "xx")},
		{at("uup.", api.Running, 2, 2, "x"), true, at("uup.", api.Running, 3, 1, "xx")},
		{at("uup.", api.Running, 2, 2, "xx"), true, at("uup.", api.Running, 3, 1, "xx")},
		{at("uup.", api.Running, 3, 2, "xx"), true, at("uup.", api.Running, 4, 1, "xxx")},
		{at("uup.", api.Running, 4, 1, "xxx"), true, at("uup.", api.Done, 0, 0, "xxxx")},
		{at("uup.", api.Running, 4, 1, "xxxx"), true, at("uup.", api.Done, 0, 0, "xxxx")},
		{at("u", api.Running, 1, 1, ""), true, at("u", api.Done, 0, 0, "x")},
		{at("p", api.Running, 1, 1, ""), true, at("p", api.Done, 0, 0, "x")},
		{at("uuuuuuuu", api.Running, 8, 2, "xxxxxxx"), true, at("uuuuuuuu", api.Done, 0, 0, "xxxxxxxx")},
		{at("uup.", api.Running, 2, 1, "x"), false, at("uup.", api.Running, 2, 2, "x")},
		{at("uup.", api.Running, 3, 1, "xxx"), false, at("uup.", api.Running, 3, 2, "xxx")},
		{at("uup.", api.Running, 3, 2, "xx"), false, at("uup.", api.Running, 3, 3, "xx")},
		{at("uup.", api.Running, 1, 1, ""), false, at("uup.", api.Aborted, 0, 0, "")}, // fails: nothing has run
		{at("uup.", api.Running, 1, 1, "x"), false, at("uup.", api.Undoing, 1, 1, "x")},
		{at("uup.", api.Running, 2, 2, "x"), false, at("uup.", api.Undoing, 1, 1, "x")},
		{at("uup.", api.Running, 2, 2, "xx"), false, at("uup.", api.Undoing, 2, 1, "xx")},
		{at("uup.", api.Running, 3, 3, "xx"), false, at("uup.", api.Undoing, 2, 1, "xx")},
		{at("uup.", api.Running, 3, 3, "xxx"), false, at("uup.", api.Stuck, 3, 0, "xxx")}, // the Pivot may have run
		{at("uup.", api.Running, 4, 1, "xxx"), false, at("uup.", api.Stuck, 4, 0, "xxx")},
		{at("uup.", api.Running, 4, 1, "xxxx"), false, at("uup.", api.Stuck, 4, 0, "xxxx")},
		{at("p", api.Running, 1, 1, ""), false, at("p", api.Aborted, 0, 0, "")},
		{at("p", api.Running, 1, 1, "x"), false, at("p", api.Stuck, 1, 0, "x")},
		{at("uuuu", api.Running, 4, 1, "xxx"), false, at("uuuu", api.Undoing, 3, 1, "xxx")},
		{at("uuuu", api.Running, 4, 1, "xxxx"), false, at("uuuu", api.Undoing, 4, 1, "xxxx")},
	} {
		becomes(t, c.s, event{step: c.s.Step, try: c.s.Try, good: c.good}, c.want, true)
	}
}

func TestReportBack(t *testing.T) {
	for _, c := range []struct {
		s    saga.Saga
		good bool
		want saga.Saga
	}{
		{at("uup.", api.Undoing, 2, 1, "xx"), true, at("uup.", api.Undoing, 1, 1, "x")},
		{at("uup.", api.Undoing, 2, 2, "xx"), true, at("uup.", api.Undoing, 1, 1, "x")},
		{at("uup.", api.Undoing, 1, 1, "x"), true, at("uup.", api.Aborted, 0, 0, "")},
		{at("uuuuuuuu", api.Undoing, 8, 1, "xxxxxxxx"), true, at("uuuuuuuu", api.Undoing, 7, 1, "xxxxxxx")},
		{at("uup.", api.Undoing, 2, 1, "xx"), false, at("uup.", api.Undoing, 2, 2, "xx")},
		{at("uup.", api.Undoing, 2, 2, "xx"), false, at("uup.", api.Stuck, 2, 0, "xx")},
		{at("uup.", api.Undoing, 1, 1, "x"), false, at("uup.", api.Stuck, 1, 0, "x")},
		{at("uuu", api.Undoing, 3, 1, "xxx"), false, at("uuu", api.Undoing, 3, 2, "xxx")},
		{at("uuu", api.Undoing, 3, 2, "xxx"), false, at("uuu", api.Undoing, 3, 3, "xxx")},
		{at("uuu", api.Undoing, 3, 3, "xxx"), false, at("uuu", api.Stuck, 3, 0, "xxx")},
	} {
		becomes(t, c.s, event{step: c.s.Step, try: c.s.Try, back: true, good: c.good}, c.want, true)
	}
}

func TestLapse(t *testing.T) {
	for _, c := range []struct{ s, want saga.Saga }{
		{at("uup.", api.Running, 2, 1, "x"), at("uup.", api.Running, 2, 2, "xx")},
		{at("uup.", api.Running, 2, 1, "xx"), at("uup.", api.Running, 2, 2, "xx")},
		{at("uup.", api.Running, 3, 1, "xx"), at("uup.", api.Running, 3, 2, "xxx")},
		{at("uup.", api.Running, 1, 1, ""), at("uup.", api.Undoing, 1, 1, "x")}, // fails: it may have run
		{at("uup.", api.Running, 1, 1, "x"), at("uup.", api.Undoing, 1, 1, "x")},
		{at("uup.", api.Running, 2, 2, "x"), at("uup.", api.Undoing, 2, 1, "xx")},
		{at("uup.", api.Running, 3, 3, "xx"), at("uup.", api.Stuck, 3, 0, "xxx")}, // the Pivot may have run
		{at("uup.", api.Running, 4, 1, "xxx"), at("uup.", api.Stuck, 4, 0, "xxxx")},
		{at("p", api.Running, 1, 1, ""), at("p", api.Stuck, 1, 0, "x")},
		{at("u", api.Running, 1, 1, ""), at("u", api.Undoing, 1, 1, "x")},
		{at("uuuuuuuu", api.Running, 8, 2, "xxxxxxx"), at("uuuuuuuu", api.Undoing, 8, 1, "xxxxxxxx")},
		{at("uuuuuuuu", api.Undoing, 8, 1, "xxxxxxxx"), at("uuuuuuuu", api.Undoing, 8, 2, "xxxxxxxx")},
		{at("uuuuuuuu", api.Undoing, 8, 2, "xxxxxxxx"), at("uuuuuuuu", api.Stuck, 8, 0, "xxxxxxxx")},
		{at("uup.", api.Undoing, 1, 1, "x"), at("uup.", api.Stuck, 1, 0, "x")},
	} {
		becomes(t, c.s, event{lapse: true, step: c.s.Step, try: c.s.Try, back: c.s.State == api.Undoing}, c.want, true)
	}
}

// A step that is tried as often as may be.
func TestEachTryOfTheGreatestBudget(t *testing.T) {
	d := drawn("u")
	d.Steps[0].Retry = maxBudget
	s, other := begun(t, d), begun(t, d)
	for try := 1; try <= maxBudget; try++ {
		s = goes(t, s, event{step: 1, try: try})
		other = goes(t, other, event{lapse: true, step: 1, try: try})
		if !alike(s, saga.Saga{Def: d, State: api.Running, Step: 1, Try: try + 1}) || !alike(other, saga.Saga{Def: d, State: api.Running, Step: 1, Try: try + 1, Hit: hits("x")}) {
			t.Fatalf("behind try %d: %s, %s", try, tell(s), tell(other))
		}
	}
	becomes(t, s, event{step: 1, try: 10}, saga.Saga{Def: d, State: api.Aborted}, true)
	becomes(t, other, event{step: 1, try: 10}, saga.Saga{Def: d, State: api.Undoing, Step: 1, Try: 1, Hit: hits("x")}, true)
	other = goes(t, other, event{step: 1, try: 10})
	for try := 1; try <= maxBudget; try++ {
		other = goes(t, other, event{lapse: try%2 == 0, step: 1, try: try, back: true})
	}
	becomes(t, other, event{step: 1, try: 10, back: true, good: true}, saga.Saga{Def: d, State: api.Aborted}, true)
	becomes(t, other, event{step: 1, try: 10, back: true}, saga.Saga{Def: d, State: api.Stuck, Step: 1, Hit: hits("x")}, true)
}

func TestWhatIsNotWantedChangesNothing(t *testing.T) {
	numbers := []int{0, 1, 2, 3, 4, 5, -1, 8, 9, 1<<8 + 1, 1<<8 + 2, far + 1, far + 2, -far + 2, high, low}
	for _, s := range []saga.Saga{at("uup.", api.Running, 2, 2, "x"), at("uup.", api.Running, 3, 2, "xxx"), at("uup.", api.Undoing, 2, 1, "xx"), at("uup.", api.Undoing, 1, 1, "x")} {
		for _, step := range numbers {
			for _, try := range numbers {
				for _, back := range []bool{false, true} {
					if step == s.Step && try == s.Try && back == (s.State == api.Undoing) {
						continue
					}
					becomes(t, s, event{step: step, try: try, back: back, good: true}, s, false)
					becomes(t, s, event{step: step, try: try, back: back}, s, false)
					becomes(t, s, event{lapse: true, step: step, try: try, back: back}, s, false)
				}
			}
		}
	}
}

func TestOneThatEndedStaysSo(t *testing.T) {
	for _, s := range []saga.Saga{at("uup.", api.Done, 0, 0, "xxxx"), at("uup.", api.Aborted, 0, 0, ""), at("uup.", api.Stuck, 4, 0, "xxx"), at("uup.", api.Stuck, 2, 0, "xx"), at("uup.", api.Stuck, 1, 0, "")} {
		for step := range 6 {
			for try := range 4 {
				for _, back := range []bool{false, true} {
					becomes(t, s, event{step: step, try: try, back: back, good: true}, s, false)
					becomes(t, s, event{step: step, try: try, back: back}, s, false)
					becomes(t, s, event{lapse: true, step: step, try: try, back: back}, s, false)
				}
			}
		}
	}
}

// notGood: sagas that no call tells.
func notGood() []saga.Saga {
	l := []saga.Saga{
		{}, {Def: drawn("up")}, {State: api.Running, Step: 1, Try: 1}, {State: api.Done}, {State: api.Aborted}, {Hit: hits("xxxxxxxx")},
		at("uup.", 0, 2, 1, "x"), at("uup.", 6, 2, 1, "x"), at("uup.", low, 2, 1, "x"), at("uup.", api.Running, 2, 3, "x"), at("uup.", api.Running, 2, 0, "x"), at("uup.", api.Running, 2, 1, ""),
		at("uup.", api.Running, 2, 1, "xxx"), at("uup.", api.Running, 2, 1, "x   x"), at("uup.", api.Running, 0, 1, ""), at("uup.", api.Running, 5, 1, "xxxx"), at("uup.", api.Running, high, 1, "xxxx"), at("uup.", api.Running, low, 1, ""),
		at("uup.", api.Undoing, 2, 1, "x"), at("uup.", api.Undoing, 3, 1, "xxx"), at("uup.", api.Undoing, 4, 1, "xxxx"), at("uup.", api.Undoing, 2, 0, "xx"), at("uup.", api.Undoing, 2, 1, "xxx"), at("uup.", api.Undoing, 0, 1, ""),
		at("uup.", api.Done, 0, 0, "xxx"), at("uup.", api.Done, 4, 0, "xxxx"), at("uup.", api.Done, 0, 1, "xxxx"), at("uup.", api.Aborted, 0, 0, "x"), at("uup.", api.Aborted, 1, 0, ""), at("uup.", api.Stuck, 2, 1, "xx"), at("uup.", api.Stuck, 0, 0, ""),
	}
	for _, letters := range []string{"uu.", ".", "pp", "pu", "uuuuuuuuu"} {
		l = append(l, at(letters, api.Running, 1, 1, ""), at(letters, api.Undoing, 1, 1, "x"), at(letters, api.Stuck, 1, 0, "x"), at(letters, api.Aborted, 0, 0, ""))
	}
	return l
}

func TestOneThatIsNotGoodIsToldAsItIs(t *testing.T) {
	for _, s := range notGood() {
		goodIs(t, s, false)
		wants(t, s, api.Command{}, 0, false)
		cancelled(t, s, s, api.ErrArg)
		for _, back := range []bool{false, true} {
			becomes(t, s, event{step: s.Step, try: s.Try, back: back, good: true}, s, false)
			becomes(t, s, event{step: s.Step, try: s.Try, back: back}, s, false)
			becomes(t, s, event{lapse: true, step: s.Step, try: s.Try, back: back}, s, false)
			becomes(t, s, event{step: 1, try: 1, back: back, good: true}, s, false)
		}
	}
}

// P15.3

func TestCancel(t *testing.T) {
	for _, c := range []struct{ s, want saga.Saga }{
		{at("uup.", api.Running, 1, 1, ""), at("uup.", api.Undoing, 1, 1, "x")},
		{at("uup.", api.Running, 1, 1, "x"), at("uup.", api.Undoing, 1, 1, "x")},
		{at("uup.", api.Running, 2, 1, "x"), at("uup.", api.Undoing, 2, 1, "xx")},
		{at("uup.", api.Running, 2, 2, "xx"), at("uup.", api.Undoing, 2, 1, "xx")},
		{at("uuu", api.Running, 3, 3, "xx"), at("uuu", api.Undoing, 3, 1, "xxx")},
		{at("u", api.Running, 1, 1, ""), at("u", api.Undoing, 1, 1, "x")},
		{at("uuuuuuuu", api.Running, 8, 2, "xxxxxxx"), at("uuuuuuuu", api.Undoing, 8, 1, "xxxxxxxx")},
		{at("uuuuuuup", api.Running, 7, 1, "xxxxxx"), at("uuuuuuup", api.Undoing, 7, 1, "xxxxxxx")},
		{at("uup.", api.Undoing, 2, 2, "xx"), at("uup.", api.Undoing, 2, 2, "xx")}, // it is on its way
		{at("uup.", api.Undoing, 1, 1, "x"), at("uup.", api.Undoing, 1, 1, "x")},
		{at("uuu", api.Undoing, 3, 3, "xxx"), at("uuu", api.Undoing, 3, 3, "xxx")},
	} {
		cancelled(t, c.s, c.want, api.OK)
	}
}

func TestCancelTooLate(t *testing.T) {
	for _, s := range []saga.Saga{
		at("uup.", api.Done, 0, 0, "xxxx"), at("uup.", api.Aborted, 0, 0, ""), at("uup.", api.Stuck, 4, 0, "xxx"), at("uup.", api.Stuck, 2, 0, "xx"), at("uup.", api.Stuck, 1, 0, ""), at("uuu", api.Done, 0, 0, "xxx"),
		at("uup.", api.Running, 3, 1, "xx"), at("uup.", api.Running, 3, 3, "xx"), at("uup.", api.Running, 3, 2, "xxx"), at("p", api.Running, 1, 1, ""), at("p", api.Running, 1, 1, "x"), at("uuuuuuup", api.Running, 8, 1, "xxxxxxx"),
		at("uup.", api.Running, 4, 1, "xxx"), at("uup.", api.Running, 4, 1, "xxxx"), at("p.", api.Running, 2, 2, "x"),
	} {
		goodIs(t, s, true)
		cancelled(t, s, saga.Saga{}, api.ErrLate)
	}
}

// Same

func TestSame(t *testing.T) {
	for _, s := range append(notGood(), at("uup.", api.Running, 2, 1, "x"), at("uup.", api.Done, 0, 0, "xxxx")) {
		other := s
		other.Def.Steps = slices.Clone(s.Def.Steps)
		same(t, s, other, true)
		for _, change := range []func(*saga.Saga){
			func(s *saga.Saga) { s.State++ }, func(s *saga.Saga) { s.Step += far }, func(s *saga.Saga) { s.Try-- }, func(s *saga.Saga) { s.Hit[0] = !s.Hit[0] }, func(s *saga.Saga) { s.Hit[maxSteps-1] = !s.Hit[maxSteps-1] },
			func(s *saga.Saga) { s.Def.Name += "a" }, func(s *saga.Saga) { s.Def.Steps = append(s.Def.Steps, api.Step{}) },
		} {
			other := s
			other.Def.Steps = slices.Clone(s.Def.Steps)
			change(&other)
			same(t, s, other, false)
		}
		for i := range s.Def.Steps {
			for _, change := range []func(*api.Step){
				func(s *api.Step) { s.Name += "a" }, func(s *api.Step) { s.Stub++ }, func(s *api.Step) { s.Retry++ }, func(s *api.Step) { s.Wait++ }, func(s *api.Step) { s.Undo = !s.Undo }, func(s *api.Step) { s.Pivot = !s.Pivot },
			} {
				other.Def.Steps = slices.Clone(s.Def.Steps)
				change(&other.Def.Steps[i])
				same(t, s, other, false)
			}
		}
	}
}

func same(t *testing.T, a, b saga.Saga, want bool) {
	t.Helper()
	if saga.Same(a, b) != want || saga.Same(b, a) != want {
		t.Errorf("%s, %s: Same is %v, and %v", tell(a), tell(b), saga.Same(a, b), saga.Same(b, a))
	}
}
