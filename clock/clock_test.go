package clock_test

import (
	"maps"
	"math"
	"math/rand/v2"
	"slices"
	"testing"

	"drover/api"
	"drover/clock"
)

// The signatures that the chapter lists.
var (
	_ func() *clock.Clock                    = clock.New
	_ func(*clock.Clock) int                 = (*clock.Clock).Now
	_ func(*clock.Clock, int, int) api.Errno = (*clock.Clock).Set
	_ func(*clock.Clock, int) bool           = (*clock.Clock).Stop
	_ func(*clock.Clock, int) int            = (*clock.Clock).Left
	_ func(*clock.Clock) []int               = (*clock.Clock).Tick
	_ func(*clock.Clock) []int               = (*clock.Clock).Names
)

const (
	most    = 100
	longest = 100000
)

func set(t *testing.T, c *clock.Clock, name, after int) {
	t.Helper()
	if err := c.Set(name, after); err != api.OK {
		t.Fatalf("Set(%d, %d): %v", name, after, err)
	}
}

// ticks: so many ticks, each of which is to end no timer.
func ticks(t *testing.T, c *clock.Clock, n int) {
	t.Helper()
	for range n {
		if l := c.Tick(); len(l) != 0 {
			t.Fatalf("tick %d ends %v", c.Now(), l)
		}
	}
}

func over(t *testing.T, c *clock.Clock, want ...int) {
	t.Helper()
	if got := c.Tick(); !slices.Equal(got, want) {
		t.Errorf("tick %d ends %v, want %v", c.Now(), got, want)
	}
}

func run(t *testing.T, c *clock.Clock, want ...int) {
	t.Helper()
	if got := c.Names(); !slices.Equal(got, want) {
		t.Errorf("Names: %v, want %v", got, want)
	}
}

func left(t *testing.T, c *clock.Clock, name, want int) {
	t.Helper()
	if got := c.Left(name); got != want {
		t.Errorf("at %d Left(%d): %d, want %d", c.Now(), name, got, want)
	}
}

// full: a Clock whose timers 1 to 100 run, each of them for so many ticks as its name.
func full(t *testing.T) *clock.Clock {
	t.Helper()
	c := clock.New()
	for name := 1; name <= most; name++ {
		set(t, c, name, name)
	}
	return c
}

// slow is what the chapter says, without a heap: by names, how many ticks are left.
type slow struct {
	now  int
	left map[int]int
}

func (s *slow) names() []int { return slices.Sorted(maps.Keys(s.left)) }

func (s *slow) set(name, after int) api.Errno {
	_, runs := s.left[name]
	switch {
	case after < 1 || after > longest:
		return api.ErrRange
	case !runs && len(s.left) == most:
		return api.ErrFull
	}
	s.left[name] = after
	return api.OK
}

func (s *slow) stop(name int) bool {
	_, runs := s.left[name]
	delete(s.left, name)
	return runs
}

func (s *slow) tick() []int {
	s.now++
	var l []int
	for _, name := range s.names() {
		s.left[name]--
		if s.left[name] == 0 {
			l = append(l, name)
			delete(s.left, name)
		}
	}
	return l
}

// alike holds all that a Clock tells against what it is to tell.
func alike(t *testing.T, c *clock.Clock, s *slow) {
	t.Helper()
	if c.Now() != s.now {
		t.Fatalf("Now: %d, want %d", c.Now(), s.now)
	}
	if got := c.Names(); !slices.Equal(got, s.names()) {
		t.Fatalf("at %d Names: %v, want %v", s.now, got, s.names())
	}
	for name, n := range s.left {
		if got := c.Left(name); got != n {
			t.Fatalf("at %d Left(%d): %d, want %d", s.now, name, got, n)
		}
	}
}

// P5.1

func TestNew(t *testing.T) {
	c := clock.New()
	if c == nil || c.Now() != 0 {
		t.Fatal("a new Clock is none, or ticked")
	}
	run(t, c)
	for _, name := range names() {
		left(t, c, name, 0)
		if c.Stop(name) {
			t.Errorf("timer %d of a new Clock runs", name)
		}
	}
	over(t, c)
}

func TestNowCountsTicks(t *testing.T) {
	c := clock.New()
	for n := range 1000 {
		if c.Now() != n {
			t.Fatalf("Now behind %d ticks: %d", n, c.Now())
		}
		c.Set(n%7, 1+n%5)
		c.Set(n%7, 0)
		c.Stop(n % 3)
		c.Left(n)
		c.Names()
		if c.Now() != n {
			t.Fatalf("Now behind %d ticks and other calls: %d", n, c.Now())
		}
		c.Tick()
	}
}

func TestTheChaptersExample(t *testing.T) {
	c := clock.New()
	set(t, c, 1, 2)
	set(t, c, 2, 1)
	over(t, c, 2)
	over(t, c, 1)
	over(t, c)
}

func TestSetTakesFromOneToAHundredThousand(t *testing.T) {
	for _, after := range []int{1, 2, 3, 99, 100, 255, 256, 65535, 65536, 99999, 100000} {
		c := clock.New()
		set(t, c, 5, after)
		left(t, c, 5, after)
		run(t, c, 5)
	}
	for _, after := range []int{0, -1, -2, -100000, 100001, 100002, 200000, 1 << 31, 1 << 32, 1<<32 + 1, 1<<32 + 100, math.MaxInt, math.MaxInt - 1, math.MinInt, math.MinInt + 1} {
		c := clock.New()
		if err := c.Set(5, after); err != api.ErrRange {
			t.Errorf("Set(5, %d): %v", after, err)
		}
		run(t, c)
		left(t, c, 5, 0)
	}
}

func TestSetForgetsTheTimeThatItHad(t *testing.T) {
	for _, first := range []int{1, 2, 3, 5, 9, longest} {
		for _, second := range []int{1, 2, 3, 5, 9} {
			for between := range min(first, 6) {
				c := clock.New()
				set(t, c, 7, first)
				ticks(t, c, between)
				set(t, c, 7, second)
				run(t, c, 7)
				left(t, c, 7, second)
				ticks(t, c, second-1)
				over(t, c, 7)
				left(t, c, 7, 0)
				ticks(t, c, 20)
			}
		}
	}
}

func TestAHundredTimersRunAtMost(t *testing.T) {
	c := full(t)
	for _, name := range []int{0, 101, 102, -1, math.MaxInt, math.MinInt} {
		for _, after := range []int{1, 50, longest} {
			if err := c.Set(name, after); err != api.ErrFull {
				t.Errorf("Set(%d, %d) beside 100 others: %v", name, after, err)
			}
		}
		left(t, c, name, 0)
		if c.Stop(name) {
			t.Errorf("timer %d runs", name)
		}
	}
	if l := c.Names(); len(l) != most || l[0] != 1 || l[most-1] != most {
		t.Errorf("Names: %v", l)
	}
}

func TestOfAHundredEachMayBeSetAgain(t *testing.T) {
	c := full(t)
	for name := 1; name <= most; name++ {
		set(t, c, name, 2*name)
		left(t, c, name, 2*name)
		if err := c.Set(0, 1); err != api.ErrFull {
			t.Errorf("Set beside 100 others, %d of them set again: %v", name, err)
		}
	}
	for n := 1; n <= 2*most; n++ {
		if n%2 == 0 {
			over(t, c, n/2)
		} else {
			over(t, c)
		}
	}
}

func TestThereIsRoomBehindStopAndTick(t *testing.T) {
	c := full(t)
	c.Stop(50)
	set(t, c, 1000, 300)
	if err := c.Set(50, 1); err != api.ErrFull {
		t.Errorf("Set of what was stopped, beside 100 others: %v", err)
	}
	over(t, c, 1)
	over(t, c, 2)
	set(t, c, 1, 400)
	set(t, c, 2000, 500)
	if err := c.Set(2, 1); err != api.ErrFull {
		t.Errorf("Set of what was over, beside 100 others: %v", err)
	}
	left(t, c, 1000, 298)
	left(t, c, 1, 400)
	if l := c.Names(); len(l) != most {
		t.Errorf("%d run", len(l))
	}
}

func TestStop(t *testing.T) {
	c := clock.New()
	for _, name := range []int{4, 2, 9} {
		set(t, c, name, 3)
	}
	if !c.Stop(2) || c.Stop(2) || c.Stop(3) || c.Stop(0) || c.Stop(-4) {
		t.Error("Stop tells of another timer whether it ran")
	}
	left(t, c, 2, 0)
	run(t, c, 4, 9)
	ticks(t, c, 2)
	over(t, c, 4, 9)
	if c.Stop(4) || c.Stop(9) {
		t.Error("what was over ran")
	}
	set(t, c, 2, 1)
	if !c.Stop(2) {
		t.Error("what was stopped and set again did not run")
	}
	ticks(t, c, 10)
}

func TestLeftFallsByOneATick(t *testing.T) {
	c := clock.New()
	set(t, c, 1, 5)
	set(t, c, -1, 9)
	for n := range 12 {
		left(t, c, 1, max(0, 5-n))
		left(t, c, -1, max(0, 9-n))
		left(t, c, 2, 0)
		c.Tick()
	}
}

func TestNamesRise(t *testing.T) {
	c := clock.New()
	want := names()
	slices.Sort(want)
	want = slices.Compact(want)
	for i, j := range rand.New(rand.NewPCG(1, 2)).Perm(len(want)) {
		set(t, c, want[j], 1+i%4)
	}
	for range 20 { // a map's order is another each time
		run(t, c, want...)
	}
}

// P5.2

func TestTickTellsByNames(t *testing.T) {
	want := names()
	slices.Sort(want)
	want = slices.Compact(want)
	for seed := range uint64(50) {
		c := clock.New()
		for _, j := range rand.New(rand.NewPCG(seed, 0)).Perm(len(want)) {
			set(t, c, want[j], 3)
		}
		ticks(t, c, 2)
		over(t, c, want...)
		run(t, c)
	}
}

func TestTickEndsAHundred(t *testing.T) {
	for _, step := range []int{1, 3, 7, 33, 99} { // each of them has no factor with 100 in common, but 1
		c := clock.New()
		for i := range most {
			set(t, c, i*step%most, 4)
		}
		ticks(t, c, 3)
		l := c.Tick()
		if len(l) != most || l[0] != 0 || l[most-1] != most-1 || !slices.IsSorted(l) {
			t.Errorf("a tick ends %v", l)
		}
		run(t, c)
		for i := range most {
			set(t, c, i, 1)
		}
	}
}

func TestWhatIsOverRunsNoMore(t *testing.T) {
	c := clock.New()
	set(t, c, 3, 1)
	set(t, c, 1, 2)
	over(t, c, 3)
	run(t, c, 1)
	left(t, c, 3, 0)
	if c.Stop(3) {
		t.Error("what is over runs")
	}
	set(t, c, 3, 1)
	over(t, c, 1, 3)
	run(t, c)
}

func TestTimesThatWereSetAtOtherTicks(t *testing.T) {
	c := clock.New()
	set(t, c, 9, 6)
	ticks(t, c, 2)
	set(t, c, 5, 4)
	ticks(t, c, 1)
	set(t, c, 7, 3)
	set(t, c, 8, 4)
	set(t, c, 1, 2)
	ticks(t, c, 1)
	over(t, c, 1)
	over(t, c, 5, 7, 9)
	over(t, c, 8)
}

// P5.1 and P5.2: of nothing

func TestOfAClockThatNoCallMade(t *testing.T) {
	var zero clock.Clock
	for _, c := range []*clock.Clock{nil, &zero, new(clock.Clock)} {
		for range 3 {
			for _, name := range names() {
				for _, after := range []int{1, 5, longest, 0, -1, longest + 1} {
					if err := c.Set(name, after); err != api.ErrMade {
						t.Errorf("Set(%d, %d): %v", name, after, err)
					}
				}
				if c.Stop(name) || c.Left(name) != 0 {
					t.Errorf("timer %d runs", name)
				}
			}
			if l := c.Tick(); len(l) != 0 {
				t.Errorf("Tick: %v", l)
			}
			if l := c.Names(); len(l) != 0 || c.Now() != 0 {
				t.Errorf("Names: %v, Now: %d", l, c.Now())
			}
		}
	}
}

// P5.3

func TestATimerIsOverOnceAtItsTick(t *testing.T) {
	for _, ahead := range []int{0, 1, 17, 1000} {
		for _, after := range []int{1, 2, 3, 50, 99, 100, 12345, 99999, 100000} {
			c := clock.New()
			ticks(t, c, ahead)
			set(t, c, 42, after)
			ticks(t, c, after-1)
			left(t, c, 42, 1)
			over(t, c, 42)
			if c.Now() != ahead+after {
				t.Errorf("it was over at %d, want %d", c.Now(), ahead+after)
			}
			ticks(t, c, 2*after)
		}
	}
}

// rows goes over all rows of so many numbers from 1 to top.
func rows(long, top int, tell func([]int)) {
	row := make([]int, long)
	var fill func(i int)
	fill = func(i int) {
		if i == long {
			tell(row)
			return
		}
		for row[i] = 1; row[i] <= top; row[i]++ {
			fill(i + 1)
		}
	}
	fill(0)
}

// tellsAll holds what each of the next ticks ends against what it is to end.
func tellsAll(t *testing.T, c *clock.Clock, s *slow, n int) {
	t.Helper()
	for range n {
		got, want := c.Tick(), s.tick()
		if !slices.Equal(got, want) {
			t.Fatalf("tick %d ends %v, want %v", s.now, got, want)
		}
		alike(t, c, s)
	}
}

func TestAllOrdersOfAFewTimers(t *testing.T) {
	for long := range 6 {
		rows(long, 4, func(row []int) {
			c, s := clock.New(), &slow{left: map[int]int{}}
			for name, after := range row {
				set(t, c, name, after)
				s.set(name, after)
			}
			tellsAll(t, c, s, 5)
		})
	}
}

func TestEachOfAFewTimersIsStoppedOrSetAgain(t *testing.T) {
	const long = 9 // so many that what stands last in a heap can belong above where another one was
	by := rand.New(rand.NewPCG(3, 4))
	for range 400 {
		row := by.Perm(long)
		for name := range long {
			for again := range long + 2 {
				c, s := clock.New(), &slow{left: map[int]int{}}
				for i, after := range row {
					set(t, c, i, after+1)
					s.set(i, after+1)
				}
				if again == 0 {
					c.Stop(name)
					s.stop(name)
				} else {
					set(t, c, name, again)
					s.set(name, again)
				}
				tellsAll(t, c, s, long+2)
			}
		}
	}
}

func TestAnyCallsAreAsWithoutAHeap(t *testing.T) {
	for seed := range uint64(60) {
		by := rand.New(rand.NewPCG(seed, 5))
		kinds := []int{3, 10, 90, 130, 400}[seed%5] // of names: below a hundred it is never full
		span := []int{2, 9, 60, 1000}[seed%4]
		c, s := clock.New(), &slow{left: map[int]int{}}
		for range 3000 {
			name := by.IntN(kinds) - kinds/2
			switch n := by.IntN(10); {
			case n < 6:
				after := by.IntN(span+3) - 1
				if got, want := c.Set(name, after), s.set(name, after); got != want {
					t.Fatalf("Set(%d, %d): %v, want %v", name, after, got, want)
				}
			case n < 8:
				if got, want := c.Stop(name), s.stop(name); got != want {
					t.Fatalf("Stop(%d): %v, want %v", name, got, want)
				}
			default:
				tellsAll(t, c, s, 1)
			}
			left(t, c, name, s.left[name])
		}
		alike(t, c, s)
		tellsAll(t, c, s, span+2)
		run(t, c)
	}
}
