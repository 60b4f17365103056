package clock_test

import (
	"math"
	"slices"
	"testing"

	"drover/api"
	"drover/clock"
)

// The rules that hold everywhere, P1 and the bound, for this package. (R5 stands behind P5.2, where the chapter names it too.)

func names() []int {
	return []int{0, 1, 2, 3, 4, -1, -2, 10, 100, 101, 100000, 1 << 31, 1<<31 - 1, -1 << 31, 1 << 32, 1<<32 + 1, -1 << 32, math.MaxInt, math.MaxInt - 1, math.MinInt, math.MinInt + 1}
}

// R1, P1

func TestEveryCallEnds(t *testing.T) {
	var zero clock.Clock
	made := clock.New()
	other := *made
	for _, c := range []*clock.Clock{nil, &zero, new(clock.Clock), made, &other, clock.New()} {
		for range 3 {
			for _, name := range names() {
				for _, after := range names() {
					c.Set(name, after)
				}
				c.Left(name)
				c.Tick()
				c.Set(name, 2)
				c.Stop(name)
				c.Stop(name)
				c.Set(name, 7)
				c.Names()
				c.Now()
			}
		}
	}
}

func TestAClockThatIsCopiedIsAtOneWithTheOther(t *testing.T) {
	c := clock.New()
	set(t, c, 1, 3)
	d := *c
	for name := 2; name < 50; name++ {
		set(t, c, name, 2*name)
		set(t, &d, name+1, name)
	}
	for name := 2; name < 60; name++ {
		if a, b := c.Left(name), d.Left(name); a != b {
			t.Errorf("Left(%d): %d and %d", name, a, b)
		}
		c.Stop(name)
		if d.Stop(name) {
			t.Errorf("timer %d runs, and was stopped", name)
		}
	}
	c.Tick()
	d.Tick()
	if c.Now() != 2 || d.Now() != 2 {
		t.Errorf("Now: %d and %d", c.Now(), d.Now())
	}
	over(t, c, 1)
}

// R2, R7

func TestTheFirstErrorIsTold(t *testing.T) {
	var zero clock.Clock
	for _, c := range []struct {
		c           *clock.Clock
		name, after int
		want        api.Errno
	}{
		{nil, 1, 1, api.ErrMade}, {nil, 1, 0, api.ErrMade}, {&zero, 1, longest + 1, api.ErrMade}, {&zero, 1, 1, api.ErrMade},
		{full(t), 101, 0, api.ErrRange}, {full(t), 101, -1, api.ErrRange}, {full(t), 0, longest + 1, api.ErrRange}, {full(t), 1, 0, api.ErrRange},
		{full(t), 101, 1, api.ErrFull}, {full(t), 0, longest, api.ErrFull},
		{full(t), 1, 1, api.OK}, {full(t), 100, longest, api.OK},
	} {
		if err := c.c.Set(c.name, c.after); err != c.want {
			t.Errorf("Set(%d, %d): %v, want %v", c.name, c.after, err, c.want)
		}
	}
}

func TestAnErrorChangesNothing(t *testing.T) {
	c, s := full(t), &slow{left: map[int]int{}}
	for name := 1; name <= most; name++ {
		s.set(name, name)
	}
	for n := range 60 {
		for _, after := range []int{0, -1, longest + 1, math.MaxInt, math.MinInt} {
			for _, name := range []int{0, 1, n, n + 1, n + 2, most, most + 1} { // some of which run
				if err := c.Set(name, after); err != api.ErrRange {
					t.Fatalf("Set(%d, %d): %v", name, after, err)
				}
			}
		}
		if err := c.Set(1000+n, 1); err != api.ErrFull {
			t.Fatalf("Set(%d, 1): %v", 1000+n, err)
		}
		alike(t, c, s)
		tellsAll(t, c, s, 1)
		set(t, c, n+1, 500) // so that there are a hundred again
		s.set(n+1, 500)
	}
}

// R3

// scribble writes over all of l, the room behind its end too.
func scribble(l []int) {
	l = l[:cap(l)]
	for i := range l {
		l[i] = 777
	}
}

func TestAnswersAreNewMemory(t *testing.T) {
	c := full(t)
	for range 3 {
		a, b := c.Names(), c.Names()
		scribble(a)
		if len(b) != most || b[0] != 1 || !slices.IsSorted(b) {
			t.Fatalf("two answers of Names share memory: %v", b)
		}
		scribble(b)
	}
	kept := c.Names()
	for name := 1; name <= most; name++ {
		set(t, c, name, 1+name%2)
	}
	one := c.Tick()
	was := slices.Clone(one)
	for i := range 50 { // in place of those that were told
		set(t, c, 1000+i, 1)
	}
	two := c.Tick()
	if !slices.Equal(one, was) || len(two) != most || two[0] != 1 || two[most-1] != 1049 {
		t.Fatalf("ticks ended %v and %v", one, two)
	}
	scribble(one)
	if two[0] != 1 || two[most-1] != 1049 || len(kept) != most || kept[0] != 1 || kept[most-1] != most {
		t.Fatalf("what was told became %v and %v", two, kept)
	}
	scribble(two)
	run(t, c)
	over(t, c)
}

func TestAClockLooksNotAtWhatItTold(t *testing.T) {
	c, s := clock.New(), &slow{left: map[int]int{}}
	for i := range 500 {
		name := i * 37 % 140
		c.Set(name, 1+i%9)
		s.set(name, 1+i%9)
		scribble(c.Names())
		if i%5 == 0 {
			got, want := c.Tick(), s.tick()
			if !slices.Equal(got, want) {
				t.Fatalf("tick %d ends %v, want %v", s.now, got, want)
			}
			scribble(got)
		}
		alike(t, c, s)
	}
}

// R4

func TestClocksKnowNothingOfEachOther(t *testing.T) {
	a, b, c := clock.New(), clock.New(), clock.New()
	for i := range 2000 {
		name, after := i*31%140, 1+i*17%40
		x := a.Set(name, after)
		c.Set(name, 1)
		c.Stop(name + 1)
		c.Tick()
		clock.New().Set(name, 9)
		if y := b.Set(name, after); x != y {
			t.Fatalf("Set(%d, %d): %v and %v", name, after, x, y)
		}
		if i%3 != 0 {
			continue
		}
		if x, y := a.Tick(), b.Tick(); !slices.Equal(x, y) || a.Now() != b.Now() || a.Now() != i/3+1 {
			t.Fatalf("ticks %d and %d end %v and %v", a.Now(), b.Now(), x, y)
		}
		if x, y := a.Names(), b.Names(); !slices.Equal(x, y) {
			t.Fatalf("Names: %v and %v", x, y)
		}
	}
}

// R6

func TestNamesAtTheEndsOfInts(t *testing.T) {
	low, high := math.MinInt, math.MaxInt
	c := clock.New()
	for _, name := range []int{high, 0, low, 1, -1, high - 1, low + 1} {
		set(t, c, name, 2)
	}
	run(t, c, low, low+1, -1, 0, 1, high-1, high)
	left(t, c, low, 2)
	left(t, c, high, 2)
	if !c.Stop(0) || c.Stop(2) {
		t.Error("Stop of another name")
	}
	set(t, c, high, 1)
	over(t, c, high)
	over(t, c, low, low+1, -1, 1, high-1)
}

// The bound

func TestMuchIsTaken(t *testing.T) {
	const many = 1 << 21
	c := clock.New()
	starts, ends := 0, 0
	for n := range many {
		name := n % 150
		ran := c.Left(name) > 0
		switch err := c.Set(name, 1+n*7919%longest); {
		case err == api.OK && !ran:
			starts++
		case err != api.OK && (err != api.ErrFull || ran || starts-ends != most):
			t.Fatalf("Set behind %d ticks: %v", n, err)
		}
		ends += len(c.Tick())
	}
	if c.Now() != many || ends == 0 || ends != starts-len(c.Names()) {
		t.Errorf("behind %d ticks Now is %d; %d began, %d were over, %d run", many, c.Now(), starts, ends, len(c.Names()))
	}
	for _, name := range c.Names() {
		c.Stop(name)
	}
	set(t, c, 5, longest)
	ticks(t, c, longest-1)
	over(t, c, 5)
}
