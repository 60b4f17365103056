package clock

import (
	"slices"
	"testing"

	"drover/api"
)

// sound: is the heap in order, and are its timers those of the map?
func sound(t *testing.T, c *Clock) {
	t.Helper()
	if len(c.order) != len(c.timers) {
		t.Fatalf("the heap has %d timers, the map %d", len(c.order), len(c.timers))
	}
	for i, x := range c.order {
		if c.timers[x.name] != x {
			t.Fatalf("timer %d is %v in the heap, %v in the map", x.name, x, c.timers[x.name])
		}
		if i > 0 && before(x, c.order[above(i)]) {
			t.Fatalf("timer %v stands below %v", x, c.order[above(i)])
		}
	}
}

// The language's rule 8: no more is kept than runs, however often a timer is set or stopped.
func TestNoMoreIsKeptThanRuns(t *testing.T) {
	c := New()
	for i := range 20000 {
		if err := c.Set(i%3, 1+i%maxAfter); err != api.OK {
			t.Fatal(err)
		}
		if i%7 == 0 {
			c.Stop(i % 5)
		}
		if i%11 == 0 {
			c.Tick()
		}
		sound(t, c)
	}
	if len(c.order) > 3 || cap(c.order) > 2*maxTimers {
		t.Errorf("%d are kept, in room for %d", len(c.order), cap(c.order))
	}
}

func TestRemoveKeepsTheHeapInOrder(t *testing.T) {
	for long := 1; long <= 40; long++ {
		for i := range long {
			c := New()
			for name := range long {
				c.Set(name, 1+name*17%23)
			}
			sound(t, c)
			c.Stop(c.order[i].name)
			sound(t, c)
		}
	}
}

func TestRemoveOfWhatIsNotThere(t *testing.T) {
	h := heap{{1, 1}, {2, 2}, {3, 3}}
	for _, x := range []timer{{}, {1, 2}, {2, 1}, {4, 4}} {
		h.remove(x)
	}
	if !slices.Equal(h, heap{{1, 1}, {2, 2}, {3, 3}}) {
		t.Errorf("the heap became %v", h)
	}
	var none heap
	none.remove(timer{})
	if len(none) != 0 {
		t.Errorf("an empty heap became %v", none)
	}
}
