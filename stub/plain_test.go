package stub_test

import (
	"math/rand/v2"
	"slices"
	"testing"

	"drover/api"
	"drover/stub"
)

// What the chapter says, word by word: all in lists, with no map.

type memory struct {
	of   api.Command
	good bool
}

type plain struct {
	id      int
	fence   int
	planned []bool
	known   []memory
	effects []stub.Effect
}

func (p *plain) plan(good []bool) {
	for _, g := range good {
		if len(p.planned) < most {
			p.planned = append(p.planned, g)
		}
	}
}

// ask: the answer; false: none.
func (p *plain) ask(c api.Command) (api.Msg, bool) {
	for _, n := range []int{c.View, c.Stub, c.Saga, c.Step, c.Try} {
		if n < 0 || c.Stub != p.id {
			return api.Msg{}, false
		}
	}
	if c.View < p.fence {
		return result(c, false, true), true
	}
	p.fence = c.View
	for _, m := range p.known {
		of := m.of
		if of.View = c.View; of == c {
			return result(c, m.good, false), true
		}
	}
	if len(p.known) == most {
		return result(c, false, false), true
	}
	good := p.comesOff() && (c.Back || !p.did(c.Saga, c.Step, true))
	p.known = append(p.known, memory{c, good})
	if good && !p.did(c.Saga, c.Step, c.Back) {
		p.effects = append(p.effects, of(c))
	}
	return result(c, good, false), true
}

func (p *plain) comesOff() bool {
	if len(p.planned) == 0 {
		return true
	}
	next := p.planned[0]
	p.planned = slices.Delete(p.planned, 0, 1)
	return next
}

func (p *plain) did(saga, step int, back bool) bool {
	for _, e := range p.effects {
		if e.Saga == saga && e.Step == step && e.Back == back {
			return true
		}
	}
	return false
}

// pair: a stub, and the plain one that it is held against.
type pair struct {
	stub  *stub.Stub
	plain plain
}

func newPair(t *testing.T, id int) *pair {
	t.Helper()
	return &pair{stub: made(t, id), plain: plain{id: id, fence: -1}}
}

func (p *pair) plan(good ...bool) {
	p.plain.plan(good)
	p.stub.Plan(good)
}

func (p *pair) ask(t *testing.T, c api.Command) (api.Msg, bool) {
	t.Helper()
	m, ok := p.plain.ask(c)
	if ok {
		asks(t, p.stub, c, m)
	} else {
		refused(t, p.stub, c)
	}
	return m, ok
}

func (p *pair) asPlain(t *testing.T) {
	t.Helper()
	is(t, p.stub, p.plain.fence, len(p.plain.known), p.plain.effects...)
	for saga := range 3 {
		for step := range 3 {
			did(t, p.stub, saga, step, false, p.plain.did(saga, step, false))
			did(t, p.stub, saga, step, true, p.plain.did(saga, step, true))
		}
	}
}

// P19.3

// inOrder: views that never fall, each step once forward and once back, none forward behind its Back.
func inOrder(t *testing.T, l []stub.Effect) {
	t.Helper()
	for i, e := range l {
		for _, f := range l[:i] {
			once := e.Saga != f.Saga || e.Step != f.Step || e.Back != f.Back && e.Back
			if f.View > e.View || !once {
				t.Fatalf("%+v stands ahead of %+v", f, e)
			}
		}
	}
}

// events: what may happen in a short course.
func (p *pair) events(t *testing.T) []func() {
	return []func(){
		func() { p.plan(false) },
		func() { p.plan(true, false) },
		func() { p.ask(t, forth(0, 1, 1, 1)) },
		func() { p.ask(t, forth(1, 1, 1, 1)) },
		func() { p.ask(t, forth(1, 1, 1, 2)) },
		func() { p.ask(t, forth(2, 1, 2, 1)) },
		func() { p.ask(t, back(1, 1, 1, 1)) },
		func() { p.ask(t, back(2, 1, 1, 2)) },
	}
}

// courses: all lists of so many numbers from 0 to one below of.
func courses(length, of int, each func(course []int)) {
	course := make([]int, length)
	for {
		each(course)
		at := 0
		for at < length && course[at] == of-1 {
			course[at] = 0
			at++
		}
		if at == length {
			return
		}
		course[at]++
	}
}

func TestAllShortCourses(t *testing.T) {
	n := 0
	courses(6, 8, func(course []int) {
		p := newPair(t, id)
		events := p.events(t)
		for _, i := range course {
			events[i]()
		}
		p.asPlain(t)
		inOrder(t, p.stub.Effects())
		n++
	})
	if n != 262144 {
		t.Errorf("%d courses", n)
	}
}

// Longer courses, of fewer events: one step, its tries forth and back, some of which are not good.
func TestAllLongerCourses(t *testing.T) {
	n := 0
	courses(8, 4, func(course []int) {
		p := newPair(t, id)
		for at, i := range course {
			switch i {
			case 0:
				p.plan(false, true)
			case 1:
				p.ask(t, forth(at/3, 1, 1, 1+at))
			case 2:
				p.ask(t, forth(at/2, 1, 1, 1))
			default:
				p.ask(t, back(at/2, 1, 1, at/4))
			}
			p.asPlain(t)
		}
		inOrder(t, p.stub.Effects())
		n++
	})
	if n != 65536 {
		t.Errorf("%d courses", n)
	}
}

// By chance.

// anyCommand: mostly to that stub, of a view near the FENCE, of few sagas and steps, or of more.
func anyCommand(by *rand.Rand, id, fence, wide int) api.Command {
	c := api.Command{View: fence + by.IntN(4) - 2, Stub: id, Saga: by.IntN(wide), Step: by.IntN(wide), Try: by.IntN(wide), Back: by.IntN(3) == 0}
	if by.IntN(30) == 0 {
		c.Stub = by.IntN(6)
	}
	if by.IntN(30) == 0 {
		odd := []int{-1, low, high, far}[by.IntN(4)]
		switch by.IntN(4) {
		case 0:
			c.View = min(odd, 0)
		case 1:
			c.Saga = odd
		case 2:
			c.Step = odd
		default:
			c.Try = odd
		}
	}
	return c
}

func TestAnyCourse(t *testing.T) {
	said := map[string]int{}
	for seed := range uint64(200) {
		by := rand.New(rand.NewPCG(seed, 19))
		id, wide, long := 1+by.IntN(maxStubs), 2+by.IntN(3), 300
		if seed%8 == 0 {
			wide, long = 20, 3000
		}
		p := newPair(t, id)
		for range long {
			if by.IntN(4) == 0 {
				var l []bool
				for range by.IntN(5) {
					l = append(l, by.IntN(3) > 0)
				}
				p.plan(l...)
			}
			m, ok := p.ask(t, anyCommand(by, id, p.plain.fence, wide))
			switch {
			case !ok:
				said["refused"]++
			case m.Fenced:
				said["fenced"]++
			case m.Good:
				said["good"]++
			default:
				said["bad"]++
			}
		}
		p.asPlain(t)
		inOrder(t, p.stub.Effects())
		if len(p.plain.known) == most {
			said["full"]++
		}
	}
	for _, what := range []string{"refused", "fenced", "good", "bad"} {
		if said[what] < 1000 {
			t.Errorf("%d were %s", said[what], what)
		}
	}
	if said["full"] < 3 {
		t.Errorf("%d were full", said["full"])
	}
}
