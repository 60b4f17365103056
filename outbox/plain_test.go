package outbox_test

import (
	"math/rand/v2"
	"slices"
	"testing"

	"drover/api"
	"drover/book"
	"drover/outbox"
)

// What the chapter says, word by word: places in a list, each with the tick in which it was first asked, with no map, and without chapter 15's Wants.

type spot struct {
	wants api.Command
	ticks int
	since int // when it was first asked
	told  bool
}

type plain struct {
	view  int
	now   int
	spots []spot
}

// wantedOf: what the sagas of k want, by sagas, with the box's view.
func (p *plain) wantedOf(k *book.Book) []spot {
	var l []spot
	for _, id := range k.Ids() {
		s, _ := k.Saga(id)
		if s.State != api.Running && s.State != api.Undoing {
			continue
		}
		step := s.Def.Steps[s.Step-1]
		c := api.Command{View: p.view, Stub: step.Stub, Saga: id, Step: s.Step, Try: s.Try, Back: s.State == api.Undoing}
		l = append(l, spot{wants: c, ticks: step.Wait, since: p.now})
	}
	return l
}

func (p *plain) sync(k *book.Book) []api.Command {
	wanted := p.wantedOf(k)
	has := func(l []spot, c api.Command) bool {
		return slices.ContainsFunc(l, func(s spot) bool { return s.wants == c })
	}
	p.spots = slices.DeleteFunc(p.spots, func(s spot) bool { return !has(wanted, s.wants) })
	var asked []api.Command
	for _, w := range wanted {
		if !has(p.spots, w.wants) {
			p.spots = append(p.spots, w)
			asked = append(asked, w.wants)
		}
	}
	slices.SortFunc(p.spots, func(a, b spot) int { return a.wants.Saga - b.wants.Saga })
	return asked
}

func (p *plain) tick(k *book.Book) ([]api.Command, []api.Op) {
	p.now++
	asked := p.sync(k)
	var lapses []api.Op
	for i := range p.spots {
		s := &p.spots[i]
		age := p.now - s.since
		if age > 0 && !s.told && age == s.ticks {
			s.told = true
			lapses = append(lapses, lapse(s.wants.Saga, s.wants.Step, s.wants.Try, s.wants.Back))
		} else if age > 0 && age%4 == 0 {
			asked = append(asked, s.wants)
		}
	}
	return asked, lapses
}

func (p *plain) result(m api.Msg) (api.Op, bool) {
	for i := range p.spots {
		s := &p.spots[i]
		if m.Kind == api.MsgResult && !m.Fenced && s.wants == m.Command && !s.told {
			s.told = true
			return report(s.wants.Saga, s.wants.Step, s.wants.Try, s.wants.Back, m.Good), true
		}
	}
	return api.Op{}, false
}

func (p *plain) open() []int {
	var l []int
	for _, s := range p.spots {
		l = append(l, s.wants.Saga)
	}
	return l
}

// world: a box, the plain one that it is held against, and the Book that both are handed.
type world struct {
	box   *outbox.Box
	plain plain
	book  *book.Book
	empty *book.Book
}

func newWorld(t *testing.T, k *book.Book) *world {
	t.Helper()
	return &world{box: made(t, view), plain: plain{view: view}, book: k, empty: book.New(0)}
}

func (w *world) sync(t *testing.T, k *book.Book) []api.Command {
	t.Helper()
	asked := w.plain.sync(k)
	syncs(t, w.box, k, asked...)
	return asked
}

func (w *world) tick(t *testing.T, k *book.Book) ([]api.Command, []api.Op) {
	t.Helper()
	asked, lapses := w.plain.tick(k)
	ticks(t, w.box, k, asked, lapses)
	return asked, lapses
}

func (w *world) result(t *testing.T, m api.Msg) (api.Op, bool) {
	t.Helper()
	o, ok := w.plain.result(m)
	if ok {
		tells(t, w.box, m, o)
	} else {
		tellsNothing(t, w.box, m)
	}
	return o, ok
}

func (w *world) asPlain(t *testing.T) {
	t.Helper()
	opens(t, w.box, w.plain.open()...)
	if w.box.View() != w.plain.view {
		t.Fatalf("View: %d", w.box.View())
	}
}

// events: what may happen in a short course.
func (w *world) events(t *testing.T) []func() {
	return []func(){
		func() { w.sync(t, w.book) },
		func() { w.tick(t, w.book) },
		func() { w.sync(t, w.empty) },
		func() { w.result(t, result(ask(1, 1, 1, 1, false), true)) },
		func() { w.result(t, result(ask(1, 1, 1, 1, true), false)) },
		func() { w.result(t, result(ask(2, 2, 1, 1, false), false)) },
		func() { w.book.Apply(report(1, 1, 1, false, true)) },
		func() { w.book.Apply(lapse(1, 1, 1, true)) },
		func() { w.book.Apply(report(2, 1, 1, false, false)) },
		func() { w.book.Apply(cancel(1)) },
	}
}

// courses: all lists of so many numbers from 0 to one below of.
func courses(length, of int, each func(course []int)) {
	course := make([]int, length)
	for {
		each(course)
		at := 0
		for at < length && course[at] == of-1 {
			course[at] = 0
			at++
		}
		if at == length {
			return
		}
		course[at]++
	}
}

func TestAllShortCourses(t *testing.T) {
	first := parsed("saga a { step b stub 1 retry 1 wait 2 undo; }")
	second := parsed("saga a { step b stub 2 retry 1 wait 1 pivot; }")
	k := booked(t, first, second)
	n := 0
	courses(5, 10, func(course []int) {
		w := newWorld(t, k.Copy())
		events := w.events(t)
		for _, i := range course {
			events[i]()
			w.asPlain(t)
		}
		n++
	})
	if n != 100000 {
		t.Errorf("%d courses", n)
	}
}

// Longer courses, of fewer events: sagas of 1 to 5 ticks, of which the first one is told, and goes on.
func TestAllLongerCourses(t *testing.T) {
	n := 0
	for wait := 1; wait <= 5; wait++ {
		k := booked(t, lone(wait), lone(4))
		courses(7, 4, func(course []int) {
			w := newWorld(t, k.Copy())
			events := []func(){
				func() { w.tick(t, w.book) },
				func() { w.sync(t, w.book) },
				func() { w.result(t, result(going(1), false)) },
				func() { w.book.Apply(report(1, 1, 1, false, false)) },
			}
			for _, i := range course {
				events[i]()
				w.asPlain(t)
			}
			n++
		})
	}
	if n != 5*16384 {
		t.Errorf("%d courses", n)
	}
}

// By chance.

// anyDef: steps that undo, and a pivot, or none.
func anyDef(by *rand.Rand) api.Def {
	d := api.Def{Name: "any"}
	for i := range 1 + by.IntN(4) {
		wait := 1 + by.IntN(6)
		if by.IntN(10) == 0 {
			wait = 1 + by.IntN(99)
		}
		d.Steps = append(d.Steps, api.Step{Name: string(rune('a' + i)), Stub: 1 + by.IntN(4), Retry: by.IntN(3), Wait: wait, Undo: true})
	}
	if by.IntN(2) == 0 {
		last := &d.Steps[len(d.Steps)-1]
		last.Undo, last.Pivot = false, true
	}
	return d
}

// anyResult: mostly of something that was asked, just as it was.
func anyResult(by *rand.Rand, asked []api.Command) api.Msg {
	m := api.Msg{Kind: api.MsgResult, From: by.IntN(30), To: by.IntN(6), View: by.IntN(9), Good: by.IntN(3) > 0, Fenced: by.IntN(10) == 0}
	if len(asked) > 0 {
		m.Command = asked[len(asked)-1-by.IntN(min(len(asked), 12))]
	}
	if by.IntN(10) == 0 {
		l := near(m.Command)
		m.Command = l[by.IntN(len(l))]
	}
	if by.IntN(20) == 0 {
		m.Kind = by.IntN(16)
	}
	return m
}

// goOn: the Book takes some of what the log was told, or something else.
func (w *world) goOn(t *testing.T, by *rand.Rand, log []api.Op) []api.Op {
	t.Helper()
	switch by.IntN(12) {
	case 0:
		w.book.Apply(api.Op{Kind: api.OpStart, Def: anyDef(by)})
	case 1:
		if l := w.book.Ids(); len(l) > 0 {
			w.book.Apply(cancel(l[by.IntN(len(l))]))
		}
	case 2:
		if l := w.plain.spots; len(l) > 0 {
			c := l[by.IntN(len(l))].wants
			w.book.Apply(lapse(c.Saga, c.Step, c.Try, c.Back))
		}
	case 3, 4, 5:
		for _, o := range log {
			w.book.Apply(o)
		}
		return nil
	}
	return log
}

func TestAnyCourse(t *testing.T) {
	lapsed, reported, again := 0, 0, 0
	for seed := range uint64(300) {
		by := rand.New(rand.NewPCG(seed, 18))
		k := book.New([]int{1, 2, 5, maxSagas}[by.IntN(4)])
		w := newWorld(t, k)
		w.plain.view = []int{0, 1, view, high}[by.IntN(4)]
		w.box = made(t, w.plain.view)
		told, was := map[thing]int{}, map[api.Command]int{}
		var asked []api.Command
		var log []api.Op
		for range 400 {
			var more []api.Command
			switch by.IntN(6) {
			case 0:
				more = w.sync(t, w.book)
			case 1, 2:
				var lapses []api.Op
				more, lapses = w.tick(t, w.book)
				log = append(log, lapses...)
				lapsed += len(lapses)
				for _, o := range lapses {
					told[thingOf(o)]++
				}
			case 3:
				if o, ok := w.result(t, anyResult(by, asked)); ok {
					log = append(log, o)
					reported++
					told[thingOf(o)]++
				}
			default:
				log = w.goOn(t, by, log)
			}
			w.asPlain(t)
			for _, c := range more {
				isWanted(t, w.book, w.box, c)
				was[c]++
				if was[c] == 2 {
					again++
				}
			}
			asked = append(asked, more...)
		}
		for what, n := range told { // P18.4
			if n != 1 {
				t.Errorf("%+v was told %d times", what, n)
			}
		}
	}
	if min(lapsed, reported, again) < 1000 {
		t.Errorf("%d lapsed, %d were reported, %d were asked again", lapsed, reported, again)
	}
}

// By chance, with Books that are not each other's: what a place is goes by its command alone.
func TestAnyBooks(t *testing.T) {
	for seed := range uint64(300) {
		by := rand.New(rand.NewPCG(seed, 81))
		w := newWorld(t, nil)
		books := []*book.Book{nil, booked(t)}
		for range 6 {
			k := booked(t)
			for range 1 + by.IntN(3) {
				applied(t, k, api.Op{Kind: api.OpStart, Def: lone(1 + by.IntN(2))})
			}
			for id := 1; id <= 3; id++ {
				if by.IntN(3) == 0 {
					k.Apply(report(id, 1, 1, false, by.IntN(2) == 0))
				}
			}
			books = append(books, k)
		}
		w.book = books[2]
		for range 60 {
			if by.IntN(5) == 0 {
				w.book = books[by.IntN(len(books))]
			}
			switch by.IntN(4) {
			case 0:
				w.sync(t, w.book)
			case 1, 2:
				w.tick(t, w.book)
			default:
				w.result(t, anyResult(by, commands(going(1), going(2), going(3), ask(1, 3, 1, 2, false))))
			}
			w.asPlain(t)
		}
	}
}
