package book_test

import (
	"slices"
	"strings"
	"testing"

	"drover/api"
	"drover/book"
	"drover/saga"
)

// The rules that hold everywhere, P1 and the bound, for this package. (R5 stands behind P16.1, where the chapter names it too.)

// R1, P1

func TestEveryCallEnds(t *testing.T) {
	numbers := []int{0, 1, 2, 3, 5, 6, 8, -1, maxSagas, maxSagas + 1, maxId, maxId + 1, far + 1, -far, high - 1, high, low, low + 1}
	defs := []api.Def{{}, pay(), {Name: "a", Steps: []api.Step{}}, {Name: "\xff\x00", Steps: make([]api.Step, 9)}, {Name: strings.Repeat("n", 1000), Steps: pay().Steps}}
	var zero book.Book
	for _, n := range numbers {
		book.New(n)
	}
	other := *filled(t, 3, states()...)
	for _, b := range []*book.Book{nil, &zero, new(book.Book), made(t, 0), made(t, maxSagas), filled(t, 3, states()...), &other, (&zero).Copy(), other.Copy()} {
		for _, a := range numbers {
			for _, c := range numbers {
				for i, d := range defs {
					b.Apply(api.Op{Kind: a, Client: c, Request: c, Def: d, Saga: c, Step: a, Try: a, Back: i%2 > 0, Good: i%3 > 0})
					b.Apply(api.Op{Kind: i, Saga: a, Step: c, Try: c, Def: d})
					b.Set(a, saga.Saga{Def: d, State: c, Step: c, Try: c, Hit: inState(api.Done).Hit})
					b.Set(a, saga.Saga{Def: d, State: c})
				}
			}
			b.Saga(a)
			b.Count(a)
			b.Status(a)
		}
		b.Ids()
		b.Copy().Apply(start())
		for _, c := range []*book.Book{nil, &zero, b, made(t, 3)} {
			b.Same(c)
			c.Same(b)
		}
	}
}

// R2, R7

func TestTheFirstThingThatIsWrongCounts(t *testing.T) {
	var zero book.Book
	full := filled(t, 0, slices.Repeat([]int{api.Done}, maxSagas)...)
	late := filled(t, 1, api.Done)
	bad := api.Def{Name: "a"}
	_, begin := saga.Begin(bad)
	for _, c := range []struct {
		name string
		got  api.Errno
		want api.Errno
	}{
		{"a start of a bad one, not made", zero.Apply(startOf(bad)).Err, api.ErrMade},
		{"another Kind, not made", zero.Apply(api.Op{Kind: 9}).Err, api.ErrMade},
		{"no Kind, not made", zero.Apply(api.Op{}).Err, api.ErrMade},
		{"a start of a bad one, full", full.Apply(startOf(bad)).Err, begin},
		{"a start, full", full.Apply(start()).Err, api.ErrFull},
		{"a cancel of none", late.Apply(cancel(2)).Err, api.ErrNone},
		{"a cancel, late", late.Apply(cancel(1)).Err, api.ErrLate},
		{"a report of none", late.Apply(report(2, -1, -1, true, true)).Err, api.ErrNone},
		{"a report, late", late.Apply(report(1, 2, 1, false, true)).Err, api.ErrLate},
		{"a lapse of none", late.Apply(lapse(2, -1, -1, true)).Err, api.ErrNone},
		{"a lapse, late", late.Apply(lapse(1, 2, 1, false)).Err, api.ErrLate},
		{"another Kind of none", late.Apply(api.Op{Kind: 9, Saga: 2}).Err, api.ErrArg},
		{"Status of none, not made", zero.Status(1).Err, api.ErrMade},
		{"Set of a number that may not be, not made", zero.Set(0, saga.Saga{}), api.ErrMade},
		{"Set of a number that may not be, full", full.Set(0, inState(api.Running)), api.ErrArg},
		{"Set of a saga that may not be, full", full.Set(99, saga.Saga{State: api.Running}), api.ErrArg},
		{"Set, full", full.Set(99, inState(api.Running)), api.ErrFull},
	} {
		if c.got != c.want {
			t.Errorf("%s: %v, want %v", c.name, c.got, c.want)
		}
	}
}

func TestAnErrorChangesNothing(t *testing.T) {
	b := filled(t, 2, states()...)
	was := b.Copy()
	_, begin := saga.Begin(api.Def{})
	for _, o := range []api.Op{start(), startOf(api.Def{}), cancel(3), cancel(4), cancel(5), cancel(6), status(6), report(1, 1, 2, false, true), report(2, 1, 2, false, true), report(3, 2, 1, false, true), report(6, 1, 1, false, true), lapse(1, 2, 1, false), lapse(5, 2, 1, false), lapse(6, 1, 1, false), {Kind: 6}, {Kind: -1}} {
		got := b.Apply(o)
		if got != none(got.Err) || !slices.Contains([]api.Errno{begin, api.ErrFull, api.ErrLate, api.ErrNone, api.ErrArg}, got.Err) {
			t.Fatalf("Apply(%+v): %+v", o, got)
		}
		same(t, b, was, true)
	}
	for _, c := range []struct {
		id int
		s  saga.Saga
	}{{0, inState(api.Done)}, {maxId + 1, inState(api.Done)}, {9, saga.Saga{}}, {9, inState(api.Running)}, {3, inState(api.Undoing)}} {
		if b.Set(c.id, c.s) == api.OK {
			t.Fatalf("Set(%d, %s): %v", c.id, tell(c.s), api.OK)
		}
		same(t, b, was, true)
	}
	holds(t, b, all(states()...))
	applies(t, b, report(1, 1, 1, false, true), running(1, 2))
	applies(t, b, report(1, 2, 1, false, true), done(1))
	applies(t, b, start(), running(6, 1)) // no number was used
}

// R3

const room = 3

// roomy: pay, with filled room behind its steps; and that list, room and all.
func roomy() (api.Def, []api.Step) {
	d := pay()
	l := slices.Clone(d.Steps)
	for range room {
		l = append(l, api.Step{Name: "room", Stub: -7})
	}
	d.Steps = l[:2]
	return d, l
}

func scribble(l []api.Step) {
	l = l[:cap(l)]
	for i := range l {
		l[i] = api.Step{Name: "scribbled", Stub: -8, Undo: true, Pivot: true}
	}
}

// takers: calls that hand a Book of none what makes a saga 1 of that definition.
func takers() map[string]func(b *book.Book, d api.Def) {
	return map[string]func(b *book.Book, d api.Def){
		"Apply": func(b *book.Book, d api.Def) { b.Apply(startOf(d)) },
		"Set":   func(b *book.Book, d api.Def) { b.Set(1, oneOf(d, api.Running, 1, 1, 0)) },
	}
}

func TestNothingThatIsHandedInIsChangedOrKept(t *testing.T) {
	for name, take := range takers() {
		d, l := roomy()
		_, want := roomy()
		b := made(t, 1)
		take(b, d)
		for _, o := range []api.Op{report(1, 1, 1, false, false), lapse(1, 1, 2, false), report(1, 1, 1, true, true)} {
			if got := b.Apply(o); got.Err != api.OK {
				t.Fatalf("%s: %+v", name, got)
			}
			if s, _ := b.Saga(1); !slices.Equal(s.Def.Steps, pay().Steps) || !slices.Equal(l, want) {
				t.Errorf("behind %s: %v, handed in: %v", name, s.Def.Steps, l)
			}
		}
		b = made(t, 1)
		take(b, d)
		c := b.Copy()
		scribble(l)
		holds(t, b, map[int]saga.Saga{1: inState(api.Running)})
		holds(t, c, map[int]saga.Saga{1: inState(api.Running)})
	}
}

func TestNothingThatIsToldIsKept(t *testing.T) {
	b := filled(t, 2, states()...)
	c := b.Copy()
	for id := 1; id <= 5; id++ {
		before, _ := b.Saga(id)
		s, _ := b.Saga(id)
		of, _ := c.Saga(id)
		l := append(s.Def.Steps[:cap(s.Def.Steps)], api.Step{})
		scribble(s.Def.Steps)
		scribble(l)
		if !alike(before, inState(states()[id-1])) || !alike(of, before) {
			t.Errorf("saga %d was told twice as the same memory", id)
		}
		holds(t, b, all(states()...))
		holds(t, c, all(states()...))
	}
	ids := b.Ids()
	again := b.Ids()
	ids = ids[:cap(ids)]
	for i := range ids {
		ids[i] = 77
	}
	if !slices.Equal(again, []int{1, 2, 3, 4, 5}) {
		t.Errorf("Ids were told twice as the same memory: %v", again)
	}
	holds(t, b, all(states()...))
}

func TestWhatWasToldLasts(t *testing.T) {
	b := filled(t, 1, api.Running)
	s, _ := b.Saga(1)
	ids, c := b.Ids(), b.Copy()
	for id := 1; id <= 2*maxSagas; id++ {
		b.Apply(report(id, 1, 1, false, true))
		b.Apply(report(id, 2, 1, false, true))
		b.Apply(start())
	}
	hasNo(t, b, 1)
	if !alike(s, inState(api.Running)) || !slices.Equal(ids, []int{1}) {
		t.Errorf("what was told became %s, %v", tell(s), ids)
	}
	holds(t, c, all(api.Running))
}

// A saga that a Book told may be Set in another one, and in the same one.
func TestABookTakesWhatItTold(t *testing.T) {
	b, c := filled(t, 2, states()...), made(t, 2)
	for _, id := range b.Ids() {
		s, _ := b.Saga(id)
		sets(t, b, id, s, api.OK)
		sets(t, c, id, s, api.OK)
		scribble(s.Def.Steps)
	}
	same(t, b, c, true)
	holds(t, b, all(states()...))
	holds(t, c, all(states()...))
}

func TestSpareRoomIsNotLookedAt(t *testing.T) {
	b, c := made(t, 1), made(t, 1)
	d, _ := roomy()
	applies(t, b, startOf(d), running(1, 1))
	applies(t, c, start(), running(1, 1))
	same(t, b, c, true)
	none := d
	none.Steps = d.Steps[:0]
	_, err := saga.Begin(none)
	applies(t, b, startOf(none), api.Reply{Err: err})
	sets(t, b, 1, oneOf(none, api.Running, 1, 1, 0), api.ErrArg)
	sets(t, b, 1, oneOf(d, api.Done, 0, 0, 2), api.OK)
	holds(t, b, map[int]saga.Saga{1: inState(api.Done)})
}

// R4

func TestAnswersAreTheSameAgain(t *testing.T) {
	for range 50 { // a map's order is another one each time
		b := made(t, 3)
		for _, id := range []int{9, 4, 30, 2, 7, 8, 100, 50, 61, 23} {
			sets(t, b, id, inState(states()[2+id%3]), api.OK)
		}
		if got := b.Ids(); !slices.Equal(got, []int{2, 4, 7, 8, 9, 23, 30, 50, 61, 100}) {
			t.Fatalf("Ids: %v", got)
		}
		for id := 101; len(b.Ids()) < maxSagas; id++ {
			sets(t, b, id, inState(api.Done), api.OK)
		}
		for _, gone := range []int{2, 4, 7} {
			b.Apply(start())
			hasNo(t, b, gone)
		}
		if got := b.Ids(); len(got) != maxSagas || got[0] != 8 || got[1] != 9 || got[2] != 23 {
			t.Fatalf("Ids: %v", got)
		}
	}
}

func TestBooksKnowNothingOfEachOther(t *testing.T) {
	a, b, c := made(t, 3), made(t, 3), made(t, 9)
	for i, o := range course() {
		x, y := a.Apply(o), b.Apply(o)
		if x != y || !a.Same(b) {
			t.Fatalf("operation %d: %+v and %+v", i, x, y)
		}
		c.Apply(start())
		c.Apply(o)
		c.Set(i+5, inState(api.Stuck))
		made(t, 3).Apply(o)
	}
}

// R6

func TestNumbersDoNotWrap(t *testing.T) {
	b := made(t, 2)
	sets(t, b, maxId, inState(api.Running), api.OK)
	applies(t, b, start(), running(maxId+1, 1))
	for _, id := range []int{low, low + 1, high, high - 1, maxId + far, maxId - far, far, maxId + 2} {
		hasNo(t, b, id)
		for _, o := range []api.Op{cancel(id), status(id), report(id, 1, 1, false, true), lapse(id, 1, 1, false)} {
			applies(t, b, o, none(api.ErrNone))
		}
	}
	if got := b.Ids(); !slices.Equal(got, []int{maxId, maxId + 1}) {
		t.Errorf("Ids: %v", got)
	}
}

// The bound, and the language's rule 8

func TestMuchIsTaken(t *testing.T) {
	const many = 30000
	b := made(t, 2)
	for id := 1; id <= many; id++ {
		applies(t, b, start(), running(id, 1))
		applies(t, b, report(id, 1, 1, false, true), running(id, 2))
		applies(t, b, lapse(id, 2, 1, false), stuck(id, 2))
		if n := len(b.Ids()); n != min(id, maxSagas) {
			t.Fatalf("behind %d there are %d", id, n)
		}
	}
	applies(t, b, status(many-maxSagas+1), stuck(many-maxSagas+1, 2))
	applies(t, b, status(many-maxSagas), none(api.ErrNone))
	great := api.Def{Name: "a", Steps: make([]api.Step, 1<<20)}
	_, err := saga.Begin(great)
	applies(t, b, startOf(great), none(err))
	sets(t, b, 1, oneOf(great, api.Running, 1, 1, 0), api.ErrArg)
	long := api.Def{Name: strings.Repeat("n", 1<<24), Steps: pay().Steps}
	_, err = saga.Begin(long)
	applies(t, b, startOf(long), none(err))
}
