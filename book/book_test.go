package book_test

import (
	"math"
	"slices"
	"strconv"
	"strings"
	"testing"

	"drover/api"
	"drover/book"
	"drover/saga"
)

// The signatures that the chapter lists.
var (
	_ func(most int) *book.Book                             = book.New
	_ func(*book.Book, api.Op) api.Reply                    = (*book.Book).Apply
	_ func(b *book.Book, id int) (saga.Saga, bool)          = (*book.Book).Saga
	_ func(*book.Book) []int                                = (*book.Book).Ids
	_ func(b *book.Book, state int) int                     = (*book.Book).Count
	_ func(b *book.Book, id int) api.Reply                  = (*book.Book).Status
	_ func(*book.Book) *book.Book                           = (*book.Book).Copy
	_ func(b, c *book.Book) bool                            = (*book.Book).Same
	_ func(b *book.Book, id int, s saga.Saga) (e api.Errno) = (*book.Book).Set
)

// The limits, by their numbers.
const (
	maxSagas = 32
	maxId    = 1 << 40
)

const (
	low  = math.MinInt
	high = math.MaxInt
	far  = 1 << 32 // what is as much above another number is alike in its low half
)

func states() []int { return []int{api.Running, api.Undoing, api.Done, api.Aborted, api.Stuck} }

// pay: a definition of two steps: the first one, tried twice, may be undone; the second one is the pivot.
func pay() api.Def {
	return api.Def{Name: "pay", Steps: []api.Step{{Name: "hold", Stub: 1, Retry: 1, Wait: 5, Undo: true}, {Name: "ship", Stub: 2, Wait: 7, Pivot: true}}}
}

// Operations.

func startOf(d api.Def) api.Op { return api.Op{Kind: api.OpStart, Def: d} }
func start() api.Op            { return startOf(pay()) }
func cancel(id int) api.Op     { return api.Op{Kind: api.OpCancel, Saga: id} }
func status(id int) api.Op     { return api.Op{Kind: api.OpStatus, Saga: id} }

func report(id, step, try int, back, good bool) api.Op {
	return api.Op{Kind: api.OpReport, Saga: id, Step: step, Try: try, Back: back, Good: good}
}

func lapse(id, step, try int, back bool) api.Op {
	return api.Op{Kind: api.OpLapse, Saga: id, Step: step, Try: try, Back: back}
}

func none(err api.Errno) api.Reply            { return api.Reply{Err: err} }
func told(id, state, step int) api.Reply      { return api.Reply{Saga: id, State: state, Step: step} }
func done(id int) api.Reply                   { return told(id, api.Done, 0) }
func aborted(id int) api.Reply                { return told(id, api.Aborted, 0) }
func stuck(id, step int) api.Reply            { return told(id, api.Stuck, step) }
func running(id, step int) api.Reply          { return told(id, api.Running, step) }
func undoing(id, step int) api.Reply          { return told(id, api.Undoing, step) }
func one(state, step, try, hit int) saga.Saga { return oneOf(pay(), state, step, try, hit) }

// oneOf: a saga of d, of which the first so many steps are hit.
func oneOf(d api.Def, state, step, try, hit int) saga.Saga {
	s := saga.Saga{Def: d, State: state, Step: step, Try: try}
	for i := range hit {
		s.Hit[i] = true
	}
	return s
}

// inState: a saga of pay in that state.
func inState(state int) saga.Saga {
	switch state {
	case api.Running:
		return one(state, 1, 1, 0)
	case api.Undoing:
		return one(state, 1, 2, 1)
	case api.Done:
		return one(state, 0, 0, 2)
	case api.Aborted:
		return one(state, 0, 0, 0)
	}
	return one(state, 2, 0, 2)
}

func underWay(state int) bool { return state == api.Running || state == api.Undoing }

func tell(s saga.Saga) string {
	l := []string{"saga", s.Def.Name, "of", strconv.Itoa(len(s.Def.Steps)), "steps, state", strconv.Itoa(s.State), "step", strconv.Itoa(s.Step), "try", strconv.Itoa(s.Try), "hit"}
	for _, h := range s.Hit {
		l = append(l, strconv.FormatBool(h))
	}
	return strings.Join(l, " ")
}

// alike is plain: it asks no call of the program's.
func alike(a, b saga.Saga) bool {
	return a.Def.Name == b.Def.Name && slices.Equal(a.Def.Steps, b.Def.Steps) && a.State == b.State && a.Step == b.Step && a.Try == b.Try && a.Hit == b.Hit
}

func made(t *testing.T, most int) *book.Book {
	t.Helper()
	b := book.New(most)
	if b == nil {
		t.Fatalf("New(%d): nil", most)
	}
	return b
}

func applies(t *testing.T, b *book.Book, o api.Op, want api.Reply) {
	t.Helper()
	if got := b.Apply(o); got != want {
		t.Fatalf("Apply(%+v): %+v, want %+v", o, got, want)
	}
}

func sets(t *testing.T, b *book.Book, id int, s saga.Saga, want api.Errno) {
	t.Helper()
	if got := b.Set(id, s); got != want {
		t.Fatalf("Set(%d, %s): %v, want %v", id, tell(s), got, want)
	}
}

func same(t *testing.T, b, c *book.Book, want bool) {
	t.Helper()
	if b.Same(c) != want || c.Same(b) != want {
		t.Errorf("Same: %v and %v, want %v", b.Same(c), c.Same(b), want)
	}
}

// aborts cancels a saga at its first step, and undoes that.
func aborts(t *testing.T, b *book.Book, id int) {
	t.Helper()
	applies(t, b, cancel(id), undoing(id, 1))
	applies(t, b, report(id, 1, 1, true, true), aborted(id))
}

// hasNo: is there no saga of that number?
func hasNo(t *testing.T, b *book.Book, id int) {
	t.Helper()
	if s, ok := b.Saga(id); ok || !alike(s, saga.Saga{}) || len(s.Def.Steps) > 0 {
		t.Errorf("Saga(%d): %s, %v", id, tell(s), ok)
	}
	if got := b.Status(id); got != none(api.ErrNone) {
		t.Errorf("Status(%d): %+v", id, got)
	}
}

// holds: are those the sagas of b, by all that it tells?
func holds(t *testing.T, b *book.Book, want map[int]saga.Saga) {
	t.Helper()
	var ids []int
	count := map[int]int{}
	for id, s := range want {
		ids = append(ids, id)
		count[s.State]++
		if got, ok := b.Saga(id); !ok || !alike(got, s) {
			t.Errorf("Saga(%d): %s, %v, want %s", id, tell(got), ok, tell(s))
		}
		if got := b.Status(id); got != told(id, s.State, s.Step) {
			t.Errorf("Status(%d): %+v", id, got)
		}
	}
	slices.Sort(ids)
	if got := b.Ids(); !slices.Equal(got, ids) {
		t.Errorf("Ids: %v, want %v", got, ids)
	}
	for state := -1; state <= 7; state++ {
		if got := b.Count(state); got != count[state] {
			t.Errorf("Count(%d): %d, want %d", state, got, count[state])
		}
	}
}

// filled: a Book of sagas 1 and on, in those states.
func filled(t *testing.T, most int, states ...int) *book.Book {
	t.Helper()
	b := made(t, most)
	for i, state := range states {
		sets(t, b, i+1, inState(state), api.OK)
	}
	return b
}

// all: what such a Book holds.
func all(states ...int) map[int]saga.Saga {
	m := map[int]saga.Saga{}
	for i, state := range states {
		m[i+1] = inState(state)
	}
	return m
}

func TestTheChaptersExample(t *testing.T) {
	b := made(t, 4)
	applies(t, b, start(), running(1, 1))
	applies(t, b, cancel(2), none(api.ErrNone))
}

// P16.1

func TestNewTakesAsManyAsMayBe(t *testing.T) {
	for _, most := range []int{0, 1, 2, 31, maxSagas} {
		holds(t, made(t, most), nil)
	}
	for _, most := range []int{-1, maxSagas + 1, maxSagas + 2, 64, low, high, far, far + 1, -far} {
		if book.New(most) != nil {
			t.Errorf("New(%d) is a Book", most)
		}
	}
}

func TestMostAreUnderWayAtOnce(t *testing.T) {
	for most := range maxSagas + 1 {
		b := made(t, most)
		for id := 1; id <= most; id++ {
			applies(t, b, start(), running(id, 1))
		}
		applies(t, b, start(), none(api.ErrFull))
		if n := len(b.Ids()); n != most {
			t.Errorf("of at most %d there are %d", most, n)
		}
	}
}

func TestSagaStatusIdsAndCount(t *testing.T) {
	b := made(t, 5)
	holds(t, b, nil)
	want := map[int]saga.Saga{}
	for i, state := range []int{api.Stuck, api.Running, api.Aborted, api.Undoing, api.Done, api.Running, api.Stuck, api.Stuck} {
		id := 100 - 7*i
		sets(t, b, id, inState(state), api.OK)
		want[id] = inState(state)
		holds(t, b, want)
		for _, other := range []int{id - 1, id + 1, -id, 0, low, high, id + far} {
			hasNo(t, b, other)
		}
	}
	if n := b.Count(api.Stuck); n != 3 {
		t.Errorf("Count(Stuck): %d", n)
	}
	for _, state := range []int{low, high, far + api.Stuck, -api.Stuck, 256 + api.Stuck} {
		if n := b.Count(state); n != 0 {
			t.Errorf("Count(%d): %d", state, n)
		}
	}
}

func TestCopyIsAnotherOne(t *testing.T) {
	b := filled(t, 3, api.Running, api.Done, api.Undoing)
	c := b.Copy()
	if b == c {
		t.Fatal("Copy is the Book itself")
	}
	same(t, b, c, true)
	holds(t, c, all(api.Running, api.Done, api.Undoing))
	applies(t, c, start(), running(4, 1)) // as many at once, and as many numbers were used
	applies(t, c, start(), none(api.ErrFull))
	same(t, b, c, false)
	holds(t, b, all(api.Running, api.Done, api.Undoing))
	applies(t, b, report(3, 1, 2, true, true), aborted(3))
	holds(t, b, all(api.Running, api.Done, api.Aborted))
	if s, _ := c.Saga(3); !alike(s, inState(api.Undoing)) {
		t.Errorf("what was done to a Book was done to its Copy: %s", tell(s))
	}
}

func TestSameLooksAtMostSagasAndTheNextNumber(t *testing.T) {
	base := func() *book.Book { return filled(t, 3, api.Running, api.Done) }
	same(t, base(), base(), true)
	b := base()
	same(t, b, b, true)
	same(t, base(), filled(t, 4, api.Running, api.Done), false)
	same(t, made(t, 0), made(t, 0), true)
	same(t, made(t, 0), made(t, 1), false)
	for name, change := range map[string]func(b *book.Book){
		"another saga":        func(b *book.Book) { b.Set(1, one(api.Running, 1, 2, 0)) },
		"another state":       func(b *book.Book) { b.Apply(cancel(1)) },
		"a saga more":         func(b *book.Book) { b.Apply(start()) },
		"a saga more, set":    func(b *book.Book) { b.Set(3, inState(api.Done)) },
		"another hit":         func(b *book.Book) { b.Set(1, one(api.Running, 1, 1, 1)) },
		"another name":        func(b *book.Book) { s := inState(api.Done); s.Def.Name = "other"; b.Set(2, s) },
		"a step's other wait": func(b *book.Book) { s := inState(api.Done); s.Def.Steps[1].Wait++; b.Set(2, s) },
	} {
		b := base()
		change(b)
		if b.Same(base()) || base().Same(b) {
			t.Errorf("Books are the Same in spite of %s", name)
		}
	}
	other := made(t, 3)
	sets(t, other, 1, inState(api.Running), api.OK)
	sets(t, other, 3, inState(api.Done), api.OK) // the same sagas, but of other numbers
	same(t, base(), other, false)
}

// The last number that was used is always there, as a start forgets another one: so Books of the same sagas go on with the same number, whatever they forgot.
func TestSameLooksAtNothingThatWasForgotten(t *testing.T) {
	of := func(first int) *book.Book {
		b := made(t, 1)
		sets(t, b, first, inState(api.Aborted), api.OK)
		for id := 9; id < 9+maxSagas-1; id++ {
			sets(t, b, id, inState(api.Done), api.OK)
		}
		return b
	}
	a, b := of(3), of(5)
	same(t, a, b, false)
	applies(t, a, start(), running(9+maxSagas-1, 1))
	applies(t, b, start(), running(9+maxSagas-1, 1))
	hasNo(t, a, 3)
	hasNo(t, b, 5)
	same(t, a, b, true)
}

func TestABookThatNoCallMade(t *testing.T) {
	var zero book.Book
	for _, b := range []*book.Book{nil, &zero, new(book.Book), (&zero).Copy()} {
		for kind := -1; kind <= 7; kind++ {
			applies(t, b, api.Op{Kind: kind, Saga: 1, Step: 1, Try: 1, Def: pay()}, none(api.ErrMade))
			applies(t, b, api.Op{Kind: kind}, none(api.ErrMade))
		}
		for _, id := range []int{1, 0, -1, low, high} {
			sets(t, b, id, inState(api.Running), api.ErrMade)
			sets(t, b, id, saga.Saga{}, api.ErrMade)
			if s, ok := b.Saga(id); ok || !alike(s, saga.Saga{}) {
				t.Errorf("Saga(%d): %s, %v", id, tell(s), ok)
			}
			if got := b.Status(id); got != none(api.ErrMade) {
				t.Errorf("Status(%d): %+v", id, got)
			}
			if b.Count(id) != 0 {
				t.Errorf("Count(%d): %d", id, b.Count(id))
			}
		}
		if len(b.Ids()) != 0 {
			t.Errorf("Ids: %v", b.Ids())
		}
		if b.Copy() != b {
			t.Error("Copy is another one")
		}
		same(t, b, made(t, 0), false)
	}
	same(t, nil, nil, true)
	same(t, nil, (*book.Book)(nil).Copy(), true)
	same(t, nil, book.New(-1), true)
	same(t, &zero, nil, false)
	same(t, &zero, &zero, false)
	same(t, &zero, new(book.Book), false)
}

// P16.2

func TestStart(t *testing.T) {
	b := made(t, 2)
	applies(t, b, start(), running(1, 1))
	holds(t, b, map[int]saga.Saga{1: inState(api.Running)})
	other := api.Def{Name: "other", Steps: []api.Step{{Name: "x", Stub: 4, Wait: 99, Undo: true}}}
	applies(t, b, startOf(other), running(2, 1))
	holds(t, b, map[int]saga.Saga{1: inState(api.Running), 2: oneOf(other, api.Running, 1, 1, 0)})
	applies(t, b, start(), none(api.ErrFull))
	aborts(t, b, 2)
	applies(t, b, start(), running(3, 1)) // a number is used once
	holds(t, b, map[int]saga.Saga{1: inState(api.Running), 2: oneOf(other, api.Aborted, 0, 0, 0), 3: inState(api.Running)})
}

func TestStartTellsTheErrorOfBegin(t *testing.T) {
	noStep, noPivot, twoPivots := pay(), pay(), pay()
	noStep.Steps, noPivot.Steps[1].Pivot, twoPivots.Steps[0] = nil, false, twoPivots.Steps[1]
	twice, farStub := pay(), pay()
	twice.Steps[1].Name, farStub.Steps[0].Stub = "hold", 5
	long := pay()
	long.Steps[1].Name = strings.Repeat("s", 17)
	seen := map[api.Errno]bool{}
	for _, d := range []api.Def{{}, noStep, noPivot, twoPivots, twice, farStub, long} {
		_, err := saga.Begin(d)
		if err == api.OK {
			t.Fatalf("%+v may be", d)
		}
		seen[err] = true
		b := filled(t, 2, api.Running)
		applies(t, b, startOf(d), none(err))
		applies(t, made(t, 0), startOf(d), none(err)) // ahead of ErrFull
		holds(t, b, all(api.Running))
		applies(t, b, start(), running(2, 1)) // no number was used
	}
	if len(seen) < 3 {
		t.Errorf("but the errors %v", seen)
	}
}

func TestAStartIsRefusedByThoseUnderWayAlone(t *testing.T) {
	for _, first := range states() {
		for _, second := range states() {
			n := map[bool]int{true: 1}[underWay(first)] + map[bool]int{true: 1}[underWay(second)]
			b := filled(t, n, first, second)
			applies(t, b, start(), none(api.ErrFull))
			holds(t, b, all(first, second))
			b = filled(t, n+1, first, second)
			applies(t, b, start(), running(3, 1))
			applies(t, b, start(), none(api.ErrFull))
		}
	}
}

func TestTheEndedOneOfTheLeastNumberIsForgotten(t *testing.T) {
	for _, state := range []int{api.Done, api.Aborted, api.Stuck} {
		l := slices.Repeat([]int{api.Running}, maxSagas)
		l[7], l[20], l[4] = state, api.Done, api.Undoing
		b := filled(t, maxSagas, l...)
		applies(t, b, start(), running(maxSagas+1, 1))
		want := all(l...)
		delete(want, 8)
		want[maxSagas+1] = inState(api.Running)
		holds(t, b, want)
		hasNo(t, b, 8)
		for _, o := range []api.Op{cancel(8), status(8), report(8, 1, 1, false, true), lapse(8, 1, 1, false)} {
			applies(t, b, o, none(api.ErrNone))
		}
		applies(t, b, start(), running(maxSagas+2, 1))
		hasNo(t, b, 21)
		applies(t, b, start(), none(api.ErrFull))
		if n := len(b.Ids()); n != maxSagas {
			t.Errorf("there are %d", n)
		}
	}
}

func TestNothingIsForgottenWhileThereIsRoom(t *testing.T) {
	b := made(t, 1)
	for id := 1; id <= maxSagas; id++ {
		applies(t, b, start(), running(id, 1))
		aborts(t, b, id)
		if n := len(b.Ids()); n != id {
			t.Errorf("there are %d, want %d", n, id)
		}
	}
	for id := maxSagas + 1; id <= 3*maxSagas; id++ {
		applies(t, b, start(), running(id, 1))
		if ids := b.Ids(); len(ids) != maxSagas || ids[0] != id-maxSagas+1 || ids[maxSagas-1] != id {
			t.Errorf("behind %d there are %v", id, ids)
		}
		applies(t, b, start(), none(api.ErrFull)) // which forgets nothing
		applies(t, b, startOf(api.Def{}), none(api.ErrArg))
		if n := len(b.Ids()); n != maxSagas {
			t.Errorf("there are %d", n)
		}
		applies(t, b, report(id, 1, 1, false, true), running(id, 2))
		applies(t, b, report(id, 2, 1, false, true), done(id))
	}
}

func TestCancel(t *testing.T) {
	b := made(t, 4)
	for id := 1; id <= 3; id++ {
		applies(t, b, start(), running(id, 1))
	}
	applies(t, b, lapse(1, 1, 1, false), running(1, 1))
	applies(t, b, cancel(1), undoing(1, 1)) // it may have run
	applies(t, b, cancel(1), undoing(1, 1))
	applies(t, b, report(2, 1, 1, false, true), running(2, 2))
	applies(t, b, cancel(2), none(api.ErrLate)) // it is at the pivot
	applies(t, b, status(2), running(2, 2))
	applies(t, b, report(2, 2, 1, false, true), done(2))
	applies(t, b, cancel(2), none(api.ErrLate))
	applies(t, b, status(2), done(2))
	for _, id := range []int{0, 4, -1, low, high, 1 + far} {
		applies(t, b, cancel(id), none(api.ErrNone))
	}
	applies(t, b, status(3), running(3, 1))
	for _, state := range states() {
		want := map[int]api.Reply{api.Running: undoing(1, 1), api.Undoing: undoing(1, 1)}
		reply, ok := want[state]
		if !ok {
			reply = none(api.ErrLate)
		}
		b := filled(t, 1, state)
		applies(t, b, cancel(1), reply)
	}
}

func TestStatus(t *testing.T) {
	b := filled(t, 2, states()...)
	for i, want := range []api.Reply{running(1, 1), undoing(2, 1), done(3), aborted(4), stuck(5, 2)} {
		applies(t, b, status(i+1), want)
		if got := b.Status(i + 1); got != want {
			t.Errorf("Status(%d): %+v, want %+v", i+1, got, want)
		}
	}
	for _, id := range []int{0, 6, -1, low, high, 1 + far} {
		applies(t, b, status(id), none(api.ErrNone))
	}
	holds(t, b, all(states()...))
}

func TestReportAndLapse(t *testing.T) {
	b := made(t, 8)
	for id := 1; id <= 6; id++ {
		applies(t, b, start(), running(id, 1))
	}
	applies(t, b, report(1, 1, 1, false, true), running(1, 2))
	applies(t, b, report(1, 2, 1, false, true), done(1))
	applies(t, b, report(2, 1, 1, false, false), running(2, 1))
	applies(t, b, report(2, 1, 1, false, false), none(api.ErrLate)) // that was its first try
	applies(t, b, report(2, 1, 2, false, false), aborted(2))
	applies(t, b, lapse(3, 1, 1, false), running(3, 1))
	applies(t, b, lapse(3, 1, 1, false), none(api.ErrLate))
	applies(t, b, lapse(3, 1, 2, false), undoing(3, 1))
	applies(t, b, report(3, 1, 1, false, true), none(api.ErrLate)) // it is wanted back
	applies(t, b, report(3, 1, 1, true, false), undoing(3, 1))
	applies(t, b, lapse(3, 1, 2, true), stuck(3, 1))
	applies(t, b, report(4, 1, 1, false, true), running(4, 2))
	applies(t, b, lapse(4, 2, 1, false), stuck(4, 2))
	applies(t, b, report(5, 1, 1, false, true), running(5, 2))
	applies(t, b, report(5, 2, 1, false, false), undoing(5, 1))
	applies(t, b, report(5, 1, 1, true, true), aborted(5))
	for id, want := range map[int]api.Reply{1: done(1), 2: aborted(2), 3: stuck(3, 1), 4: stuck(4, 2), 5: aborted(5), 6: running(6, 1)} {
		applies(t, b, status(id), want)
	}
	for _, id := range []int{0, 7, -1, low, high, 6 + far} {
		applies(t, b, report(id, 1, 1, false, true), none(api.ErrNone))
		applies(t, b, lapse(id, 1, 1, false), none(api.ErrNone))
	}
	for _, n := range []int{0, 2, 3, -1, low, high, 1 + far} {
		for _, o := range []api.Op{report(6, n, 1, false, true), report(6, 1, n, false, true), report(6, n, n, true, true), lapse(6, n, 1, false), lapse(6, 1, n, false), lapse(6, n, n, true)} {
			applies(t, b, o, none(api.ErrLate))
		}
	}
	applies(t, b, status(6), running(6, 1))
}

func TestOpNoneAndOtherKinds(t *testing.T) {
	b := filled(t, 2, api.Running, api.Done)
	for _, o := range []api.Op{{}, {Saga: 1, Step: 1, Try: 1, Good: true, Def: pay()}, {Client: 3, Request: 7, Saga: 9}} {
		applies(t, b, o, none(api.OK))
		for _, kind := range []int{-1, 6, 7, 8, 256, low, high, far, far + 1, -api.OpStart} {
			o.Kind = kind
			applies(t, b, o, none(api.ErrArg))
		}
	}
	holds(t, b, all(api.Running, api.Done))
}

// What a Kind does not name is not looked at.
func TestFieldsThatAKindDoesNotName(t *testing.T) {
	noise := api.Op{Client: 3, Request: -7, Saga: 77, Step: -3, Try: 12, Back: true, Good: true}
	b := made(t, 3)
	noise.Kind, noise.Def = api.OpStart, pay()
	applies(t, b, noise, running(1, 1))
	applies(t, b, noise, running(2, 1))
	applies(t, b, noise, running(3, 1))
	noise.Saga, noise.Def = 1, api.Def{Name: "?"}
	noise.Kind = api.OpStatus
	applies(t, b, noise, running(1, 1))
	noise.Kind = api.OpCancel
	applies(t, b, noise, undoing(1, 1))
	noise.Saga = 2
	noise.Kind, noise.Step, noise.Try, noise.Back = api.OpLapse, 1, 1, false
	applies(t, b, noise, running(2, 1)) // a Good one would be at step 2
	noise.Kind, noise.Try = api.OpReport, 2
	applies(t, b, noise, running(2, 2))
	applies(t, b, status(3), running(3, 1))
}

// P16.3

func TestSet(t *testing.T) {
	b := made(t, 5)
	for i, state := range states() {
		sets(t, b, i+1, inState(state), api.OK)
	}
	holds(t, b, all(states()...))
	sets(t, b, 2, inState(api.Done), api.OK)
	want := all(states()...)
	want[2] = inState(api.Done)
	holds(t, b, want)
	sets(t, b, 9, inState(api.Running), api.OK)
	applies(t, b, start(), running(10, 1)) // 9 was the last number that was used
	sets(t, b, 6, inState(api.Running), api.OK)
	applies(t, b, start(), running(11, 1)) // as it still is
	sets(t, b, maxId, inState(api.Stuck), api.OK)
	aborts(t, b, 10)
	applies(t, b, start(), running(maxId+1, 1))
	applies(t, b, cancel(maxId+1), undoing(maxId+1, 1))
	applies(t, b, status(maxId), stuck(maxId, 2))
}

func TestSetRefusesNumbersAndSagasThatMayNotBe(t *testing.T) {
	b := filled(t, 5, states()...)
	bad := inState(api.Running)
	bad.Try = 3
	noPivot := inState(api.Done)
	noPivot.Def.Steps[1].Pivot = false
	for _, state := range states() {
		for _, id := range []int{0, -1, -2, -far, low, low + 1, maxId + 1, maxId + 2, high, high - 1} {
			sets(t, b, id, inState(state), api.ErrArg)
		}
	}
	for _, id := range []int{1, 3, 6, maxId} {
		for _, s := range []saga.Saga{{}, bad, noPivot, {Def: pay(), State: 9}, {Def: pay(), State: api.Done}} {
			sets(t, b, id, s, api.ErrArg)
		}
	}
	holds(t, b, all(states()...))
	applies(t, b, start(), running(6, 1)) // no number was used
}

func TestSetRefusesWhatThereIsNoRoomFor(t *testing.T) {
	b := filled(t, maxSagas, slices.Repeat([]int{api.Done}, maxSagas)...)
	for _, state := range states() {
		for _, id := range []int{maxSagas + 1, 100, maxId} {
			sets(t, b, id, inState(state), api.ErrFull) // no other one is forgotten
		}
	}
	holds(t, b, all(slices.Repeat([]int{api.Done}, maxSagas)...))
	for i := range maxSagas { // in the place of another one there is room
		sets(t, b, i+1, inState(states()[i%5]), api.OK)
	}
	applies(t, b, start(), running(maxSagas+1, 1)) // no number was used
}

func TestSetKeepsToMost(t *testing.T) {
	for _, first := range states() {
		for _, second := range states() {
			for most := range 3 {
				n := map[bool]int{true: 1}[underWay(first)] + map[bool]int{true: 1}[underWay(second)]
				if n > most {
					continue
				}
				for _, state := range states() {
					for id := 1; id <= 3; id++ {
						others := n
						if id <= 2 && underWay([]int{first, second}[id-1]) {
							others--
						}
						want, holding := api.OK, all(first, second)
						if underWay(state) && others >= most {
							want = api.ErrFull
						} else {
							holding[id] = inState(state)
						}
						b := filled(t, most, first, second)
						sets(t, b, id, inState(state), want)
						holds(t, b, holding)
					}
				}
			}
		}
	}
}

// The greatest number that was used is the last one, not the one that was Set last.
func TestTheNextNumberBehindSet(t *testing.T) {
	b := made(t, maxSagas)
	for _, c := range []struct{ id, next int }{{7, 8}, {3, 9}, {10, 11}, {11, 12}, {13, 14}, {20, 21}, {1, 22}} {
		sets(t, b, c.id, inState(api.Done), api.OK)
		applies(t, b, start(), running(c.next, 1))
	}
	sets(t, b, maxId, inState(api.Done), api.OK)
	applies(t, b, start(), running(maxId+1, 1))
	applies(t, b, start(), running(maxId+2, 1))
	sets(t, b, maxId+1, inState(api.Done), api.ErrArg) // though there is one
	applies(t, b, status(maxId+1), running(maxId+1, 1))
}

// A number that was forgotten may be Set again.
func TestSetOfANumberThatWasForgotten(t *testing.T) {
	b := filled(t, 1, append([]int{api.Stuck}, slices.Repeat([]int{api.Done}, maxSagas-1)...)...)
	applies(t, b, start(), running(maxSagas+1, 1))
	hasNo(t, b, 1)
	sets(t, b, 1, inState(api.Done), api.ErrFull)
	sets(t, b, maxSagas+1, inState(api.Aborted), api.OK)
	sets(t, b, 1, inState(api.Done), api.ErrFull)
	c := made(t, 1)
	sets(t, c, 5, inState(api.Done), api.OK)
	sets(t, c, 2, inState(api.Running), api.OK)
	applies(t, c, status(2), running(2, 1))
	aborts(t, c, 2)
	applies(t, c, start(), running(6, 1))
}

// P16.4

// course: operations of all kinds, some of which are refused, that fill a Book and make it forget. Its sagas end in all ways.
func course() []api.Op {
	var l []api.Op
	for id := 1; id <= 3*maxSagas; id++ {
		l = append(l, start(), startOf(api.Def{}), status(id-5), cancel(id+1), api.Op{}, api.Op{Kind: 9}, report(id, 1, 2, false, true))
		switch id % 4 {
		case 0:
			l = append(l, report(id, 1, 1, false, true), report(id, 2, 1, false, true), cancel(id))
		case 1:
			l = append(l, report(id, 1, 1, false, true), lapse(id, 2, 1, false), lapse(id, 2, 1, false))
		case 2:
			l = append(l, lapse(id, 1, 1, false), cancel(id), report(id-4, 1, 1, true, true))
		case 3:
			l = append(l, report(id-4, 1, 1, false, false), report(id-4, 1, 2, false, false))
		}
	}
	return l
}

func TestTheSameOperationsMakeTheSameBooks(t *testing.T) {
	for _, most := range []int{0, 1, 3, 8, maxSagas} {
		a, b := made(t, most), made(t, most)
		for i, o := range course() {
			before := b.Copy()
			x, y := a.Apply(o), b.Apply(o)
			if x != y || !a.Same(b) || !b.Same(a) {
				t.Fatalf("operation %d: %+v and %+v", i, x, y)
			}
			switch changes := !b.Same(before); {
			case x.Err != api.OK && (changes || x != none(x.Err)):
				t.Fatalf("operation %d was refused: %+v, and changed the Book: %v", i, x, changes)
			case x.Err == api.OK && o.Kind != api.OpNone && b.Status(x.Saga) != x:
				t.Fatalf("operation %d: %+v, but the Status is %+v", i, x, b.Status(x.Saga))
			case changes && (o.Kind == api.OpNone || o.Kind == api.OpStatus):
				t.Fatalf("operation %d, which only asks, changed the Book", i)
			}
		}
		if most > 3 && (len(a.Ids()) != maxSagas || a.Count(api.Done) == 0 || a.Count(api.Aborted) == 0 || a.Count(api.Stuck) == 0) {
			t.Errorf("of at most %d: %d, %d, %d, %d", most, len(a.Ids()), a.Count(api.Done), a.Count(api.Aborted), a.Count(api.Stuck))
		}
	}
}
