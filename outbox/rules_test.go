package outbox_test

import (
	"slices"
	"testing"

	"drover/api"
	"drover/book"
	"drover/outbox"
)

// The rules that hold everywhere, P1 and the bound, for this package. (R5 stands behind P18.3, where the chapter names it too; of R2 there is nothing to say, as no call answers an Errno.)

// filled: a Book of sagas in all states, two of them under way; of the greatest number, too.
func filled(t *testing.T) *book.Book {
	t.Helper()
	k := booked(t, pay(), pay(), pay(), pay(), pay())
	applied(t, k, report(2, 1, 1, false, true), cancelled(t, k, 3))
	applied(t, k, report(4, 1, 1, false, true), report(4, 2, 1, false, true))
	applied(t, k, report(5, 1, 1, false, true), lapse(5, 2, 1, false))
	s, _ := k.Saga(1)
	if err := k.Set(maxId, s); err != api.OK {
		t.Fatalf("Set: %v", err)
	}
	return k
}

// cancelled: what ends that saga of pay, which is cancelled ahead of it.
func cancelled(t *testing.T, k *book.Book, id int) api.Op {
	t.Helper()
	applied(t, k, cancel(id))
	return report(id, 1, 1, true, true)
}

func inFilled() []api.Command { return commands(hold(1), ship(2), hold(maxId)) }

// R1, P1

func TestEveryCallEnds(t *testing.T) {
	numbers := []int{0, 1, 2, 3, 5, 8, -1, maxSagas, maxSagas + 1, maxId, maxId + 1, far + 1, -far, high - 1, high, low, low + 1}
	var zero outbox.Box
	var none book.Book
	boxes := []*outbox.Box{nil, &zero, new(outbox.Box)}
	for _, n := range numbers {
		boxes = append(boxes, outbox.New(n))
	}
	other := *made(t, view)
	for _, b := range append(boxes, &other) {
		for _, k := range []*book.Book{nil, &none, booked(t), filled(t), filled(t), booked(t, lone(1)), nil} {
			b.Sync(k)
			b.Tick(k)
			b.Open()
			b.View()
			for _, n := range numbers {
				for _, m := range numbers {
					c := api.Command{View: n, Stub: m, Saga: n, Step: m, Try: n, Back: n > m}
					b.Result(api.Msg{Kind: n, Command: c, Good: n > m})
					b.Result(result(c, n > m))
					c.View, c.Saga = view, m
					b.Result(result(c, n < m))
					b.Result(api.Msg{Kind: api.MsgResult, From: n, To: m, Command: c, Ops: make([]api.Op, 2), Incs: []int{n, m}})
				}
			}
			b.Tick(k)
		}
	}
}

// R3

// roomy: l, with filled room behind its end.
func roomy[T any](l []T, with T) []T {
	return append(slices.Clone(l), with, with, with)[:len(l)]
}

func scribble[T any](l []T, with T) {
	l = l[:cap(l)]
	for i := range l {
		l[i] = with
	}
}

func TestNothingThatIsHandedInIsChangedOrKept(t *testing.T) {
	k, b := filled(t), made(t, view)
	was := k.Copy()
	syncs(t, b, k, inFilled()...)
	m := result(hold(1), true)
	m.Ops, m.Incs = roomy(ops(cancel(1)), cancel(2)), roomy([]int{1, 2}, 3)
	m.Op.Def.Steps = roomy(pay().Steps, api.Step{Name: "room"})
	b.Result(m)
	if !sameOps(m.Ops[:4], ops(cancel(1), cancel(2), cancel(2), cancel(2))) || !slices.Equal(m.Incs[:5], []int{1, 2, 3, 3, 3}) || !slices.Equal(m.Op.Def.Steps, pay().Steps) || m.Op.Def.Steps[:3][2].Name != "room" {
		t.Errorf("the message became %+v", m)
	}
	b.Tick(k)
	if !k.Same(was) {
		t.Error("the Book became another one")
	}
	for _, id := range k.Ids() { // the Book goes on, and the box is asked about as it was
		applied(t, k, api.Op{Kind: api.OpStart, Def: pay()})
		k.Apply(cancel(id))
	}
	opens(t, b, 1, 2, maxId)
	tells(t, b, result(ship(2), true), report(2, 2, 1, false, true))
	tellsNothing(t, b, result(ask(1, 1, 1, 1, true), true))
}

func TestNothingThatIsToldIsKept(t *testing.T) {
	k, b := filled(t), made(t, view)
	first := b.Sync(k)
	open, again := b.Open(), b.Open()
	scribble(first, going(77))
	scribble(open, 77)
	if !slices.Equal(again, []int{1, 2, maxId}) {
		t.Errorf("Open was told twice as the same memory: %v", again)
	}
	opens(t, b, 1, 2, maxId)
	ticks(t, b, k, nil, nil)
	applied(t, k, api.Op{Kind: api.OpStart, Def: lone(9)})
	c, o := b.Tick(k)
	want := commands(ask(maxId+1, 3, 1, 1, false))
	if lapses := ops(lapse(1, 1, 1, false), lapse(maxId, 1, 1, false)); !slices.Equal(c, want) || !sameOps(o, lapses) {
		t.Fatalf("Tick: %+v, %+v", c, o)
	}
	scribble(c, going(77))
	if !sameOps(o, ops(lapse(1, 1, 1, false), lapse(maxId, 1, 1, false))) {
		t.Error("two lists of one answer share memory")
	}
	scribble(o, cancel(77))
	ticks(t, b, k, nil, ops(lapse(2, 2, 1, false)))
	ticks(t, b, k, inFilled(), nil)
	opens(t, b, 1, 2, maxId, maxId+1)
}

func TestWhatWasToldLasts(t *testing.T) {
	k, b := filled(t), made(t, view)
	asked, open := b.Sync(k), b.Open()
	b.Tick(k)
	later, lapses := b.Tick(k)
	for range 50 {
		for _, c := range b.Sync(k) {
			b.Result(result(c, true))
			k.Apply(report(c.Saga, c.Step, c.Try, c.Back, true))
		}
		b.Tick(k)
		k.Apply(api.Op{Kind: api.OpStart, Def: lone(1)})
	}
	if !slices.Equal(asked, inFilled()) || !slices.Equal(open, []int{1, 2, maxId}) || len(later) > 0 || !sameOps(lapses, ops(lapse(1, 1, 1, false), lapse(maxId, 1, 1, false))) {
		t.Errorf("what was told became %+v, %v, %+v, %+v", asked, open, later, lapses)
	}
}

// R4

func TestAnswersAreTheSameAgain(t *testing.T) {
	of, _ := booked(t, lone(2)).Saga(1)
	for range 50 { // a map's order is another one each time
		k, b := booked(t), made(t, view)
		var want []api.Command
		var lapses []api.Op
		var ids []int
		for i := maxSagas; i > 0; i-- {
			k.Set(100*i, of)
		}
		for i := 1; i <= maxSagas; i++ {
			ids = append(ids, 100*i)
			want = append(want, going(100*i))
			lapses = append(lapses, lapse(100*i, 1, 1, false))
		}
		ticks(t, b, k, want, nil)
		ticks(t, b, k, nil, nil)
		ticks(t, b, k, nil, lapses)
		ticks(t, b, k, nil, nil)
		ticks(t, b, k, want, nil)
		opens(t, b, ids...)
	}
}

func TestBoxesKnowNothingOfEachOther(t *testing.T) {
	k, a, b := filled(t), made(t, view), made(t, view)
	syncs(t, a, k, inFilled()...)
	syncs(t, b, k, inFilled()...)
	tells(t, a, result(hold(1), true), report(1, 1, 1, false, true))
	ticks(t, a, k, nil, nil)
	ticks(t, a, k, nil, ops(lapse(maxId, 1, 1, false)))
	syncs(t, made(t, view), k, inFilled()...)
	tells(t, b, result(hold(1), false), report(1, 1, 1, false, false))
	ticks(t, b, k, nil, nil)
	ticks(t, b, k, nil, ops(lapse(maxId, 1, 1, false)))
	other := made(t, 8)
	tellsNothing(t, other, result(ship(2), true))
	other.Sync(k)
	tellsNothing(t, other, result(ship(2), true)) // it was asked with another view
	tells(t, a, result(ship(2), true), report(2, 2, 1, false, true))
}

// R6

func TestNumbersDoNotWrap(t *testing.T) {
	k := booked(t)
	s, _ := booked(t, lone(99)).Saga(1)
	k.Set(maxId, s)
	b := made(t, high)
	want := api.Command{View: high, Stub: 3, Saga: maxId, Step: 1, Try: 1}
	syncs(t, b, k, want)
	opens(t, b, maxId)
	for _, c := range near(want) {
		tellsNothing(t, b, result(c, true))
	}
	tells(t, b, result(want, true), report(maxId, 1, 1, false, true))
}

// R7

// Beside a false all is zero, and nothing has changed.
func TestWhatIsRefusedChangesNothing(t *testing.T) {
	for _, m := range []api.Msg{{}, {Kind: api.MsgCommand, Command: going(1)}, {Kind: api.MsgResult, Command: going(1), Fenced: true, Good: true}, result(going(2), true), result(hold(1), true), result(api.Command{}, true)} {
		k, b := booked(t, lone(5)), made(t, view)
		tellsNothing(t, b, m)
		syncs(t, b, k, going(1))
		tellsNothing(t, b, m)
		opens(t, b, 1)
		if got := ticking(t, b, k, 8); got != "---al--a" {
			t.Errorf("behind %+v: %s", m, got)
		}
		tellsNothing(t, b, m)
	}
}

// The bound, and the language's rule 8

func TestMuchIsTaken(t *testing.T) {
	k, b := booked(t, lone(99)), made(t, view)
	b.Sync(k)
	for n := 1; n <= 200000; n++ {
		c, o := b.Tick(k)
		if len(c) != 1 && n%again == 0 || len(c) > 0 && n%again > 0 || len(o) > 0 != (n == 99) {
			t.Fatalf("tick %d: %+v, %+v", n, c, o)
		}
	}
	k, b = booked(t), made(t, view)
	for id := 1; id <= 20000; id++ {
		applied(t, k, api.Op{Kind: api.OpStart, Def: pay()})
		if c, _ := b.Tick(k); !slices.Contains(c, hold(id)) {
			t.Fatalf("saga %d: %+v", id, c)
		}
		tells(t, b, result(hold(id), true), report(id, 1, 1, false, true))
		if id > maxSagas/2 {
			gone := id - maxSagas/2
			applied(t, k, report(gone, 1, 1, false, true), lapse(gone, 2, 1, false))
		}
		if n := len(b.Open()); n != min(id, maxSagas/2+1) {
			t.Fatalf("behind %d there are %d places", id, n)
		}
	}
}
