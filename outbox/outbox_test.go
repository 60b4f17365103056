package outbox_test

import (
	"math"
	"slices"
	"testing"

	"drover/api"
	"drover/book"
	"drover/def"
	"drover/outbox"
	"drover/saga"
)

// The signatures that the chapter lists.
var (
	_ func(view int) *outbox.Box                               = outbox.New
	_ func(b *outbox.Box, k *book.Book) []api.Command          = (*outbox.Box).Sync
	_ func(*outbox.Box, *book.Book) ([]api.Command, []api.Op)  = (*outbox.Box).Tick
	_ func(b *outbox.Box, m api.Msg) (o api.Op, theLogIs bool) = (*outbox.Box).Result
	_ func(*outbox.Box) (view int)                             = (*outbox.Box).View
	_ func(*outbox.Box) (sagas []int)                          = (*outbox.Box).Open
)

// The limits, by their numbers.
const (
	maxSagas = 32
	maxId    = 1 << 40
	again    = 4 // the chapter's: a multiple of 4
)

const (
	low  = math.MinInt
	high = math.MaxInt
	far  = 1 << 32 // what is as much above another number is alike in its low half
)

// Definitions and Books, made anew by each call.

func parsed(text string) api.Def {
	d, _, err := def.Parse(text)
	if err != api.OK {
		panic(text)
	}
	return d
}

// pay: the first step, tried twice, may be undone; the second one is the pivot.
func pay() api.Def {
	return parsed("saga pay { step hold stub 1 retry 1 wait 2 undo; step ship stub 2 wait 3 pivot; }")
}

// lone: a step of so many ticks.
func lone(ticks int) api.Def {
	d := parsed("saga lone { step go stub 3 retry 9 undo; }")
	d.Steps[0].Wait = ticks
	return d
}

// booked: a Book of one saga of each of those, by numbers from 1 on.
func booked(t *testing.T, defs ...api.Def) *book.Book {
	t.Helper()
	k := book.New(maxSagas)
	for _, d := range defs {
		applied(t, k, api.Op{Kind: api.OpStart, Def: d})
	}
	return k
}

func applied(t *testing.T, k *book.Book, ops ...api.Op) {
	t.Helper()
	for _, o := range ops {
		if r := k.Apply(o); r.Err != api.OK {
			t.Fatalf("Apply(%+v): %+v", o, r)
		}
	}
}

func cancel(id int) api.Op { return api.Op{Kind: api.OpCancel, Saga: id} }

func report(id, step, try int, back, good bool) api.Op {
	return api.Op{Kind: api.OpReport, Saga: id, Step: step, Try: try, Back: back, Good: good}
}

func lapse(id, step, try int, back bool) api.Op {
	return api.Op{Kind: api.OpLapse, Saga: id, Step: step, Try: try, Back: back}
}

// Commands of view 7, which is that of the boxes here.

const view = 7

func ask(id, stub, step, try int, back bool) api.Command {
	return api.Command{View: view, Stub: stub, Saga: id, Step: step, Try: try, Back: back}
}

func hold(id int) api.Command  { return ask(id, 1, 1, 1, false) }
func ship(id int) api.Command  { return ask(id, 2, 2, 1, false) }
func going(id int) api.Command { return ask(id, 3, 1, 1, false) }

func result(c api.Command, good bool) api.Msg {
	return api.Msg{Kind: api.MsgResult, Command: c, Good: good}
}

// What the calls are to answer.

func made(t *testing.T, v int) *outbox.Box {
	t.Helper()
	b := outbox.New(v)
	if b == nil {
		t.Fatalf("New(%d): nil", v)
	}
	return b
}

func syncs(t *testing.T, b *outbox.Box, k *book.Book, want ...api.Command) {
	t.Helper()
	if got := b.Sync(k); !slices.Equal(got, want) {
		t.Fatalf("Sync: %+v, want %+v", got, want)
	}
}

func commands(l ...api.Command) []api.Command { return l }
func ops(l ...api.Op) []api.Op                { return l }

func ticks(t *testing.T, b *outbox.Box, k *book.Book, want []api.Command, lapses []api.Op) {
	t.Helper()
	if c, o := b.Tick(k); !slices.Equal(c, want) || !sameOps(o, lapses) {
		t.Fatalf("Tick: %+v, %+v, want %+v, %+v", c, o, want, lapses)
	}
}

// sameOp: what a box tells has no Def.
func sameOp(a, b api.Op) bool {
	empty := len(a.Def.Steps)+len(b.Def.Steps)+len(a.Def.Name)+len(b.Def.Name) == 0
	return empty && a.Kind == b.Kind && a.Client == b.Client && a.Request == b.Request && a.Saga == b.Saga && a.Step == b.Step && a.Try == b.Try && a.Back == b.Back && a.Good == b.Good
}

func sameOps(a, b []api.Op) bool { return slices.EqualFunc(a, b, sameOp) }

func tells(t *testing.T, b *outbox.Box, m api.Msg, want api.Op) {
	t.Helper()
	if o, ok := b.Result(m); !ok || !sameOp(o, want) {
		t.Fatalf("Result(%+v): %+v, %v, want %+v", m, o, ok, want)
	}
}

func tellsNothing(t *testing.T, b *outbox.Box, m api.Msg) {
	t.Helper()
	if o, ok := b.Result(m); ok || !sameOp(o, api.Op{}) {
		t.Fatalf("Result(%+v): %+v, %v, want nothing", m, o, ok)
	}
}

func opens(t *testing.T, b *outbox.Box, want ...int) {
	t.Helper()
	if got := b.Open(); !slices.Equal(got, want) {
		t.Fatalf("Open: %v, want %v", got, want)
	}
}

// The chapter's example.

func TestExample(t *testing.T) {
	k := booked(t, pay())
	b := made(t, view)
	syncs(t, b, k, hold(1))
	ticks(t, b, k, nil, nil)
	ticks(t, b, k, nil, ops(lapse(1, 1, 1, false)))
}

// P18.1

func TestNew(t *testing.T) {
	for _, v := range []int{-1, -2, low, low + 1, -far} {
		if b := outbox.New(v); b != nil {
			t.Errorf("New(%d): one of view %d", v, b.View())
		}
	}
	for _, v := range []int{0, 1, 2, far, high - 1, high} {
		b := made(t, v)
		opens(t, b)
		syncs(t, b, booked(t))
		ticks(t, b, booked(t), nil, nil)
		tellsNothing(t, b, result(api.Command{View: v}, true))
		if b.View() != v {
			t.Errorf("New(%d): of view %d", v, b.View())
		}
		want := hold(1)
		want.View = v
		syncs(t, b, booked(t, pay()), want)
		if b.View() != v {
			t.Errorf("New(%d): of view %d behind Sync", v, b.View())
		}
	}
}

func TestSyncAsksOnce(t *testing.T) {
	k, b := booked(t, pay(), lone(5), pay()), made(t, view)
	syncs(t, b, k, hold(1), going(2), hold(3))
	opens(t, b, 1, 2, 3)
	syncs(t, b, k)
	opens(t, b, 1, 2, 3)
	applied(t, k, api.Op{Kind: api.OpStart, Def: lone(1)})
	opens(t, b, 1, 2, 3) // a box looks at a Book when it is handed one
	syncs(t, b, k, going(4))
	opens(t, b, 1, 2, 3, 4)
	syncs(t, made(t, view), k, hold(1), going(2), hold(3), going(4)) // another box asks anew
}

// Each thing that a saga may want next is another one.
func TestSyncAsksWhatIsWantedElse(t *testing.T) {
	k, b := booked(t, pay(), pay()), made(t, view)
	syncs(t, b, k, hold(1), hold(2))
	for _, c := range []struct {
		op   api.Op
		want []api.Command
		open []int
	}{
		{report(1, 1, 1, false, false), commands(ask(1, 1, 1, 2, false)), []int{1, 2}}, // the next try
		{report(2, 1, 1, false, true), commands(ship(2)), []int{1, 2}},                 // the next step
		{report(2, 2, 1, false, false), commands(ask(2, 1, 1, 1, true)), []int{1, 2}},  // back
		{report(2, 1, 1, true, false), commands(ask(2, 1, 1, 2, true)), []int{1, 2}},   // back, the next try
		{report(2, 1, 2, true, true), nil, []int{1}},                                   // Aborted
		{lapse(1, 1, 2, false), commands(ask(1, 1, 1, 1, true)), []int{1}},             // back, as it may have been done
		{report(1, 1, 1, true, false), commands(ask(1, 1, 1, 2, true)), []int{1}},
		{report(1, 1, 2, true, false), nil, nil}, // Stuck
		{api.Op{Kind: api.OpStart, Def: pay()}, commands(hold(3)), []int{3}},
		{api.Op{Kind: api.OpStatus, Saga: 3}, nil, []int{3}},
		{cancel(3), commands(ask(3, 1, 1, 1, true)), []int{3}},
		{api.Op{Kind: api.OpStart, Def: pay()}, commands(hold(4)), []int{3, 4}},
		{report(4, 1, 1, false, true), commands(ship(4)), []int{3, 4}},
		{report(4, 2, 1, false, true), nil, []int{3}}, // Done
	} {
		applied(t, k, c.op)
		syncs(t, b, k, c.want...)
		opens(t, b, c.open...)
		syncs(t, b, k)
	}
}

// Sagas are told by their numbers, however they came.
func TestSyncGoesBySagas(t *testing.T) {
	k, b := booked(t), made(t, view)
	of, _ := booked(t, lone(9)).Saga(1)
	for _, id := range []int{9, maxId, 4, 30, 2} {
		if err := k.Set(id, of); err != api.OK {
			t.Fatalf("Set(%d): %v", id, err)
		}
	}
	syncs(t, b, k, going(2), going(4), going(9), going(30), going(maxId))
	opens(t, b, 2, 4, 9, 30, maxId)
	if err := k.Set(7, of); err != api.OK {
		t.Fatalf("Set(7): %v", err)
	}
	applied(t, k, report(30, 1, 1, false, false), report(4, 1, 1, false, true))
	syncs(t, b, k, going(7), ask(30, 3, 1, 2, false))
	opens(t, b, 2, 7, 9, 30, maxId)
}

// A Book that no call made has no sagas that want something.
func TestSyncOfAnotherBook(t *testing.T) {
	var zero book.Book
	for _, none := range []*book.Book{nil, &zero, book.New(0), booked(t)} {
		k, b := booked(t, pay(), lone(9)), made(t, view)
		syncs(t, b, k, hold(1), going(2))
		tells(t, b, result(hold(1), true), report(1, 1, 1, false, true))
		syncs(t, b, none)
		opens(t, b)
		tellsNothing(t, b, result(going(2), true))
		syncs(t, b, k, hold(1), going(2)) // they are new places
		tells(t, b, result(hold(1), true), report(1, 1, 1, false, true))
		if c, o := b.Tick(none); len(c)+len(o) > 0 {
			t.Errorf("Tick of a Book of none: %+v, %+v", c, o)
		}
		opens(t, b)
	}
	k, b := booked(t, pay(), lone(9)), made(t, view)
	syncs(t, b, k, hold(1), going(2))
	tells(t, b, result(going(2), true), report(2, 1, 1, false, true))
	other := booked(t, lone(1), lone(9), pay())
	syncs(t, b, other, going(1), hold(3)) // saga 2 wants there what it wanted here
	tellsNothing(t, b, result(going(2), true))
	syncs(t, b, k.Copy(), hold(1))
	opens(t, b, 1, 2)
}

// A command that has other ticks in another Book is no other command.
func TestTicksAreNoPartOfACommand(t *testing.T) {
	b := made(t, view)
	syncs(t, b, booked(t, lone(3)), going(1))
	syncs(t, b, booked(t, lone(9)))
	ticks(t, b, booked(t, lone(1)), nil, nil)
	ticks(t, b, booked(t, lone(9)), nil, nil)
	ticks(t, b, booked(t, lone(9)), nil, ops(lapse(1, 1, 1, false)))
}

func TestAForgottenSagaHasNoPlace(t *testing.T) {
	k, b := book.New(1), made(t, view)
	for id := 1; id <= 3*maxSagas; id++ {
		applied(t, k, api.Op{Kind: api.OpStart, Def: lone(9)})
		syncs(t, b, k, going(id))
		opens(t, b, id)
		applied(t, k, report(id, 1, 1, false, true))
	}
	syncs(t, b, k)
	opens(t, b)
}

// P18.2

// tickings: what a saga of one step, of so many ticks, comes to: each letter is a tick: a: asked once more, l: lapsed, -: neither.
func tickings() map[int]string {
	return map[int]string{
		1:  "l--a---a---a",
		2:  "-l-a---a---a",
		3:  "--la---a---a",
		4:  "---l---a---a",
		5:  "---al--a---a",
		6:  "---a-l-a---a",
		7:  "---a--la---a",
		8:  "---a---l---a",
		9:  "---a---al--a",
		12: "---a---a---l---a",
		99: "---a---a---a---a---a",
	}
}

// ticking: what the next so many ticks come to.
func ticking(t *testing.T, b *outbox.Box, k *book.Book, n int) string {
	t.Helper()
	said := ""
	for range n {
		switch c, o := b.Tick(k); {
		case len(c)+len(o) == 0:
			said += "-"
		case slices.Equal(c, commands(going(1))) && len(o) == 0:
			said += "a"
		case len(c) == 0 && sameOps(o, ops(lapse(1, 1, 1, false))):
			said += "l"
		default:
			t.Fatalf("Tick: %+v, %+v", c, o)
		}
	}
	return said
}

func TestTick(t *testing.T) {
	for wait, want := range tickings() {
		k, b := booked(t, lone(wait)), made(t, view)
		syncs(t, b, k, going(1))
		if got := ticking(t, b, k, len(want)); got != want {
			t.Errorf("%d ticks: %s, want %s", wait, got, want)
		}
	}
}

// A place that Tick's Sync makes is not a tick old yet.
func TestTickMakesPlaces(t *testing.T) {
	for wait, want := range tickings() {
		k, b := booked(t, lone(wait)), made(t, view)
		if got := ticking(t, b, k, 1+len(want)); got != "a"+want {
			t.Errorf("%d ticks: %s, want %s behind an a", wait, got, want)
		}
	}
}

// The longest time that a step may have.
func TestTickLapsesLate(t *testing.T) {
	k, b := booked(t, lone(99)), made(t, view)
	syncs(t, b, k, going(1))
	ticking(t, b, k, 98)
	ticks(t, b, k, nil, ops(lapse(1, 1, 1, false)))
	ticks(t, b, k, commands(going(1)), nil)
}

// Sync makes nothing older, and does not hold back what is asked once more.
func TestSyncIsNoTick(t *testing.T) {
	for wait, want := range tickings() {
		k, b := booked(t, lone(wait)), made(t, view)
		got := ""
		syncs(t, b, k, going(1))
		for range want {
			syncs(t, b, k)
			got += ticking(t, b, k, 1)
			syncs(t, b, k)
		}
		if got != want {
			t.Errorf("%d ticks: %s, want %s", wait, got, want)
		}
	}
}

// What the log was told does not lapse, but is asked once more all the same, as long as it is wanted.
func TestTickOfWhatTheLogWasTold(t *testing.T) {
	for wait := range tickings() {
		for at := range min(wait, 12) {
			k, b := booked(t, lone(wait)), made(t, view)
			syncs(t, b, k, going(1))
			got := ticking(t, b, k, at)
			tells(t, b, result(going(1), false), report(1, 1, 1, false, false))
			if got += ticking(t, b, k, 16-at); got != "---a---a---a---a" {
				t.Errorf("%d ticks, told behind %d: %s", wait, at, got)
			}
		}
	}
}

// What a saga wants else is a place of its own: of no age, and the log was not told.
func TestTickOfWhatIsWantedElse(t *testing.T) {
	k, b := booked(t, pay()), made(t, view)
	syncs(t, b, k, hold(1))
	ticks(t, b, k, nil, nil)
	ticks(t, b, k, nil, ops(lapse(1, 1, 1, false)))
	applied(t, k, lapse(1, 1, 1, false))
	second := ask(1, 1, 1, 2, false)
	ticks(t, b, k, commands(second), nil)
	ticks(t, b, k, nil, nil)
	tells(t, b, result(second, true), report(1, 1, 2, false, true))
	ticks(t, b, k, nil, nil)
	ticks(t, b, k, nil, nil)
	ticks(t, b, k, commands(second), nil)
	applied(t, k, report(1, 1, 2, false, true))
	syncs(t, b, k, ship(1))
	ticks(t, b, k, nil, nil)
	ticks(t, b, k, nil, nil)
	ticks(t, b, k, nil, ops(lapse(1, 2, 1, false)))
	applied(t, k, lapse(1, 2, 1, false)) // Stuck
	ticks(t, b, k, nil, nil)
	opens(t, b)
}

func TestTickOfALapseBack(t *testing.T) {
	k, b := booked(t, pay()), made(t, view)
	applied(t, k, report(1, 1, 1, false, true), report(1, 2, 1, false, false))
	ticks(t, b, k, commands(ask(1, 1, 1, 1, true)), nil)
	ticks(t, b, k, nil, nil)
	ticks(t, b, k, nil, ops(lapse(1, 1, 1, true)))
	applied(t, k, lapse(1, 1, 1, true))
	ticks(t, b, k, commands(ask(1, 1, 1, 2, true)), nil)
	ticks(t, b, k, nil, nil)
	tells(t, b, result(ask(1, 1, 1, 2, true), true), report(1, 1, 2, true, true))
	applied(t, k, report(1, 1, 2, true, true))
	ticks(t, b, k, nil, nil)
	opens(t, b)
}

// Sync's commands come first, even of greater sagas; behind them what is asked once more, by sagas; and the lapses by sagas.
func TestTickGoesBySagas(t *testing.T) {
	k, b := booked(t, lone(9), lone(4), lone(9), lone(4), lone(9)), made(t, view)
	syncs(t, b, k, going(1), going(2), going(3), going(4), going(5))
	for range again - 1 {
		ticks(t, b, k, nil, nil)
	}
	applied(t, k, report(3, 1, 1, false, false), api.Op{Kind: api.OpStart, Def: lone(1)}, api.Op{Kind: api.OpStart, Def: lone(1)})
	tells(t, b, result(going(5), true), report(5, 1, 1, false, true))
	ticks(t, b, k, commands(ask(3, 3, 1, 2, false), going(6), going(7), going(1), going(5)), ops(lapse(2, 1, 1, false), lapse(4, 1, 1, false)))
	ticks(t, b, k, nil, ops(lapse(6, 1, 1, false), lapse(7, 1, 1, false)))
	opens(t, b, 1, 2, 3, 4, 5, 6, 7)
}

// P18.3

func TestResult(t *testing.T) {
	for _, good := range []bool{true, false} {
		k, b := booked(t, pay(), pay()), made(t, view)
		applied(t, k, report(2, 1, 1, false, true))
		syncs(t, b, k, hold(1), ship(2))
		tells(t, b, result(ship(2), good), report(2, 2, 1, false, good))
		tellsNothing(t, b, result(ship(2), good)) // the log was told
		tellsNothing(t, b, result(ship(2), !good))
		tells(t, b, result(hold(1), !good), report(1, 1, 1, false, !good))
		tellsNothing(t, b, result(hold(1), good))
		opens(t, b, 1, 2)
	}
}

func TestResultOfWhatIsWantedElse(t *testing.T) {
	k, b := booked(t, pay()), made(t, view)
	tellsNothing(t, b, result(hold(1), true)) // nothing was asked yet
	syncs(t, b, k, hold(1))
	applied(t, k, report(1, 1, 1, false, true))
	tellsNothing(t, b, result(ship(1), true)) // nor was that
	syncs(t, b, k, ship(1))
	tellsNothing(t, b, result(hold(1), true))
	applied(t, k, report(1, 2, 1, false, false))
	syncs(t, b, k, ask(1, 1, 1, 1, true))
	tellsNothing(t, b, result(ship(1), true))
	tellsNothing(t, b, result(hold(1), true))
	tells(t, b, result(ask(1, 1, 1, 1, true), false), report(1, 1, 1, true, false))
	applied(t, k, report(1, 1, 1, true, false))
	syncs(t, b, k, ask(1, 1, 1, 2, true))
	tellsNothing(t, b, result(ask(1, 1, 1, 1, true), true))
	tells(t, b, result(ask(1, 1, 1, 2, true), true), report(1, 1, 2, true, true))
	applied(t, k, report(1, 1, 2, true, true))
	syncs(t, b, k)
	tellsNothing(t, b, result(ask(1, 1, 1, 2, true), true))
}

func TestResultOfWhatLapsed(t *testing.T) {
	k, b := booked(t, lone(1)), made(t, view)
	syncs(t, b, k, going(1))
	ticks(t, b, k, nil, ops(lapse(1, 1, 1, false)))
	tellsNothing(t, b, result(going(1), true))
	tellsNothing(t, b, result(going(1), false))
}

// near: commands that are another one than c, each in one thing.
func near(c api.Command) []api.Command {
	l := []api.Command{{}}
	for _, by := range []int{1, -1, 2, far, -far, maxId} {
		a, b, d, e, f := c, c, c, c, c
		a.View += by
		b.Stub += by
		d.Saga += by
		e.Step += by
		f.Try += by
		l = append(l, a, b, d, e, f)
	}
	back := c
	back.Back = !c.Back
	return append(l, back, api.Command{View: c.View}, api.Command{Saga: c.Saga}, api.Command{View: c.View, Saga: c.Saga})
}

func TestResultIsJustAsItWasAsked(t *testing.T) {
	k, b := booked(t, pay(), lone(9), pay()), made(t, view)
	applied(t, k, report(3, 1, 1, false, true), report(3, 2, 1, false, false))
	asked := commands(hold(1), going(2), ask(3, 1, 1, 1, true))
	syncs(t, b, k, asked...)
	for i, c := range asked {
		for _, other := range near(c) {
			tellsNothing(t, b, result(other, true))
			tellsNothing(t, b, result(other, false))
		}
		for kind := -1; kind <= 20; kind++ {
			m := result(c, true)
			if m.Kind = kind; kind != api.MsgResult {
				tellsNothing(t, b, m)
			}
		}
		for _, good := range []bool{true, false} {
			m := result(c, good)
			m.Fenced = true
			tellsNothing(t, b, m)
		}
		tells(t, b, result(c, true), report(i+1, 1, 1, i == 2, true))
	}
}

// What a MsgResult does not name is not looked at.
func TestResultLooksAtNothingElse(t *testing.T) {
	for _, n := range []int{1, -1, low, high} {
		k, b := booked(t, pay()), made(t, view)
		syncs(t, b, k, hold(1))
		m := api.Msg{Kind: api.MsgResult, From: n, To: n, View: n, Last: n, Num: n, Commit: n, Nonce: n, Request: n, Lead: true, Good: true, Op: api.Op{Kind: n, Saga: n, Def: pay()}, Reply: api.Reply{Saga: n}, Command: hold(1), Ops: ops(cancel(n)), Incs: []int{n}}
		tells(t, b, m, report(1, 1, 1, false, true))
	}
}

// A box tells, and applies nothing: what it tells is wanted till a Book says otherwise.
func TestABoxDoesNotTouchTheBook(t *testing.T) {
	k, b := booked(t, pay(), lone(1)), made(t, view)
	was := k.Copy()
	b.Sync(k)
	b.Tick(k)
	b.Result(result(hold(1), true))
	b.Tick(k)
	if !k.Same(was) {
		t.Error("the Book is another one")
	}
	opens(t, b, 1, 2)
}

// P18.4

// thing: what a saga wants once, whatever the view.
type thing struct {
	saga, step, try int
	back            bool
}

func thingOf(o api.Op) thing { return thing{o.Saga, o.Step, o.Try, o.Back} }

// isWanted: by that saga of the Book, with the box's view.
func isWanted(t *testing.T, k *book.Book, b *outbox.Box, c api.Command) {
	t.Helper()
	s, _ := k.Saga(c.Saga)
	want, _, ok := saga.Wants(s)
	want.View, want.Saga = b.View(), c.Saga
	if !ok || c != want {
		t.Fatalf("asked %+v, wanted %+v, %v", c, want, ok)
	}
}

// A Book goes on by what the box tells, some of it late.
func TestTheLogIsToldOnce(t *testing.T) {
	k, b := booked(t, pay(), lone(1), pay(), lone(3)), made(t, view)
	told := map[thing]int{}
	var late []api.Op
	for n := range 300 {
		asked, lapses := b.Tick(k)
		late = append(late, lapses...)
		for i, c := range asked {
			isWanted(t, k, b, c)
			if (n+i)%3 == 0 {
				continue // lost
			}
			for range 2 { // doubled
				if o, ok := b.Result(result(c, (n+i)%5 > 1)); ok {
					late = append(late, o)
				}
			}
		}
		if n%3 == 0 {
			for _, o := range late {
				told[thingOf(o)]++
				applied(t, k, o)
			}
			late = nil
		}
		if n%20 == 0 {
			applied(t, k, api.Op{Kind: api.OpStart, Def: pay()})
		}
	}
	for what, n := range told {
		if n != 1 {
			t.Errorf("%+v was told %d times", what, n)
		}
	}
	if len(told) < 60 {
		t.Errorf("the log was told %d things", len(told))
	}
}

// R5

func TestABoxThatNoCallMade(t *testing.T) {
	var zero outbox.Box
	k := booked(t, pay())
	for _, b := range []*outbox.Box{nil, &zero, new(outbox.Box), outbox.New(-1)} {
		for range 3 {
			syncs(t, b, k)
			for range 5 {
				ticks(t, b, k, nil, nil)
			}
			for _, v := range []int{0, -1, view} {
				c := hold(1)
				c.View = v
				tellsNothing(t, b, result(c, true))
			}
			tellsNothing(t, b, result(api.Command{}, true))
			opens(t, b)
			if b.View() != -1 {
				t.Errorf("View: %d", b.View())
			}
		}
	}
}
