package table_test

import (
	"math"
	"testing"

	"drover/api"
	"drover/table"
)

// The rules that hold everywhere, P1 and the bound, for this package. (R5 stands behind P7.2, where the chapter names it too.)

// used: a Table of which each client started 9, behind 5, which was finished.
func used(t *testing.T) *table.Table {
	t.Helper()
	x := table.Make()
	for _, client := range clients() {
		finish(t, x, client, 5)
		start(t, x, client, 9)
	}
	return x
}

// holds: is a Table as used tells it?
func holds(t *testing.T, x *table.Table) {
	t.Helper()
	for _, client := range clients() {
		last(t, x, client, 9)
		done(t, x, client, 5)
		ask(t, x, client, 4, table.Old)
		ask(t, x, client, 5, table.Known)
		ask(t, x, client, 6, table.Old)
		ask(t, x, client, 9, table.Pending)
		ask(t, x, client, 10, table.New)
	}
}

// R1, P1

func TestEveryCallEnds(t *testing.T) {
	var zero table.Table
	made := used(t)
	other := *made
	for _, x := range []*table.Table{nil, &zero, new(table.Table), table.Make(), made, &other, made.Copy(), zero.Copy()} {
		for range 2 {
			for _, client := range append(clients(), strangers()...) {
				for _, request := range append(few(), 1, 2, 5, 9, 1<<32, math.MaxInt-1, math.MaxInt) {
					x.Ask(client, request)
					x.Start(client, request)
					x.Ask(client, request)
					x.Finish(client, request, api.Reply{Err: api.Errno(request), Saga: client, State: request, Step: client})
					x.Finish(client, request, api.Reply{})
				}
				x.Last(client)
				x.Done(client)
				x.Copy().Forget()
			}
			x.Forget()
		}
	}
}

func TestATableThatIsCopiedAsAValueIsAnother(t *testing.T) {
	x := used(t)
	y := *x
	for _, client := range clients() {
		finish(t, &y, client, 20)
		start(t, &y, client, 30)
	}
	y.Forget()
	holds(t, x)
	for _, client := range clients() {
		last(t, &y, client, 20)
		ask(t, &y, client, 20, table.Known)
	}
}

// R2, R7

func TestTheFirstErrorIsTold(t *testing.T) {
	var zero table.Table
	for _, c := range []struct {
		x               *table.Table
		client, request int
		start, finish   api.Errno
	}{
		{nil, 1, 1, api.ErrMade, api.ErrMade}, {nil, 0, 0, api.ErrMade, api.ErrMade}, {nil, 5, 1, api.ErrMade, api.ErrMade},
		{&zero, 1, 1, api.ErrMade, api.ErrMade}, {&zero, 1, 0, api.ErrMade, api.ErrMade}, {&zero, -1, 1, api.ErrMade, api.ErrMade},
		{used(t), 0, 1, api.ErrArg, api.ErrArg}, {used(t), 5, 9, api.ErrArg, api.ErrArg}, {used(t), -1, 100, api.ErrArg, api.ErrArg}, {used(t), 5, 0, api.ErrArg, api.ErrArg},
		{used(t), 1, 0, api.ErrArg, api.ErrArg}, {used(t), 4, -1, api.ErrArg, api.ErrArg}, {used(t), 1, math.MinInt, api.ErrArg, api.ErrArg},
		{table.Make(), 1, 0, api.ErrArg, api.ErrArg}, {table.Make(), 4, -5, api.ErrArg, api.ErrArg},
		{used(t), 1, 1, api.ErrLate, api.ErrLate}, {used(t), 4, 4, api.ErrLate, api.ErrLate},
		{used(t), 1, 5, api.ErrLate, api.ErrTwice}, {used(t), 4, 5, api.ErrLate, api.ErrTwice},
		{used(t), 1, 6, api.ErrLate, api.OK}, {used(t), 4, 9, api.ErrLate, api.OK},
		{used(t), 1, 10, api.OK, api.OK}, {table.Make(), 1, 1, api.OK, api.OK}, {table.Make(), 4, math.MaxInt, api.OK, api.OK},
	} {
		if err := c.x.Copy().Start(c.client, c.request); err != c.start {
			t.Errorf("Start(%d, %d): %v, want %v", c.client, c.request, err, c.start)
		}
		if err := c.x.Copy().Finish(c.client, c.request, whole(1)); err != c.finish {
			t.Errorf("Finish(%d, %d): %v, want %v", c.client, c.request, err, c.finish)
		}
	}
}

func TestAnErrorChangesNothing(t *testing.T) {
	x := used(t)
	for _, client := range append(strangers(), clients()...) {
		for request := -2; request <= 9; request++ {
			if err := x.Start(client, request); err == api.OK {
				t.Fatalf("Start(%d, %d): %v", client, request, err)
			}
			if request > 5 && client >= 1 && client <= api.MaxClients { // it may be finished
				continue
			}
			if err := x.Finish(client, request, whole(77)); err == api.OK {
				t.Fatalf("Finish(%d, %d): %v", client, request, err)
			}
		}
		for _, request := range few() {
			x.Start(client, request)
			x.Finish(client, request, whole(77))
		}
		holds(t, x)
	}
	for _, client := range strangers() {
		for _, request := range []int{1, 5, 9, 10, math.MaxInt} {
			if x.Start(client, request) != api.ErrArg || x.Finish(client, request, whole(77)) != api.ErrArg {
				t.Fatalf("of client %d request %d was taken", client, request)
			}
		}
	}
	holds(t, x)
}

// R3: a reply has no lists, and so is handed over as a value

func TestWhatWasHandedInAndToldIsNotKept(t *testing.T) {
	x := table.Make()
	r := whole(5)
	x.Finish(1, 5, r)
	r.Saga, r.Err = 77, api.ErrDown
	ask(t, x, 1, 5, table.Known)
	_, told := x.Ask(1, 5)
	told.Step = 77
	ask(t, x, 1, 5, table.Known)
	_, told = x.Ask(1, 5)
	x.Finish(1, 6, whole(6))
	if told != whole(5) {
		t.Errorf("what was told became %v", told)
	}
}

// R4

func TestTablesKnowNothingOfEachOther(t *testing.T) {
	a, b, c := table.Make(), table.Make(), used(t)
	for n := range 3000 {
		client, request := 1+n*7%4, 1+n/4+n*13%9
		if x, y := a.Start(client, request), b.Start(client, request); x != y {
			t.Fatalf("Start %d: %v and %v", n, x, y)
		}
		c.Finish(client, n+100, whole(n))
		if n%5 == 0 {
			if x, y := a.Finish(client, request-1, whole(n)), b.Finish(client, request-1, whole(n)); x != y {
				t.Fatalf("Finish %d: %v and %v", n, x, y)
			}
		}
		if n%37 == 0 {
			a.Forget()
			b.Forget()
		}
		c.Forget()
		table.Make().Start(client, 1<<40)
		for _, client := range clients() {
			k, r := a.Ask(client, request)
			if l, s := b.Ask(client, request); k != l || r != s || a.Last(client) != b.Last(client) || a.Done(client) != b.Done(client) {
				t.Fatalf("behind call %d client %d: %d %v, and %d %v", n, client, k, r, l, s)
			}
		}
	}
}

// R6

func TestRequestsAtTheEndsOfInts(t *testing.T) {
	low, high := math.MinInt, math.MaxInt
	x := table.Make()
	start(t, x, 1, high-1)
	ask(t, x, 1, high, table.New)
	start(t, x, 1, high)
	ask(t, x, 1, high, table.Pending)
	ask(t, x, 1, high-1, table.Old)
	ask(t, x, 1, low, table.Old)
	finish(t, x, 1, high-1)
	finish(t, x, 1, high)
	ask(t, x, 1, high, table.Known)
	if err := x.Finish(1, high, whole(1)); err != api.ErrTwice {
		t.Errorf("Finish of the greatest twice: %v", err)
	}
	if err := x.Start(1, high); err != api.ErrLate {
		t.Errorf("Start of the greatest once it is finished: %v", err)
	}
	if x.Start(1, low) != api.ErrArg || x.Finish(1, low, whole(1)) != api.ErrArg {
		t.Error("the least int is a request")
	}
	for _, client := range []int{low, low + 1, low + 2, high, high - 1} { // where one less is another one's place, if it wraps
		if x.Start(client, 1) != api.ErrArg || x.Finish(client, 1, whole(1)) != api.ErrArg {
			t.Errorf("%d is a client", client)
		}
		ask(t, x, client, 1, table.Old)
	}
	ask(t, x, 4, 1, table.New)
}

// The bound, and the language's rule 8

func TestMuchIsTaken(t *testing.T) {
	const many = 1 << 20
	x := table.Make()
	for n := 1; n <= many; n++ {
		client := 1 + n%api.MaxClients
		start(t, x, client, n)
		if n%3 == 0 {
			finish(t, x, client, n)
		}
		if n%1000 == 0 {
			x.Forget()
			x = x.Copy()
		}
	}
	for _, client := range clients() {
		if n := x.Done(client); n%3 != 0 || n < many-12 || n > many {
			t.Errorf("Done(%d): %d", client, n)
		}
	}
}

func TestNoMoreIsKeptThanTheLast(t *testing.T) {
	x, n := table.Make(), 0
	if some := testing.AllocsPerRun(1000, func() {
		n++
		x.Start(1, 2*n)
		x.Finish(1, 2*n, whole(n))
		x.Start(2, n)
		x.Forget()
		x.Ask(1, n)
	}); some != 0 {
		t.Errorf("%v things are kept anew for each request", some)
	}
}
