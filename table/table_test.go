package table_test

import (
	"math"
	"math/rand/v2"
	"slices"
	"testing"

	"drover/api"
	"drover/table"
)

// The signatures that the chapter lists.
var (
	_ func() *table.Table                               = table.Make
	_ func(*table.Table, int, int) (int, api.Reply)     = (*table.Table).Ask
	_ func(*table.Table, int, int) api.Errno            = (*table.Table).Start
	_ func(*table.Table, int, int, api.Reply) api.Errno = (*table.Table).Finish
	_ func(*table.Table)                                = (*table.Table).Forget
	_ func(*table.Table, int) int                       = (*table.Table).Last
	_ func(*table.Table, int) int                       = (*table.Table).Done
	_ func(*table.Table) *table.Table                   = (*table.Table).Copy
)

// whole: a reply with something in each field, another one for each n.
func whole(n int) api.Reply {
	return api.Reply{Err: api.ErrNone, Saga: n, State: api.Stuck, Step: n + 1}
}

func start(t *testing.T, x *table.Table, client, request int) {
	t.Helper()
	if err := x.Start(client, request); err != api.OK {
		t.Fatalf("Start(%d, %d): %v", client, request, err)
	}
}

func finish(t *testing.T, x *table.Table, client, request int) {
	t.Helper()
	if err := x.Finish(client, request, whole(request)); err != api.OK {
		t.Fatalf("Finish(%d, %d): %v", client, request, err)
	}
}

func last(t *testing.T, x *table.Table, client, want int) {
	t.Helper()
	if got := x.Last(client); got != want {
		t.Errorf("Last(%d): %d, want %d", client, got, want)
	}
}

func done(t *testing.T, x *table.Table, client, want int) {
	t.Helper()
	if got := x.Done(client); got != want {
		t.Errorf("Done(%d): %d, want %d", client, got, want)
	}
}

// ask holds what a request is against what it is to be; a Known one's reply is to be whole(request), as finish hands it in.
func ask(t *testing.T, x *table.Table, client, request, want int) {
	t.Helper()
	var reply api.Reply
	if want == table.Known {
		reply = whole(request)
	}
	if got, r := x.Ask(client, request); got != want || r != reply {
		t.Errorf("Ask(%d, %d): %d, %v, want %d, %v", client, request, got, r, want, reply)
	}
}

// clients: those that there are; strangers: some that there are not.
func clients() []int { return []int{1, 2, 3, 4} }

func strangers() []int {
	return []int{0, 5, 6, -1, -2, -4, 10, 11, 14, 100, 1<<32 + 1, 1<<32 + 4, -1 << 32, 1 << 62, math.MaxInt, math.MaxInt - 1, math.MinInt, math.MinInt + 1}
}

// few: requests that may not be.
func few() []int { return []int{0, -1, -2, -1 << 31, -1 << 32, math.MinInt, math.MinInt + 1} }

// slow is what the chapter says of one client, by lists of all that was started and finished.
type slow struct {
	started, finished []int
	replies           map[int]api.Reply
}

func (s *slow) done() int { return slices.Max(append([]int{0}, s.finished...)) }
func (s *slow) last() int { return slices.Max(append([]int{s.done()}, s.started...)) }

func (s *slow) ask(request int) (int, api.Reply) {
	switch {
	case request < 1:
		return table.Old, api.Reply{}
	case request == s.done():
		return table.Known, s.replies[request]
	case request == s.last():
		return table.Pending, api.Reply{}
	case request > s.last():
		return table.New, api.Reply{}
	}
	return table.Old, api.Reply{}
}

func (s *slow) start(request int) api.Errno {
	switch {
	case request < 1:
		return api.ErrArg
	case request <= s.last():
		return api.ErrLate
	}
	s.started = append(s.started, request)
	return api.OK
}

func (s *slow) finish(request int, r api.Reply) api.Errno {
	switch {
	case request < 1:
		return api.ErrArg
	case request < s.done():
		return api.ErrLate
	case request == s.done():
		return api.ErrTwice
	}
	s.finished = append(s.finished, request)
	if s.replies == nil {
		s.replies = map[int]api.Reply{}
	}
	s.replies[request] = r
	return api.OK
}

func (s *slow) forget() {
	s.started = slices.DeleteFunc(s.started, func(request int) bool { return request > s.done() })
}

// alike holds all that a Table tells of a client, of the requests from -1 to top, against what it is to tell.
func alike(t *testing.T, x *table.Table, client int, s *slow, top int) {
	t.Helper()
	if x.Last(client) != s.last() || x.Done(client) != s.done() {
		t.Fatalf("of client %d: Last %d, Done %d, want %d, %d", client, x.Last(client), x.Done(client), s.last(), s.done())
	}
	for request := -1; request <= top; request++ {
		got, r := x.Ask(client, request)
		if want, reply := s.ask(request); got != want || r != reply {
			t.Fatalf("Ask(%d, %d): %d, %v, want %d, %v", client, request, got, r, want, reply)
		}
	}
}

// P7.1

func TestWhatARequestIsByNumber(t *testing.T) {
	if l := []int{table.New, table.Pending, table.Known, table.Old}; !slices.Equal(l, []int{1, 2, 3, 4}) {
		t.Errorf("New, Pending, Known and Old are %v", l)
	}
}

func TestMake(t *testing.T) {
	x := table.Make()
	if x == nil {
		t.Fatal("Make tells none")
	}
	for _, client := range append(clients(), strangers()...) {
		last(t, x, client, 0)
		done(t, x, client, 0)
	}
	for _, client := range clients() {
		for _, request := range []int{1, 2, 3, 1 << 32, math.MaxInt} {
			ask(t, x, client, request, table.New)
		}
	}
}

func TestTheChaptersExample(t *testing.T) {
	x := table.Make()
	start(t, x, 1, 5)
	ask(t, x, 1, 5, table.Pending)
	finish(t, x, 1, 5)
	ask(t, x, 1, 5, table.Known)
	if err := x.Start(1, 5); err != api.ErrLate {
		t.Errorf("Start of what is finished: %v", err)
	}
	ask(t, x, 1, 4, table.Old)
	start(t, x, 1, 7)
	finish(t, x, 1, 6)
	ask(t, x, 1, 7, table.Pending)
}

func TestLastAndDone(t *testing.T) {
	for _, client := range clients() {
		x := table.Make()
		start(t, x, client, 3)
		last(t, x, client, 3)
		done(t, x, client, 0)
		start(t, x, client, 9)
		last(t, x, client, 9)
		done(t, x, client, 0)
		finish(t, x, client, 3)
		last(t, x, client, 9)
		done(t, x, client, 3)
		finish(t, x, client, 12)
		last(t, x, client, 12)
		done(t, x, client, 12)
		start(t, x, client, 13)
		last(t, x, client, 13)
		done(t, x, client, 12)
	}
}

func TestAsk(t *testing.T) {
	for _, client := range clients() {
		x := table.Make()
		start(t, x, client, 4)
		for request, want := range []int{table.Old, table.Old, table.Old, table.Old, table.Pending, table.New, table.New} {
			ask(t, x, client, request, want)
		}
		start(t, x, client, 6) // 4 was started too, but is not Last
		for request, want := range []int{table.Old, table.Old, table.Old, table.Old, table.Old, table.Old, table.Pending, table.New} {
			ask(t, x, client, request, want)
		}
		finish(t, x, client, 4)
		for request, want := range []int{table.Old, table.Old, table.Old, table.Old, table.Known, table.Old, table.Pending, table.New} {
			ask(t, x, client, request, want)
		}
		finish(t, x, client, 6)
		for request, want := range []int{table.Old, table.Old, table.Old, table.Old, table.Old, table.Old, table.Known, table.New} {
			ask(t, x, client, request, want)
		}
	}
}

func TestAskOfNoClientAndOfNoRequest(t *testing.T) {
	x := table.Make()
	for _, request := range []int{0, -1, 1, 2, 5, math.MaxInt, math.MinInt} {
		for _, client := range strangers() {
			ask(t, x, client, request, table.Old)
		}
	}
	for _, client := range clients() {
		for _, request := range few() { // of a client whose Last and Done are 0 as of one that asked
			ask(t, x, client, request, table.Old)
		}
		start(t, x, client, 1)
		finish(t, x, client, 1)
		for _, request := range few() {
			ask(t, x, client, request, table.Old)
		}
	}
}

func TestAskChangesNothing(t *testing.T) {
	x, s := table.Make(), &slow{}
	start(t, x, 2, 5)
	s.start(5)
	for request := range 20 {
		x.Ask(2, request)
		x.Ask(3, request)
		alike(t, x, 2, s, 8)
		alike(t, x, 3, &slow{}, 8)
	}
}

func TestClientsKnowNothingOfEachOther(t *testing.T) {
	x := table.Make()
	for _, client := range clients() {
		start(t, x, client, 10*client)
		finish(t, x, client, 10*client-1)
	}
	for _, client := range clients() {
		last(t, x, client, 10*client)
		done(t, x, client, 10*client-1)
		for _, other := range clients() {
			switch {
			case other < client:
				ask(t, x, client, 10*other, table.Old)
			case other == client:
				ask(t, x, client, 10*other, table.Pending)
				ask(t, x, client, 10*other-1, table.Known)
			default:
				ask(t, x, client, 10*other, table.New)
			}
		}
	}
}

// P7.2

func TestStart(t *testing.T) {
	x := table.Make()
	for _, request := range []int{1, 2, 3, 7, 100, 1 << 31, 1<<32 + 1, math.MaxInt - 1, math.MaxInt} {
		start(t, x, 3, request)
		for _, late := range []int{request, request - 1, 1} {
			if late < 1 {
				continue
			}
			if err := x.Start(3, late); err != api.ErrLate {
				t.Errorf("Start(3, %d) behind %d: %v", late, request, err)
			}
		}
		last(t, x, 3, request)
		done(t, x, 3, 0)
		ask(t, x, 3, request, table.Pending)
	}
}

func TestStartBehindFinish(t *testing.T) {
	x := table.Make()
	finish(t, x, 1, 5)
	for request := 1; request <= 5; request++ {
		if err := x.Start(1, request); err != api.ErrLate {
			t.Errorf("Start(1, %d): %v", request, err)
		}
	}
	ask(t, x, 1, 5, table.Known)
	start(t, x, 1, 6)
	ask(t, x, 1, 5, table.Known)
	ask(t, x, 1, 6, table.Pending)
}

func TestFinishKeepsAllOfTheReply(t *testing.T) {
	for n, r := range []api.Reply{
		{}, whole(1), {Err: api.ErrFull}, {Saga: 7}, {State: api.Done}, {Step: 3},
		{Err: api.Errno(math.MinInt), Saga: math.MaxInt, State: math.MinInt, Step: -1},
	} {
		x := table.Make()
		start(t, x, 2, n+1)
		if err := x.Finish(2, n+1, r); err != api.OK {
			t.Fatalf("Finish with %v: %v", r, err)
		}
		if got, kept := x.Ask(2, n+1); got != table.Known || kept != r {
			t.Errorf("%d, %v, want the reply %v", got, kept, r)
		}
		next := whole(100 + n)
		if err := x.Finish(2, n+2, next); err != api.OK {
			t.Fatalf("Finish with %v: %v", next, err)
		}
		if got, kept := x.Ask(2, n+2); got != table.Known || kept != next {
			t.Errorf("%d, %v, want the reply %v", got, kept, next)
		}
	}
}

func TestFinishOfWhatWasNotStarted(t *testing.T) {
	x := table.Make()
	finish(t, x, 4, 3)
	last(t, x, 4, 3)
	done(t, x, 4, 3)
	ask(t, x, 4, 3, table.Known)
	start(t, x, 4, 9)
	finish(t, x, 4, 5) // what is started above it stays so
	last(t, x, 4, 9)
	done(t, x, 4, 5)
	ask(t, x, 4, 5, table.Known)
	ask(t, x, 4, 9, table.Pending)
	finish(t, x, 4, 11)
	last(t, x, 4, 11)
	ask(t, x, 4, 9, table.Old)
	ask(t, x, 4, 11, table.Known)
}

func TestFinishLateAndTwice(t *testing.T) {
	x := table.Make()
	finish(t, x, 1, 5)
	start(t, x, 1, 8)
	for request, want := range []api.Errno{api.ErrArg, api.ErrLate, api.ErrLate, api.ErrLate, api.ErrLate, api.ErrTwice} {
		if err := x.Finish(1, request, whole(77)); err != want {
			t.Errorf("Finish(1, %d): %v, want %v", request, err, want)
		}
		ask(t, x, 1, 5, table.Known)
		ask(t, x, 1, 8, table.Pending)
	}
	finish(t, x, 1, 6)
	if err := x.Finish(1, 5, whole(77)); err != api.ErrLate {
		t.Errorf("Finish of what was finished ahead of another: %v", err)
	}
}

func TestForget(t *testing.T) {
	x := table.Make()
	x.Forget()
	for _, client := range clients() {
		last(t, x, client, 0)
		start(t, x, client, 4)
		finish(t, x, client, 2)
		if client%2 == 0 {
			start(t, x, client, 6)
		}
	}
	finish(t, x, 4, 6)
	x.Forget()
	for _, client := range []int{1, 2, 3} {
		last(t, x, client, 2)
		done(t, x, client, 2)
		ask(t, x, client, 2, table.Known)
		for _, request := range []int{3, 4, 6} {
			ask(t, x, client, request, table.New)
		}
		start(t, x, client, 3)
		ask(t, x, client, 3, table.Pending)
	}
	last(t, x, 4, 6)
	ask(t, x, 4, 6, table.Known)
	ask(t, x, 4, 4, table.Old)
}

func TestForgetOfAllThatWasStarted(t *testing.T) {
	x := table.Make()
	for request := 1; request < 9; request += 2 {
		start(t, x, 3, request)
	}
	x.Forget()
	last(t, x, 3, 0)
	for request := 1; request < 9; request++ {
		ask(t, x, 3, request, table.New)
	}
	start(t, x, 3, 1)
}

func TestCopyIsAlikeAndAnother(t *testing.T) {
	full := func() *table.Table {
		x := table.Make()
		for _, client := range clients() {
			start(t, x, client, 10+client)
			finish(t, x, client, 5)
		}
		return x
	}
	same := func(x *table.Table) {
		t.Helper()
		for _, client := range clients() {
			last(t, x, client, 10+client)
			done(t, x, client, 5)
			ask(t, x, client, 5, table.Known)
			ask(t, x, client, 10+client, table.Pending)
			ask(t, x, client, 11+client, table.New)
		}
	}
	change := func(x *table.Table) {
		for _, client := range clients() {
			finish(t, x, client, 100)
			start(t, x, client, 200)
		}
		x.Forget()
	}
	first := full()
	second := first.Copy()
	third := second.Copy()
	if second == nil || second == first || third == second || third == first {
		t.Fatal("a Copy is no other one")
	}
	same(second)
	change(second)
	same(first)
	same(third)
	change(first)
	same(third)
	for _, client := range clients() {
		last(t, second, client, 100)
		ask(t, second, client, 100, table.Known)
		ask(t, second, client, 200, table.New)
	}
	same(full().Copy().Copy())
}

// P7.1 and P7.2: of nothing

func TestOfATableThatNoCallMade(t *testing.T) {
	var zero table.Table
	for _, x := range []*table.Table{nil, &zero, new(table.Table)} {
		for range 3 {
			for _, client := range append(clients(), strangers()...) {
				for _, request := range append(few(), 1, 2, 5, math.MaxInt) {
					if err := x.Start(client, request); err != api.ErrMade {
						t.Errorf("Start(%d, %d): %v", client, request, err)
					}
					if err := x.Finish(client, request, whole(1)); err != api.ErrMade {
						t.Errorf("Finish(%d, %d): %v", client, request, err)
					}
					ask(t, x, client, request, table.Old)
				}
				last(t, x, client, 0)
				done(t, x, client, 0)
			}
			x.Forget()
			if c := x.Copy(); c != x {
				t.Error("Copy tells another one")
			}
		}
	}
	if zero != (table.Table{}) {
		t.Errorf("a zero value became %v", zero)
	}
}

// P7.3

func TestWhatIsKnownStays(t *testing.T) {
	x := table.Make()
	finish(t, x, 2, 50)
	known := func() {
		t.Helper()
		ask(t, x, 2, 50, table.Known)
		done(t, x, 2, 50)
	}
	for request := -3; request <= 50; request++ {
		x.Start(2, request)
		x.Finish(2, request, whole(999))
		known()
	}
	for request := 51; request < 80; request++ {
		start(t, x, 2, request)
		known()
		x.Forget()
		known()
	}
	start(t, x, 2, 90)
	for _, client := range append(strangers(), 1, 3, 4) {
		x.Start(client, 60)
		x.Finish(client, 60, whole(998))
		known()
	}
	x.Copy().Finish(2, 51, whole(997))
	known()
	x = x.Copy()
	known()
	finish(t, x, 2, 51)
	ask(t, x, 2, 50, table.Old)
	ask(t, x, 2, 51, table.Known)
	ask(t, x, 2, 90, table.Pending)
}

// All that the chapter says, held against a Table that keeps all

// rows goes over all rows of so many numbers from 0 to top.
func rows(long, top int, tell func([]int)) {
	row := make([]int, long)
	var fill func(i int)
	fill = func(i int) {
		if i == long {
			tell(row)
			return
		}
		for row[i] = 0; row[i] <= top; row[i]++ {
			fill(i + 1)
		}
	}
	fill(0)
}

// call makes the call of that number, from 0 to 7, of both: one of four requests is started, or one of three finished, or all is forgotten.
func call(t *testing.T, x *table.Table, client int, s *slow, number, reply int) {
	t.Helper()
	switch r := whole(reply); {
	case number < 4:
		if got, want := x.Start(client, number), s.start(number); got != want {
			t.Fatalf("Start(%d, %d): %v, want %v", client, number, got, want)
		}
	case number < 7:
		if got, want := x.Finish(client, number-3, r), s.finish(number-3, r); got != want {
			t.Fatalf("Finish(%d, %d): %v, want %v", client, number-3, got, want)
		}
	default:
		x.Forget()
		s.forget()
	}
}

func TestAllRowsOfAFewCalls(t *testing.T) {
	for long := range 6 {
		rows(long, 7, func(row []int) {
			x, s := table.Make(), &slow{}
			for i, number := range row {
				call(t, x, 3, s, number, i)
			}
			alike(t, x, 3, s, 5)
			alike(t, x, 2, &slow{}, 3)
			alike(t, x, 4, &slow{}, 3)
		})
	}
}

func TestAnyCallsAreAsWithAllKept(t *testing.T) {
	for seed := range uint64(40) {
		by := rand.New(rand.NewPCG(seed, 7))
		top := []int{3, 6, 12, 40}[seed%4]
		x, s := table.Make(), map[int]*slow{1: {}, 2: {}, 3: {}, 4: {}}
		for n := range 1000 {
			client := by.IntN(4) + 1
			request := s[client].last() + by.IntN(top) - top*2/3 // some of which are above all others, however far these are
			switch by.IntN(20) {
			case 0:
				x.Forget()
				for _, one := range s {
					one.forget()
				}
			case 1:
				old := x
				x = x.Copy()
				old.Finish(client, math.MaxInt, whole(n))
			case 2, 3, 4, 5, 6:
				if got, want := x.Finish(client, request, whole(n)), s[client].finish(request, whole(n)); got != want {
					t.Fatalf("Finish(%d, %d): %v, want %v", client, request, got, want)
				}
			default:
				if got, want := x.Start(client, request), s[client].start(request); got != want {
					t.Fatalf("Start(%d, %d): %v, want %v", client, request, got, want)
				}
			}
			if n%10 == 0 {
				for _, client := range clients() {
					alike(t, x, client, s[client], s[client].last()+2)
				}
			}
		}
	}
}
