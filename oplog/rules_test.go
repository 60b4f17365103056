package oplog_test

import (
	"math"
	"slices"
	"strings"
	"testing"

	"drover/api"
	"drover/oplog"
)

// The rules that hold everywhere, P1 and the bound, for this package. (R5 stands behind P6.2, where the chapter names it too.)

// R1, P1

func TestEveryCallEnds(t *testing.T) {
	numbers := append(append(ends(), lows()...), 0, 1, 2, 3, api.MaxOps, api.MaxOps+1)
	lists := [][]api.Op{nil, {}, {{}}, row(1, 3), {bare(nil), bare([]api.Step{})}, changed(), small(api.MaxOps), small(api.MaxOps + 1)}
	var zero oplog.Log
	made := filled(t, 3, 1)
	other := *made
	for _, l := range []*oplog.Log{nil, &zero, new(oplog.Log), oplog.New(), made, &other, full(t, 2)} {
		for _, n := range numbers {
			for _, ops := range lists {
				l.Join(n, ops)
				l.Replace(ops, n)
			}
			l.Cut(n)
			l.Add(api.Op{Kind: n, Client: n, Request: n, Saga: n, Step: n, Try: n, Def: api.Def{Name: "\xff\x00", Steps: []api.Step{{Stub: n}}}})
			l.At(n)
			l.Since(n)
			l.Commit(n % 3)
			l.Last()
			l.Committed()
		}
		for _, n := range numbers {
			l.Commit(n)
			l.Cut(n)
			l.Join(n, nil)
		}
	}
	for _, a := range lists {
		for _, b := range lists {
			oplog.Prefix(a, b)
		}
	}
}

// R2, R7

func TestTheFirstErrorIsTold(t *testing.T) {
	var zero oplog.Log
	much, most := small(api.MaxOps+1), api.MaxOps
	for _, c := range []struct {
		name string
		got  func() api.Errno
		want api.Errno
	}{
		{"Cut of nil", func() api.Errno { return (*oplog.Log)(nil).Cut(-1) }, api.ErrMade},
		{"Cut of a zero value", func() api.Errno { return zero.Cut(-1) }, api.ErrMade},
		{"Join of nil", func() api.Errno { return (*oplog.Log)(nil).Join(-1, much) }, api.ErrMade},
		{"Join of a zero value", func() api.Errno { return zero.Join(9, much) }, api.ErrMade},
		{"Join below Committed of too many", func() api.Errno { return filled(t, 3, 2).Join(1, much) }, api.ErrArg},
		{"Join above Last of too many", func() api.Errno { return filled(t, 3, 2).Join(4, much) }, api.ErrArg},
		{"Join below 0 of too many", func() api.Errno { return oplog.New().Join(-1, much) }, api.ErrArg},
		{"Join above all of one", func() api.Errno { return full(t, 0).Join(most+1, small(1)) }, api.ErrArg},
		{"Join of too many", func() api.Errno { return filled(t, 3, 2).Join(2, much) }, api.ErrFull},
		{"Replace of nil", func() api.Errno { return (*oplog.Log)(nil).Replace(much, -1) }, api.ErrMade},
		{"Replace of a zero value", func() api.Errno { return zero.Replace(much, 0) }, api.ErrMade},
		{"Replace by too many, commit below 0", func() api.Errno { return oplog.New().Replace(much, -1) }, api.ErrFull},
		{"Replace by too many, commit below Committed", func() api.Errno { return filled(t, 3, 2).Replace(much, 1) }, api.ErrFull},
		{"Replace by too many, commit above them", func() api.Errno { return filled(t, 3, 2).Replace(much, most+2) }, api.ErrFull},
		{"Replace by too many others", func() api.Errno { return filled(t, 3, 2).Replace(much, 2) }, api.ErrFull},
		{"Replace by others", func() api.Errno { return filled(t, 3, 2).Replace(small(3), 2) }, api.ErrArg},
	} {
		if got := c.got(); got != c.want {
			t.Errorf("%s: %v, want %v", c.name, got, c.want)
		}
	}
	for _, l := range []*oplog.Log{nil, &zero} {
		if n, err := l.Add(one(1)); n != 0 || err != api.ErrMade {
			t.Errorf("Add: %d, %v", n, err)
		}
	}
}

func TestAnErrorChangesNothing(t *testing.T) {
	states(4, func(last, committed int) {
		l := filled(t, last, committed)
		low := append(lows(), committed-1)
		for _, n := range low {
			if err := l.Cut(n); err != api.ErrArg {
				t.Fatalf("Cut(%d): %v", n, err)
			}
		}
		for _, n := range append(append(ends(), low...), last+1) {
			if err := l.Join(n, row(70, 72)); err != api.ErrArg {
				t.Fatalf("Join(%d): %v", n, err)
			}
		}
		for _, n := range append(append(ends(), low...), last+2) {
			if err := l.Replace(row(1, last+1), n); err != api.ErrArg {
				t.Fatalf("Replace, commit %d: %v", n, err)
			}
		}
		if committed > 0 {
			if err := l.Replace(append(row(1, committed-1), row(70, 75)...), last); err != api.ErrArg {
				t.Fatalf("Replace by others: %v", err)
			}
		}
		if err := l.Join(committed, small(api.MaxOps-committed+1)); err != api.ErrFull {
			t.Fatalf("Join of too many: %v", err)
		}
		if err := l.Replace(append(row(1, last), small(api.MaxOps+1)...), committed); err != api.ErrFull {
			t.Fatalf("Replace by too many: %v", err)
		}
		holds(t, l, committed, row(1, last))
	})
}

// R3

const spare = 5

// filler: an operation that is none of those that one tells.
func filler() api.Op { return api.Op{Kind: 777, Def: api.Def{Name: "filler"}} }

// roomy: the operations from to to, with filled room behind the end of the list, and of each one's steps; the second answer is that list, room and all.
func roomy(from, to int) ([]api.Op, []api.Op) {
	l := row(from, to)
	for i, o := range l {
		n := len(o.Def.Steps)
		for range spare {
			o.Def.Steps = append(o.Def.Steps, api.Step{Name: "filler", Stub: 777})
		}
		l[i].Def.Steps = o.Def.Steps[:n]
	}
	n := len(l)
	for range spare {
		l = append(l, filler())
	}
	return l[:n], l
}

// untouched: is what roomy told as it was, room and all?
func untouched(room []api.Op, from, to int) bool {
	_, want := roomy(from, to)
	for i, o := range room {
		if i < len(room)-spare && !slices.Equal(o.Def.Steps[:len(o.Def.Steps)+spare], want[i].Def.Steps[:len(o.Def.Steps)+spare]) {
			return false
		}
	}
	return allAlike(room, want)
}

// scribble writes over all of l, over each one's steps, and over the room behind all these lists.
func scribble(l []api.Op) {
	l = l[:cap(l)]
	for i := range l {
		steps := l[i].Def.Steps
		steps = steps[:cap(steps)]
		for j := range steps {
			steps[j] = api.Step{Name: "scribbled", Wait: 888}
		}
		l[i] = api.Op{Kind: 888}
	}
}

// takers: the calls that are handed operations, each of a Log of the first two, of which one is committed: behind them there are the first to fifth.
func takers() map[string]func(l *oplog.Log, ops []api.Op) api.Errno {
	return map[string]func(l *oplog.Log, ops []api.Op) api.Errno{
		"Add": func(l *oplog.Log, ops []api.Op) api.Errno {
			for _, o := range ops[2:] {
				l.Add(o)
			}
			return api.OK
		},
		"Join":             func(l *oplog.Log, ops []api.Op) api.Errno { return l.Join(2, ops[2:]) },
		"Join farther":     func(l *oplog.Log, ops []api.Op) api.Errno { return l.Join(1, ops[1:]) },
		"Replace":          func(l *oplog.Log, ops []api.Op) api.Errno { return l.Replace(ops, 1) },
		"Replace of fewer": func(l *oplog.Log, ops []api.Op) api.Errno { l.Cut(1); return l.Replace(ops, 1) },
	}
}

// handed tells of a Log for each of the takers, to which that one handed the first to fifth operation, and of these as roomy tells them.
func handed(t *testing.T, tell func(name string, l *oplog.Log, ops, room []api.Op)) {
	t.Helper()
	for name, take := range takers() {
		l := filled(t, 2, 1)
		ops, room := roomy(1, 5)
		if err := take(l, ops); err != api.OK {
			t.Fatalf("%s: %v", name, err)
		}
		tell(name, l, ops, room)
	}
}

// tellers: the calls that tell the third to fifth operation of a Log of five, of which two are committed.
func tellers() map[string]func(l *oplog.Log) []api.Op {
	return map[string]func(l *oplog.Log) []api.Op{
		"Since":  func(l *oplog.Log) []api.Op { return l.Since(2) },
		"Commit": func(l *oplog.Log) []api.Op { return l.Commit(5) },
		"At": func(l *oplog.Log) []api.Op {
			var got []api.Op
			for n := 3; n <= 5; n++ {
				o, _ := l.At(n)
				got = append(got, o)
			}
			return got
		},
	}
}

func TestNothingHandedInIsChanged(t *testing.T) {
	handed(t, func(name string, l *oplog.Log, ops, room []api.Op) {
		holds(t, l, 1, row(1, 5))
		for _, tell := range tellers() {
			scribble(tell(l))
		}
		l.Add(one(6))
		l.Join(6, row(7, 9))
		l.Cut(6)
		l.Add(one(60))
		l.Replace(append(row(1, 5), one(80)), 5)
		oplog.Prefix(ops, row(1, 9))
		oplog.Prefix(row(1, 9), ops)
		oplog.Same(ops[0], ops[1])
		if !untouched(room, 1, 5) {
			t.Errorf("behind %s what was handed in became %v", name, room)
		}
	})
}

func TestNothingBehindAListsEndIsLookedAt(t *testing.T) {
	ops, _ := roomy(1, 5)
	if got := oplog.Prefix(ops[:3], row(1, 5)); got != 3 {
		t.Errorf("Prefix of three of five: %d", got)
	}
	if !oplog.Same(ops[0], one(1)) || !oplog.Same(one(1), ops[0]) {
		t.Error("the room behind a list of steps is held against another's")
	}
	l := filled(t, 4, 2)
	if err := l.Replace(ops[:1], 1); err != api.ErrArg {
		t.Errorf("Replace by fewer than are committed: %v", err)
	}
	if err := l.Join(4, ops[:0]); err != api.OK {
		t.Errorf("Join of none: %v", err)
	}
	holds(t, l, 2, row(1, 4))
}

func TestALogKeepsNothingThatItWasHanded(t *testing.T) {
	handed(t, func(_ string, l *oplog.Log, _, room []api.Op) {
		scribble(room)
		holds(t, l, 1, row(1, 5))
		l.Add(one(6))
		scribble(room)
		holds(t, l, 1, row(1, 6))
	})
}

func TestALogKeepsNothingThatItTold(t *testing.T) {
	for name, tell := range tellers() {
		l := filled(t, 5, 2)
		got := tell(l)
		if !allAlike(got, row(3, 5)) {
			t.Fatalf("%s: %v", name, got)
		}
		scribble(got)
		committed := l.Committed()
		holds(t, l, committed, row(1, 5))
		l.Add(one(6))
		scribble(got)
		holds(t, l, committed, row(1, 6))
	}
}

func TestWhatIsToldLastsWhateverIsCalled(t *testing.T) {
	for name, tell := range tellers() {
		l := filled(t, 5, 2)
		got := tell(l)
		for n := range 20 {
			l.Add(one(100 + n))
			l.Join(l.Committed(), row(200, 205))
			l.Cut(l.Committed())
			l.Replace(append(l.Since(0), one(300)), l.Committed())
			scribble(l.Since(0))
		}
		if !allAlike(got, row(3, 5)) {
			t.Errorf("what %s told became %v", name, got)
		}
	}
}

// at hands out what At told, as a list of one, with no room behind it.
func at(l *oplog.Log, n int) []api.Op {
	o, _ := l.At(n)
	return []api.Op{o}
}

func TestAnswersShareNothing(t *testing.T) {
	l := filled(t, 4, 0)
	answers := [][]api.Op{l.Since(0), l.Since(0), l.Since(-1), l.Commit(4), at(l, 1), at(l, 1)}
	for i, a := range answers {
		scribble(a)
		for _, b := range answers[i+1:] {
			if !allAlike(b, row(1, len(b))) {
				t.Errorf("answer %d shares memory with another one, which became %v", i, b)
			}
		}
	}
	holds(t, l, 4, row(1, 4))
}

func TestListsOfOneAnswerShareNothing(t *testing.T) {
	steps := one(1).Def.Steps
	shared := []api.Op{bare(steps), bare(steps[:1]), bare(steps)}
	for name, tell := range tellers() {
		l := filled(t, 2, 2)
		l.Join(2, shared)
		got := tell(l)
		for i := range got {
			all := got[i].Def.Steps[:cap(got[i].Def.Steps)]
			for j := range all {
				all[j] = api.Step{Name: "scribbled"}
			}
			for j := range got {
				if j != i && !slices.Equal(got[j].Def.Steps, shared[j].Def.Steps) {
					t.Errorf("%s: the steps of %d and %d share memory", name, i, j)
				}
			}
			copy(all, shared[i].Def.Steps)
		}
	}
}

func TestOneListHandedInTwiceIsKeptTwice(t *testing.T) {
	l := oplog.New()
	o, ops := one(1), row(1, 2)
	for n := range 3 {
		o.Kind, o.Def.Steps[0].Stub = n, n
		l.Add(o)
		ops[0].Kind, ops[0].Def.Steps[0].Stub = 10+n, 10+n
		l.Join(2*n+1, ops[:1])
	}
	for i, o := range l.Since(0) {
		if want := i/2 + 10*(i%2); o.Kind != want || o.Def.Steps[0].Stub != want {
			t.Errorf("operation %d is %v", i+1, o)
		}
	}
}

// R4

func TestLogsKnowNothingOfEachOther(t *testing.T) {
	a, b, c := oplog.New(), oplog.New(), oplog.New()
	for n := range 60 {
		for _, l := range []*oplog.Log{a, b} {
			l.Add(one(n))
			l.Commit(n / 3)
			l.Cut(n - n%4)
			l.Join(n/3, row(n, n+n%7))
			c.Add(one(1000))
			c.Commit(2 * n)
			c.Cut(n)
			oplog.New().Join(0, row(1, 3))
		}
		holds(t, b, a.Committed(), a.Since(0))
	}
	if a.Last() == 0 || a.Committed() == 0 {
		t.Error("nothing was held against each other")
	}
}

func TestALogTakesWhatItTold(t *testing.T) {
	l := filled(t, 6, 2)
	if err := l.Join(4, l.Since(1)); err != api.OK {
		t.Fatal(err)
	}
	holds(t, l, 2, append(row(1, 4), row(2, 6)...))
	if err := l.Replace(l.Since(0), 9); err != api.OK {
		t.Fatal(err)
	}
	holds(t, l, 9, append(row(1, 4), row(2, 6)...))
}

// R6

func TestNumbersAtTheEndsOfInts(t *testing.T) {
	low, high := math.MinInt, math.MaxInt
	l := filled(t, 3, 1)
	for _, n := range []int{low, low + 1} {
		if _, ok := l.At(n); ok || l.Cut(n) != api.ErrArg || l.Join(n, row(1, 1)) != api.ErrArg || l.Replace(row(1, 3), n) != api.ErrArg || len(l.Commit(n)) != 0 || !allAlike(l.Since(n), row(1, 3)) {
			t.Errorf("%d is another number", n)
		}
	}
	for _, n := range []int{high, high - 1} {
		if _, ok := l.At(n); ok || l.Cut(n) != api.OK || l.Join(n, row(1, 1)) != api.ErrArg || l.Replace(row(1, 3), n) != api.ErrArg || len(l.Since(n)) != 0 {
			t.Errorf("%d is another number", n)
		}
	}
	holds(t, l, 1, row(1, 3))
	if got := l.Commit(high); !allAlike(got, row(2, 3)) {
		t.Errorf("Commit(%d): %v", high, got)
	}
	far := []api.Op{{Kind: low, Client: high, Request: low, Saga: high, Step: low, Try: high, Def: api.Def{Steps: []api.Step{{Stub: low, Retry: high, Wait: low}}}}}
	if err := l.Join(3, far); err != api.OK {
		t.Errorf("Join: %v", err)
	}
	holds(t, l, 3, append(row(1, 3), far...))
}

// The bound

func TestMuchIsTaken(t *testing.T) {
	l := oplog.New()
	for n := range 300000 { // far more than are there at any time
		if n%api.MaxOps == 0 {
			l.Cut(0)
		}
		if got, err := l.Add(api.Op{Request: n}); got != n%api.MaxOps+1 || err != api.OK {
			t.Fatalf("Add %d: %d, %v", n, got, err)
		}
	}
	if err := l.Join(0, make([]api.Op, 1<<20)); err != api.ErrFull {
		t.Errorf("Join of a million: %v", err)
	}
	if err := l.Replace(make([]api.Op, 1<<20), 1<<20); err != api.ErrFull {
		t.Errorf("Replace by a million: %v", err)
	}
	big := api.Op{Def: api.Def{Name: strings.Repeat("n", 1<<20), Steps: make([]api.Step, 1<<18)}}
	big.Def.Steps[1<<18-1].Wait = 5
	l.Cut(0)
	if n, err := l.Add(big); n != 1 || err != api.OK {
		t.Errorf("Add of a big one: %d, %v", n, err)
	}
	if got := l.Commit(1); len(got) != 1 || !oplog.Same(got[0], big) || oplog.Prefix(got, []api.Op{big}) != 1 {
		t.Error("a big one became another one")
	}
}
