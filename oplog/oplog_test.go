package oplog_test

import (
	"math"
	"math/rand/v2"
	"reflect"
	"slices"
	"strconv"
	"testing"

	"drover/api"
	"drover/oplog"
)

// The signatures that the chapter lists.
var (
	_ func() *oplog.Log                         = oplog.New
	_ func(*oplog.Log, api.Op) (int, api.Errno) = (*oplog.Log).Add
	_ func(*oplog.Log, int) (api.Op, bool)      = (*oplog.Log).At
	_ func(*oplog.Log) int                      = (*oplog.Log).Last
	_ func(*oplog.Log) int                      = (*oplog.Log).Committed
	_ func(*oplog.Log, int) []api.Op            = (*oplog.Log).Commit
	_ func(*oplog.Log, int) api.Errno           = (*oplog.Log).Cut
	_ func(*oplog.Log, int) []api.Op            = (*oplog.Log).Since
	_ func(*oplog.Log, int, []api.Op) api.Errno = (*oplog.Log).Join
	_ func(*oplog.Log, []api.Op, int) api.Errno = (*oplog.Log).Replace
	_ func(api.Op, api.Op) bool                 = oplog.Same
	_ func([]api.Op, []api.Op) int              = oplog.Prefix
)

// one: an operation with something in each field, made anew by each call; another n is another one in all but its bools.
func one(n int) api.Op {
	name := "o" + strconv.Itoa(n)
	return api.Op{
		Kind: n, Client: n + 1, Request: n + 2, Saga: n + 3, Step: n + 4, Try: n + 5, Back: true, Good: true,
		Def: api.Def{Name: name, Steps: []api.Step{
			{Name: name + "a", Stub: n + 6, Retry: n + 7, Wait: n + 8, Undo: true, Pivot: true},
			{Name: name + "b", Stub: n + 9, Retry: n + 10, Wait: n + 11, Undo: true, Pivot: true},
		}},
	}
}

// row: the operations from to to, as one tells them.
func row(from, to int) []api.Op {
	var l []api.Op
	for n := from; n <= to; n++ {
		l = append(l, one(n))
	}
	return l
}

// small: so many operations that have a number alone.
func small(many int) []api.Op {
	l := make([]api.Op, many)
	for i := range l {
		l[i].Request = i + 1
	}
	return l
}

// alike holds two operations against each other by the language's own means.
func alike(a, b api.Op) bool {
	x, y := a.Def.Steps, b.Def.Steps
	a.Def.Steps, b.Def.Steps = nil, nil
	return reflect.DeepEqual(a, b) && slices.Equal(x, y)
}

func allAlike(a, b []api.Op) bool { return slices.EqualFunc(a, b, alike) }

// filled: a Log of the operations from 1 to last, of which so many are committed.
func filled(t *testing.T, last, committed int) *oplog.Log {
	t.Helper()
	l := oplog.New()
	for n := 1; n <= last; n++ {
		if got, err := l.Add(one(n)); got != n || err != api.OK {
			t.Fatalf("Add %d: %d, %v", n, got, err)
		}
	}
	l.Commit(committed)
	holds(t, l, committed, row(1, last))
	return l
}

// full: a Log of as many operations as may be, of which so many are committed.
func full(t *testing.T, committed int) *oplog.Log {
	t.Helper()
	l := oplog.New()
	for i, o := range small(api.MaxOps) {
		if n, err := l.Add(o); n != i+1 || err != api.OK {
			t.Fatalf("Add %d: %d, %v", i+1, n, err)
		}
	}
	l.Commit(committed)
	return l
}

// holds: are the Log's operations those that are wanted, and so many committed, by whatever call tells it?
func holds(t *testing.T, l *oplog.Log, committed int, want []api.Op) {
	t.Helper()
	if l.Last() != len(want) || l.Committed() != committed {
		t.Fatalf("Last is %d, Committed %d, want %d, %d", l.Last(), l.Committed(), len(want), committed)
	}
	for n := -1; n <= len(want)+1; n++ {
		o, ok := l.At(n)
		if there := n >= 1 && n <= len(want); ok != there || there && !alike(o, want[n-1]) || !there && !alike(o, api.Op{}) {
			t.Fatalf("At(%d): %v, %v; there are %v", n, o, ok, want)
		}
	}
	if got := l.Since(0); !allAlike(got, want) {
		t.Fatalf("Since(0): %v, want %v", got, want)
	}
}

// ends: numbers that no Log has behind it.
func ends() []int {
	return []int{math.MaxInt, math.MaxInt - 1, 1 << 40, 1<<32 + 1, 1 << 32, 1 << 31}
}

// lows: numbers below 0.
func lows() []int {
	return []int{math.MinInt, math.MinInt + 1, -1 << 40, -1<<32 + 1, -1 << 31, -2, -1}
}

// states tells of Logs of a few operations, each with how many there are and how many are committed.
func states(most int, tell func(last, committed int)) {
	for last := range most + 1 {
		for committed := range last + 1 {
			tell(last, committed)
		}
	}
}

// P6.1

func TestNew(t *testing.T) {
	l := oplog.New()
	if l == nil {
		t.Fatal("New is nil")
	}
	holds(t, l, 0, nil)
	for _, n := range append(append(ends(), lows()...), 0, 1) {
		if got := l.Commit(n); len(got) != 0 {
			t.Errorf("Commit(%d) of an empty Log: %v", n, got)
		}
		if got := l.Since(n); len(got) != 0 {
			t.Errorf("Since(%d) of an empty Log: %v", n, got)
		}
	}
	holds(t, l, 0, nil)
}

func TestTheChaptersExample(t *testing.T) {
	l := oplog.New()
	l.Add(one(1))
	l.Add(one(2))
	if got := l.Commit(1); !allAlike(got, row(1, 1)) {
		t.Errorf("Commit(1): %v", got)
	}
	if err := l.Cut(0); err != api.ErrArg {
		t.Errorf("Cut(0): %v", err)
	}
	if err := l.Join(1, row(3, 4)); err != api.OK || l.Last() != 3 {
		t.Errorf("Join(1, x y): %v, Last %d", err, l.Last())
	}
	holds(t, l, 1, []api.Op{one(1), one(3), one(4)})
}

func TestAddCounts(t *testing.T) {
	l := oplog.New()
	for n := 1; n <= 60; n++ {
		if got, err := l.Add(one(n)); got != n || err != api.OK {
			t.Fatalf("Add %d: %d, %v", n, got, err)
		}
		holds(t, l, 0, row(1, n))
	}
}

func TestAddTakesAnyOperation(t *testing.T) {
	l := oplog.New()
	want := []api.Op{
		{}, {Kind: api.OpStart}, {Kind: -1}, {Kind: math.MaxInt, Client: math.MinInt, Request: math.MinInt},
		{Def: api.Def{Name: "\xff\x00", Steps: []api.Step{}}}, {Def: api.Def{Steps: make([]api.Step, 50)}}, one(1), one(1),
	}
	for i, o := range want {
		if n, err := l.Add(o); n != i+1 || err != api.OK {
			t.Errorf("Add(%v): %d, %v", o, n, err)
		}
	}
	holds(t, l, 0, want)
}

func TestThereIsRoomForSoManyAndNoMore(t *testing.T) {
	for _, committed := range []int{0, 1, api.MaxOps - 1, api.MaxOps} {
		l := full(t, committed)
		for range 3 {
			if n, err := l.Add(one(1)); n != 0 || err != api.ErrFull {
				t.Errorf("Add behind %d: %d, %v", api.MaxOps, n, err)
			}
		}
		holds(t, l, committed, small(api.MaxOps))
	}
	l := full(t, 5)
	l.Cut(api.MaxOps - 1)
	if n, err := l.Add(one(7)); n != api.MaxOps || err != api.OK {
		t.Errorf("Add behind Cut: %d, %v", n, err)
	}
	if n, err := l.Add(one(8)); n != 0 || err != api.ErrFull {
		t.Errorf("Add behind Cut and Add: %d, %v", n, err)
	}
	holds(t, l, 5, append(small(api.MaxOps-1), one(7)))
}

func TestAtTellsNothingWhereThereIsNone(t *testing.T) {
	for _, last := range []int{0, 1, 5} {
		l := filled(t, last, last/2)
		for _, n := range append(append(ends(), lows()...), 0, last+1) {
			if o, ok := l.At(n); ok || !alike(o, api.Op{}) {
				t.Errorf("At(%d) of %d: %v, %v", n, last, o, ok)
			}
		}
	}
}

func TestCommitTellsWhatBecameCommitted(t *testing.T) {
	states(6, func(last, committed int) {
		for _, n := range append(append(ends(), lows()...), 0, 1, 2, 3, 4, 5, 6, 7, 8) {
			l := filled(t, last, committed)
			to := max(committed, min(n, last))
			if got := l.Commit(n); !allAlike(got, row(committed+1, to)) {
				t.Fatalf("Commit(%d) of %d, %d of them committed: %v", n, last, committed, got)
			}
			holds(t, l, to, row(1, last))
			if got := l.Commit(n); len(got) != 0 {
				t.Fatalf("Commit(%d) again: %v", n, got)
			}
			l.Add(one(last + 1)) // which is not committed, though n may be above it
			holds(t, l, to, row(1, last+1))
		}
	})
}

func TestSince(t *testing.T) {
	states(6, func(last, committed int) {
		l := filled(t, last, committed)
		for _, n := range append(append(ends(), lows()...), 0, 1, 2, 3, 4, 5, 6, 7, 8) {
			if got := l.Since(n); !allAlike(got, row(1, last)[min(max(n, 0), last):]) {
				t.Fatalf("Since(%d) of %d: %v", n, last, got)
			}
		}
		holds(t, l, committed, row(1, last))
	})
}

// changed: one(1), each time another one in one thing.
func changed() []api.Op {
	var l []api.Op
	another := func(change func(o *api.Op)) {
		o := one(1)
		change(&o)
		l = append(l, o)
	}
	for _, by := range []int{1, -1, 1 << 32, math.MinInt} {
		number := func(of func(o *api.Op) *int) { another(func(o *api.Op) { *of(o) ^= by }) }
		number(func(o *api.Op) *int { return &o.Kind })
		number(func(o *api.Op) *int { return &o.Client })
		number(func(o *api.Op) *int { return &o.Request })
		number(func(o *api.Op) *int { return &o.Saga })
		number(func(o *api.Op) *int { return &o.Step })
		number(func(o *api.Op) *int { return &o.Try })
		for i := range 2 {
			number(func(o *api.Op) *int { return &o.Def.Steps[i].Stub })
			number(func(o *api.Op) *int { return &o.Def.Steps[i].Retry })
			number(func(o *api.Op) *int { return &o.Def.Steps[i].Wait })
		}
	}
	another(func(o *api.Op) { o.Back = false })
	another(func(o *api.Op) { o.Good = false })
	for _, name := range []string{"", "x", "o2", "O1", "o1\x00"} {
		another(func(o *api.Op) { o.Def.Name = name })
		another(func(o *api.Op) { o.Def.Steps[0].Name = name })
		another(func(o *api.Op) { o.Def.Steps[1].Name = name })
	}
	for i := range 2 {
		another(func(o *api.Op) { o.Def.Steps[i].Undo = false })
		another(func(o *api.Op) { o.Def.Steps[i].Pivot = false })
		another(func(o *api.Op) { o.Def.Steps = o.Def.Steps[:i] })
	}
	another(func(o *api.Op) { o.Def.Steps = nil })
	another(func(o *api.Op) { o.Def.Steps = o.Def.Steps[1:] })
	another(func(o *api.Op) { o.Def.Steps = append(o.Def.Steps, api.Step{}) })
	another(func(o *api.Op) { slices.Reverse(o.Def.Steps) })
	return l
}

// bare: one(1) without steps, with what is handed in instead.
func bare(none []api.Step) api.Op {
	o := one(1)
	o.Def.Steps = none
	return o
}

func TestSame(t *testing.T) {
	for n := range 4 {
		if !oplog.Same(one(n), one(n)) || oplog.Same(one(n), one(n+1)) {
			t.Errorf("operation %d is not the Same as itself alone", n)
		}
	}
	for _, o := range changed() {
		if oplog.Same(o, one(1)) || oplog.Same(one(1), o) {
			t.Errorf("%v is the Same as %v", o, one(1))
		}
		if !oplog.Same(o, o) {
			t.Errorf("%v is not the Same as itself", o)
		}
	}
	if !oplog.Same(bare(nil), bare([]api.Step{})) || !oplog.Same(bare([]api.Step{}), bare(nil)) || !oplog.Same(api.Op{}, api.Op{}) {
		t.Error("nothing is not the Same as an empty list of steps")
	}
	if oplog.Same(api.Op{}, bare(nil)) || oplog.Same(bare(nil), bare([]api.Step{{}})) {
		t.Error("an operation is the Same as one that has more")
	}
}

func TestPrefix(t *testing.T) {
	for a := range 6 {
		for b := range 6 {
			if got := oplog.Prefix(row(1, a), row(1, b)); got != min(a, b) {
				t.Errorf("Prefix of the first %d and the first %d: %d", a, b, got)
			}
			for at := range a {
				x := row(1, a)
				x[at] = one(99) // those behind it are the Same again
				want := min(at, b)
				if got := oplog.Prefix(x, row(1, b)); got != want {
					t.Errorf("Prefix of %d, another one at %d, and %d: %d", a, at, b, got)
				}
				if got := oplog.Prefix(row(1, b), x); got != want {
					t.Errorf("Prefix of %d, and %d, another one at %d: %d", b, a, at, got)
				}
			}
		}
	}
	for _, o := range changed() {
		if got := oplog.Prefix([]api.Op{one(0), o, one(2)}, row(0, 2)); got != 1 {
			t.Errorf("Prefix of what is another one in the second place, %v: %d", o, got)
		}
	}
	if got := oplog.Prefix([]api.Op{bare(nil), {}}, []api.Op{bare([]api.Step{}), {}, {}}); got != 2 {
		t.Errorf("Prefix of no steps and empty lists of them: %d", got)
	}
	if oplog.Prefix(nil, []api.Op{}) != 0 || oplog.Prefix([]api.Op{{}}, nil) != 0 {
		t.Error("Prefix of nothing is something")
	}
}

// P6.2

func TestCut(t *testing.T) {
	states(6, func(last, committed int) {
		for _, n := range append(append(ends(), lows()...), 0, 1, 2, 3, 4, 5, 6, 7, 8) {
			l := filled(t, last, committed)
			want, left := api.OK, min(n, last)
			if n < committed {
				want, left = api.ErrArg, last
			}
			if err := l.Cut(n); err != want {
				t.Fatalf("Cut(%d) of %d, %d of them committed: %v, want %v", n, last, committed, err, want)
			}
			holds(t, l, committed, row(1, left))
			if got, err := l.Add(one(50)); got != left+1 || err != api.OK {
				t.Fatalf("Add behind Cut(%d): %d, %v", n, got, err)
			}
			holds(t, l, committed, append(row(1, left), one(50)))
		}
	})
}

func TestJoin(t *testing.T) {
	states(5, func(last, committed int) {
		for _, n := range append(append(ends(), lows()...), 0, 1, 2, 3, 4, 5, 6, 7) {
			for many := range 5 {
				l := filled(t, last, committed)
				want, there := api.OK, row(1, last)
				if n < committed || n > last {
					want = api.ErrArg
				} else {
					there = append(row(1, n), row(50, 49+many)...)
				}
				if err := l.Join(n, row(50, 49+many)); err != want {
					t.Fatalf("Join(%d) of %d, %d of them committed, with %d: %v, want %v", n, last, committed, many, err, want)
				}
				holds(t, l, committed, there)
			}
		}
	})
}

func TestJoinedOnesAreCommittedLater(t *testing.T) {
	l := filled(t, 4, 2)
	l.Join(2, row(10, 13))
	if got := l.Commit(5); !allAlike(got, row(10, 12)) {
		t.Errorf("Commit(5): %v", got)
	}
	if err := l.Join(4, nil); err != api.ErrArg {
		t.Errorf("Join(4) of five that are committed: %v", err)
	}
	if err := l.Join(5, nil); err != api.OK {
		t.Errorf("Join(5) of five that are committed: %v", err)
	}
	holds(t, l, 5, append(row(1, 2), row(10, 12)...))
}

func TestJoinTakesAsManyAsThereIsRoom(t *testing.T) {
	for _, n := range []int{0, 1, 3} {
		l := filled(t, 3, 0)
		if err := l.Join(n, small(api.MaxOps-n+1)); err != api.ErrFull {
			t.Errorf("Join(%d) of one too many: %v", n, err)
		}
		holds(t, l, 0, row(1, 3))
		if err := l.Join(n, small(api.MaxOps-n)); err != api.OK {
			t.Errorf("Join(%d) of as many as there may be: %v", n, err)
		}
		holds(t, l, 0, append(row(1, n), small(api.MaxOps-n)...))
	}
	l := full(t, 7)
	if err := l.Join(api.MaxOps, small(1)); err != api.ErrFull {
		t.Errorf("Join behind all of one more: %v", err)
	}
	if err := l.Join(api.MaxOps, nil); err != api.OK {
		t.Errorf("Join behind all of none: %v", err)
	}
	if err := l.Join(7, small(api.MaxOps-6)); err != api.ErrFull {
		t.Errorf("Join behind seven of one too many: %v", err)
	}
	holds(t, l, 7, small(api.MaxOps))
}

// replaced: what Replace answers of a Log of so many that are committed, if the first same of the many that it is handed are the Same.
func replaced(committed, many, same, commit int) api.Errno {
	if commit < committed || commit > many || same < min(committed, many) {
		return api.ErrArg
	}
	return api.OK
}

func TestReplace(t *testing.T) {
	states(4, func(last, committed int) {
		for many := range 6 {
			for same := range min(many, last) + 1 {
				ops := append(row(1, same), row(50+same, 49+many)...)
				for _, commit := range append(append(ends(), lows()...), 0, 1, 2, 3, 4, 5, 6) {
					l := filled(t, last, committed)
					want := replaced(committed, many, same, commit)
					if err := l.Replace(ops, commit); err != want {
						t.Fatalf("Replace of %d, %d of them committed, by %d, %d of them the Same, commit %d: %v, want %v", last, committed, many, same, commit, err, want)
					}
					if want != api.OK {
						holds(t, l, committed, row(1, last))
						continue
					}
					holds(t, l, commit, ops)
				}
			}
		}
	})
}

func TestReplaceHoldsEachThatIsCommittedAgainstWhatThereIs(t *testing.T) {
	for at := range 4 {
		for _, o := range append(changed(), api.Op{}) {
			l := oplog.New()
			was := slices.Repeat([]api.Op{one(1)}, 4)
			l.Replace(was, 3)
			ops := slices.Clone(was)
			ops[at] = o
			want := api.ErrArg
			if at == 3 {
				want = api.OK
				was = ops
			}
			if err := l.Replace(ops, 3); err != want {
				t.Errorf("Replace by %v at %d: %v, want %v", o, at, err, want)
			}
			holds(t, l, 3, was)
		}
	}
	l := oplog.New()
	l.Replace([]api.Op{bare(nil), bare([]api.Step{})}, 2)
	if err := l.Replace([]api.Op{bare([]api.Step{}), bare(nil), one(2)}, 3); err != api.OK {
		t.Errorf("Replace by empty lists of steps and none: %v", err)
	}
	holds(t, l, 3, []api.Op{bare(nil), bare(nil), one(2)})
}

func TestReplaceTakesAsManyAsThereMayBe(t *testing.T) {
	l := filled(t, 3, 0)
	if err := l.Replace(small(api.MaxOps+1), 2); err != api.ErrFull {
		t.Errorf("Replace by one too many: %v", err)
	}
	holds(t, l, 0, row(1, 3))
	if err := l.Replace(small(api.MaxOps), api.MaxOps-1); err != api.OK {
		t.Errorf("Replace by as many as there may be: %v", err)
	}
	holds(t, l, api.MaxOps-1, small(api.MaxOps))
	if err := l.Replace(small(api.MaxOps-1), api.MaxOps-1); err != api.OK {
		t.Errorf("Replace by one less: %v", err)
	}
	holds(t, l, api.MaxOps-1, small(api.MaxOps-1))
}

func TestCommitTellsNotWhatReplaceCommitted(t *testing.T) {
	l := filled(t, 3, 1)
	l.Replace(row(1, 5), 3)
	if got := l.Commit(3); len(got) != 0 {
		t.Errorf("Commit(3) behind Replace: %v", got)
	}
	if got := l.Commit(9); !allAlike(got, row(4, 5)) {
		t.Errorf("Commit(9) behind Replace: %v", got)
	}
	holds(t, l, 5, row(1, 5))
}

// P6.1 and P6.2: of nothing

func TestOfALogThatNoCallMade(t *testing.T) {
	var zero oplog.Log
	numbers := append(append(ends(), lows()...), 0, 1, 2)
	for _, l := range []*oplog.Log{nil, &zero, new(oplog.Log)} {
		for _, n := range numbers {
			if got, err := l.Add(one(1)); got != 0 || err != api.ErrMade {
				t.Errorf("Add: %d, %v", got, err)
			}
			if o, ok := l.At(n); ok || !alike(o, api.Op{}) {
				t.Errorf("At(%d): %v, %v", n, o, ok)
			}
			if got := l.Commit(n); len(got) != 0 {
				t.Errorf("Commit(%d): %v", n, got)
			}
			if got := l.Since(n); len(got) != 0 {
				t.Errorf("Since(%d): %v", n, got)
			}
			if err := l.Cut(n); err != api.ErrMade {
				t.Errorf("Cut(%d): %v", n, err)
			}
			for _, ops := range [][]api.Op{nil, row(1, 2), small(api.MaxOps + 1)} {
				if err := l.Join(n, ops); err != api.ErrMade {
					t.Errorf("Join(%d) of %d: %v", n, len(ops), err)
				}
				if err := l.Replace(ops, n); err != api.ErrMade {
					t.Errorf("Replace by %d, %d: %v", len(ops), n, err)
				}
			}
			if l.Last() != 0 || l.Committed() != 0 {
				t.Errorf("Last: %d, Committed: %d", l.Last(), l.Committed())
			}
		}
	}
}

// P6.3

// slow is what the chapter says, each operation a number, as one tells it.
type slow struct {
	nums      []int
	committed int
}

func (s *slow) join(n int, nums []int) api.Errno {
	if n < s.committed || n > len(s.nums) {
		return api.ErrArg
	}
	s.nums = append(slices.Clone(s.nums[:n]), nums...)
	return api.OK
}

func (s *slow) cut(n int) api.Errno {
	if n < s.committed {
		return api.ErrArg
	}
	s.nums = slices.Clone(s.nums[:min(n, len(s.nums))])
	return api.OK
}

func (s *slow) replace(nums []int, commit int) api.Errno {
	if commit < s.committed || commit > len(nums) || !slices.Equal(nums[:s.committed], s.nums[:s.committed]) {
		return api.ErrArg
	}
	s.nums, s.committed = slices.Clone(nums), commit
	return api.OK
}

func (s *slow) commit(n int) []int {
	was := s.committed
	s.committed = max(was, min(n, len(s.nums)))
	return s.nums[was:s.committed]
}

func opsOf(nums []int) []api.Op {
	var l []api.Op
	for _, n := range nums {
		l = append(l, one(n))
	}
	return l
}

// anyNums: a few numbers, at times such that they begin as those that there are.
func anyNums(by *rand.Rand, s *slow) []int {
	var l []int
	if by.IntN(4) > 0 {
		l = slices.Clone(s.nums[:by.IntN(len(s.nums)+1)])
	}
	for range by.IntN(5) {
		l = append(l, by.IntN(9))
	}
	return l
}

// step does one thing to both, by chance, and holds what they answer against each other.
func step(t *testing.T, by *rand.Rand, l *oplog.Log, s *slow) {
	t.Helper()
	n := by.IntN(len(s.nums)+4) - 2
	switch by.IntN(6) {
	case 0, 1:
		x := by.IntN(9)
		s.nums = append(s.nums, x)
		if got, err := l.Add(one(x)); got != len(s.nums) || err != api.OK {
			t.Fatalf("Add: %d, %v, want %d", got, err, len(s.nums))
		}
	case 2:
		n = by.IntN(len(s.nums)+2) / 2 // else all would soon be committed
		if got, want := l.Commit(n), opsOf(s.commit(n)); !allAlike(got, want) {
			t.Fatalf("Commit(%d): %v, want %v", n, got, want)
		}
	case 3:
		if err, want := l.Cut(n), s.cut(n); err != want {
			t.Fatalf("Cut(%d): %v, want %v", n, err, want)
		}
	case 4:
		nums := anyNums(by, &slow{})
		if err, want := l.Join(n, opsOf(nums)), s.join(n, nums); err != want {
			t.Fatalf("Join(%d, %v): %v, want %v", n, nums, err, want)
		}
	case 5:
		nums := anyNums(by, s)
		if err, want := l.Replace(opsOf(nums), n), s.replace(nums, n); err != want {
			t.Fatalf("Replace(%v, %d): %v, want %v", nums, n, err, want)
		}
	}
	holds(t, l, s.committed, opsOf(s.nums))
}

func TestAnyCallsAreAsTheChapterSays(t *testing.T) {
	for seed := range uint64(150) {
		by := rand.New(rand.NewPCG(seed, 6))
		l, s := oplog.New(), &slow{}
		for range 80 {
			step(t, by, l, s)
		}
	}
}

func TestWhatIsCommittedStays(t *testing.T) {
	for seed := range uint64(60) {
		by := rand.New(rand.NewPCG(seed, 7))
		l := oplog.New()
		var stays []api.Op // what was committed, from the first time on
		for range 150 {
			n := by.IntN(2*len(stays) + 4)
			ops := opsOf(anyNums(by, &slow{}))
			switch by.IntN(6) {
			case 0:
				l.Commit(n)
			case 1:
				l.Cut(n)
			case 2:
				l.Join(n, ops)
			case 3:
				l.Replace(ops, n)
			case 4:
				l.Replace(append(l.Since(0), ops...), n)
			default:
				l.Add(one(n))
			}
			if got := l.Since(0); l.Committed() < len(stays) || l.Committed() > len(got) || !allAlike(got[:len(stays)], stays) {
				t.Fatalf("of %v, %d of them committed, the first were %v", got, l.Committed(), stays)
			}
			stays = l.Since(0)[:l.Committed()]
		}
		if len(stays) == 0 {
			t.Errorf("seed %d: nothing was committed", seed)
		}
	}
}
