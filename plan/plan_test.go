package plan_test

import (
	"math"
	"slices"
	"strconv"
	"strings"
	"testing"

	"drover/api"
	"drover/plan"
)

// The signatures that the chapter lists.
var (
	_ func(api.Def) int              = plan.Pivot
	_ func(api.Def, int) int         = plan.Tries
	_ func(api.Def, []bool, int) int = plan.Down
	_ func(api.Def, []bool) bool     = plan.Sealed
	_ func(api.Def) int              = plan.Longest
	_ func(api.Def) int              = plan.Commands
)

// The limits, by their numbers.
const (
	maxName   = 16
	maxSteps  = 8
	maxStubs  = 4
	maxBudget = 9
	maxWait   = 99
)

const (
	low  = math.MinInt
	high = math.MaxInt
	far  = 1 << 32 // what is as much above another number is alike in its low half
)

func named(name string, steps ...api.Step) api.Def { return api.Def{Name: name, Steps: steps} }

// undone, pivot, behind: steps as they may stand ahead of the Pivot, as it, and behind it.
func undone(name string) api.Step { return api.Step{Name: name, Stub: 1, Wait: 10, Undo: true} }

func pivot(name string) api.Step { return api.Step{Name: name, Stub: 1, Wait: 10, Pivot: true} }

func behind(name string) api.Step { return api.Step{Name: name, Stub: 1, Wait: 10} }

// as: that step with another Retry and Wait.
func as(s api.Step, retry, wait int) api.Step {
	s.Retry, s.Wait = retry, wait
	return s
}

// drawn: a definition drawn by a letter a step: u has Undo, p is the Pivot, b is both, . is neither. Whether it may be is not looked at.
func drawn(letters string) api.Def {
	d := named("a")
	for i, c := range letters {
		d.Steps = append(d.Steps, api.Step{Name: "s" + strconv.Itoa(i), Stub: 1, Wait: 10, Undo: c == 'u' || c == 'b', Pivot: c == 'p' || c == 'b'})
	}
	return d
}

// hits: what is hit, drawn by a letter a step: x is hit.
func hits(letters string) []bool {
	var l []bool
	for _, c := range letters {
		l = append(l, c == 'x')
	}
	return l
}

func pivotIs(t *testing.T, d api.Def, want int) {
	t.Helper()
	if got := plan.Pivot(d); got != want {
		t.Errorf("Pivot(%+v): %d, want %d", d, got, want)
	}
}

func triesAre(t *testing.T, d api.Def, step, want int) {
	t.Helper()
	if got := plan.Tries(d, step); got != want {
		t.Errorf("Tries(%+v, %d): %d, want %d", d, step, got, want)
	}
}

func downIs(t *testing.T, d api.Def, hit []bool, from, want int) {
	t.Helper()
	if got := plan.Down(d, hit, from); got != want {
		t.Errorf("Down(%+v, %v, %d): %d, want %d", d, hit, from, got, want)
	}
}

func sealedIs(t *testing.T, d api.Def, hit []bool, want bool) {
	t.Helper()
	if got := plan.Sealed(d, hit); got != want {
		t.Errorf("Sealed(%+v, %v): %v", d, hit, got)
	}
}

// sumsAre: Longest and Commands of d.
func sumsAre(t *testing.T, d api.Def, longest, commands int) {
	t.Helper()
	if got, n := plan.Longest(d), plan.Commands(d); got != longest || n != commands {
		t.Errorf("%+v: Longest %d, Commands %d, want %d, %d", d, got, n, longest, commands)
	}
}

func TestTheChaptersExample(t *testing.T) {
	d := named("a", as(undone("b"), 2, 5))
	triesAre(t, d, 1, 3)
	sumsAre(t, d, 30, 6)
}

// strangers: numbers that are no step's of n.
func strangers(n int) []int {
	return []int{0, n + 1, n + 2, n + 9, -1, -2, -n, 63, 64, 65, 1<<8 + 1, 1<<16 + 1, 1 << 31, far, far + 1, far + 2, -far, -far + 1, 1 << 62, high, high - 1, low, low + 1}
}

// P14.1: Pivot

func TestPivot(t *testing.T) {
	for letters, want := range map[string]int{
		"": 0, "u": 0, ".": 0, "p": 1, "b": 1, "up": 2, "ub": 2, "p.": 1, "uup..": 3, "uuuuuuuu": 0, "uuuuuuup": 8, "p.......": 1, "uuup....": 4,
	} {
		pivotIs(t, drawn(letters), want)
	}
}

func TestTheFirstPivotCounts(t *testing.T) {
	for letters, want := range map[string]int{"pp": 1, "bp": 1, "pb": 1, "upp": 2, ".p.p": 2, "...bb": 4, "pppppppp": 1} {
		pivotIs(t, drawn(letters), want)
	}
}

func TestThePivotOfWhatMayNotBe(t *testing.T) {
	pivotIs(t, api.Def{}, 0)
	pivotIs(t, api.Def{Steps: []api.Step{{Pivot: true}}}, 1)
	pivotIs(t, api.Def{Name: "?", Steps: []api.Step{{}, {Name: "A", Stub: -1, Retry: low, Wait: high, Undo: true, Pivot: true}}}, 2)
	for n := range 100 {
		pivotIs(t, drawn(strings.Repeat("u", n)+"p.p"), n+1)
		pivotIs(t, drawn(strings.Repeat(".", n)), 0)
	}
}

// P14.1: Tries

func TestTries(t *testing.T) {
	for retry := range maxBudget + 1 {
		for _, s := range []api.Step{undone("b"), pivot("b"), {}, {Name: "?", Stub: low, Wait: low}, {Stub: high, Wait: high, Undo: true, Pivot: true}} {
			s.Retry = retry
			triesAre(t, named("a", s), 1, retry+1)
			triesAre(t, api.Def{Steps: []api.Step{{}, s}}, 2, retry+1)
		}
	}
}

func TestTriesOfEachStep(t *testing.T) {
	for n := range 20 { // more than there may be, too
		var d api.Def
		for i := range n {
			d.Steps = append(d.Steps, api.Step{Retry: (3*i + n) % 10})
		}
		for i := range n {
			triesAre(t, d, i+1, (3*i+n)%10+1)
		}
		for _, step := range strangers(n) {
			if step < 1 || step > n {
				triesAre(t, d, step, 0)
			}
		}
	}
}

func TestTriesOfARetryThatMayNotBe(t *testing.T) {
	for _, retry := range []int{-1, -2, -9, -10, maxBudget + 1, maxBudget + 2, 100, 1<<8 + 1, 1<<16 + 1, 1 << 31, far, far + 1, far + 9, -far, -far + 1, 1 << 62, high, high - 1, low, low + 1} {
		d := named("a", as(undone("b"), 3, 10), as(undone("c"), retry, 10), as(undone("d"), 4, 10))
		triesAre(t, d, 1, 4)
		triesAre(t, d, 2, 0)
		triesAre(t, d, 3, 5)
	}
}

// P14.1: Down

func TestDown(t *testing.T) {
	for _, c := range []struct {
		letters, hit string
		from, want   int
	}{
		{"uuu", "xxx", 3, 3}, {"uuu", "xxx", 2, 2}, {"uuu", "xxx", 1, 1}, {"uuu", "xxx", 0, 0},
		{"uuu", "xx ", 3, 2}, {"uuu", "x  ", 3, 1}, {"uuu", "   ", 3, 0}, {"uuu", "x x", 2, 1}, {"uuu", " xx", 1, 0}, {"uuu", "  x", 3, 3}, {"uuu", "  x", 2, 0},
		{"uup", "xxx", 3, 2}, {"uup", "xxx", 2, 2}, {"up.", "xxx", 3, 1}, {"p..", "xxx", 3, 0}, {"...", "xxx", 3, 0},
		{"u.u", "xxx", 2, 1}, {"u.u", "x x", 3, 3}, {"b.b", "xxx", 3, 3}, {"b.b", "xx ", 3, 1},
		{"", "", 0, 0}, {"", "xx", 2, 0}, {"u", "x", 1, 1}, {"u", " ", 1, 0},
		{"uuuuuuuu", "xxxxxxxx", 8, 8}, {"uuuuuuuu", "x       ", 8, 1}, {"uuuuuuup", "xxxxxxxx", 8, 7},
	} {
		downIs(t, drawn(c.letters), hits(c.hit), c.from, c.want)
	}
}

func TestDownFromWhereNoStepIs(t *testing.T) {
	d := drawn("uup")
	for _, from := range strangers(3) {
		want := 0
		if from > 3 {
			want = 2 // the last one of those that there are
		}
		downIs(t, d, hits("xxx"), from, want)
		downIs(t, d, hits("xxxxx"), from, want)
		downIs(t, d, hits("xx"), from, want)
		downIs(t, d, hits("   xx"), from, 0)
		downIs(t, api.Def{}, hits("xxx"), from, 0)
	}
}

func TestWhatHitLacksIsNotHit(t *testing.T) {
	d := drawn("uuuu")
	for n := range 4 {
		for from := n; from <= 6; from++ {
			downIs(t, d, hits(strings.Repeat("x", n)), from, n)
		}
	}
	for _, l := range [][]bool{nil, {}, make([]bool, 0, 9), hits("xxxx")[:0]} {
		downIs(t, d, l, 4, 0)
		sealedIs(t, drawn("pppp"), l, false)
	}
	room := hits("xxxx") // what lies behind a list's end is not of it
	downIs(t, d, room[:2], 4, 2)
	sealedIs(t, drawn("uup."), room[:2], false)
	sealedIs(t, drawn("uup."), room[:3], true)
}

func TestHitsThatNoStepHas(t *testing.T) {
	for _, more := range []string{"x", "xx", "xxxxxxxxx", strings.Repeat("x", 1000)} {
		downIs(t, drawn("uu"), hits("x "+more), 3, 1)
		downIs(t, drawn("uu"), hits("  "+more), 10, 0)
		sealedIs(t, drawn("up"), hits("x "+more), false)
		sealedIs(t, drawn("uu"), hits("xx"+more), false)
		sealedIs(t, drawn("up"), hits(" x"+more), true)
	}
}

// P14.1: Sealed

func TestSealed(t *testing.T) {
	for _, c := range []struct {
		letters, hit string
		want         bool
	}{
		{"p", "x", true}, {"p", " ", false}, {"p", "", false}, {"b", "x", true},
		{"u", "x", false}, {"uu", "xx", false}, {"...", "xxx", false}, {"", "", false}, {"", "x", false},
		{"up", "xx", true}, {"up", " x", true}, {"up", "x ", false}, {"up", "x", false},
		{"up.", "xx ", true}, {"up.", "x x", false}, {"up.", "xxx", true}, {"p..", " xx", false},
		{"uuuuuuup", "xxxxxxxx", true}, {"uuuuuuup", "xxxxxxx ", false}, {"uuuuuuup", "       x", true}, {"uuuuuuuu", "xxxxxxxx", false},
		{"pp", "x ", true}, {"pp", " x", false}, {".pp", "  x", false}, {".pp", " x ", true}, // the first Pivot counts
	} {
		sealedIs(t, drawn(c.letters), hits(c.hit), c.want)
	}
}

// P14.2

// Both sums of one step, of each Retry and Wait that may be, counted try by try.
func TestSumsOfOneStep(t *testing.T) {
	for retry := range maxBudget + 1 {
		for wait := 1; wait <= maxWait; wait++ {
			ticks, tries := 0, 0
			for range retry + 1 {
				ticks += wait
				tries++
			}
			sumsAre(t, named("a", as(undone("b"), retry, wait)), 2*ticks, 2*tries)
			sumsAre(t, named("a", as(pivot("b"), retry, wait)), ticks, tries)
			sumsAre(t, named("a", undone("b"), as(pivot("c"), retry, wait)), 20+ticks, 2+tries)
			sumsAre(t, named("a", pivot("b"), as(behind("c"), retry, wait)), 10+ticks, 1+tries)
		}
	}
}

func TestSumsOfAllSteps(t *testing.T) {
	sumsAre(t, named("pay", undone("hold"), as(pivot("ship"), 0, 5)), 25, 3)
	sumsAre(t, named("a", as(undone("b"), 1, 2), as(undone("c"), 2, 3), as(pivot("d"), 3, 4), as(behind("e"), 4, 5)), 2*2*2+2*3*3+4*4+5*5, 2*2+2*3+4+5)
	sumsAre(t, named("a", as(pivot("b"), 9, 99), as(behind("c"), 0, 1)), 991, 11)
	all := named("a")
	for n := 1; n <= maxSteps; n++ {
		all.Steps = append(all.Steps, as(undone("s"+strconv.Itoa(n)), maxBudget, maxWait))
		sumsAre(t, all, n*2*10*99, n*2*10)
		last := as(pivot("last"), maxBudget, maxWait)
		sumsAre(t, named("a", append(slices.Clone(all.Steps[:n-1]), last)...), (2*n-1)*10*99, (2*n-1)*10)
	}
	least := named("a", as(pivot("p"), 0, 1))
	for n := 1; n <= maxSteps; n++ {
		sumsAre(t, least, n, n)
		least.Steps = append(least.Steps, as(behind("s"+strconv.Itoa(n)), 0, 1))
	}
	sumsAre(t, least, 0, 0) // more than there may be
}

func TestStubsAndNamesSayNothingOfSums(t *testing.T) {
	for stub := 1; stub <= maxStubs; stub++ {
		for _, name := range []string{"a", "hold-2", "saga", strings.Repeat("z", maxName)} {
			s := as(undone(name), 3, 7)
			s.Stub = stub
			sumsAre(t, named(name, s), 56, 8)
		}
	}
}

func TestSumsOfWhatMayNotBe(t *testing.T) {
	for _, d := range []api.Def{
		{}, named("a"), {Name: "a", Steps: []api.Step{}}, named("", undone("b")), named("A", undone("b")), named(strings.Repeat("z", maxName+1), undone("b")),
		named("a", undone("")), named("a", undone("B")), named("a", undone(strings.Repeat("z", maxName+1))), named("a", undone("b"), api.Step{}),
		named("a", undone("b"), undone("b")), named("a", undone("b"), pivot("b")), named("a", pivot("b"), pivot("c")), named("a", pivot("b"), behind("c"), pivot("d")),
		named("a", behind("b")), named("a", undone("b"), behind("c")), named("a", pivot("b"), undone("c")), named("a", behind("b"), pivot("c")),
		drawn("b"), drawn("ub"), drawn("uuuuuuuuu"), drawn("uuuuuuuup"), drawn("p........"), drawn("uu.p"),
	} {
		sumsAre(t, d, 0, 0)
	}
}

func TestSumsOfNumbersThatMayNotBe(t *testing.T) {
	for _, c := range []struct {
		least, most int
		set         func(*api.Step, int)
	}{
		{1, maxStubs, func(s *api.Step, n int) { s.Stub = n }},
		{0, maxBudget, func(s *api.Step, n int) { s.Retry = n }},
		{1, maxWait, func(s *api.Step, n int) { s.Wait = n }},
	} {
		for _, n := range []int{c.least - 1, c.least - 2, c.most + 1, c.most + 2, -1, -9, 1000000, 1 << 31, far, far + 1, far + 2, -far, -far + 1, 1<<8 + 1, 1<<16 + 1, 1 << 62, high, high - 1, low, low + 1} {
			for place := range 3 {
				d := drawn("uup")
				c.set(&d.Steps[place], n)
				sumsAre(t, d, 0, 0)
			}
		}
	}
}

// P14.3

// goesDown: what Down tells, from that step on, asked again from one less.
func goesDown(d api.Def, hit []bool, from int) []int {
	var l []int
	for n := plan.Down(d, hit, from); n > 0; n = plan.Down(d, hit, n-1) {
		l = append(l, n)
	}
	return l
}

func TestDownTellsEachOnce(t *testing.T) {
	for _, c := range []struct {
		letters, hit string
		want         []int
	}{
		{"uuuuuuuu", "xxxxxxxx", []int{8, 7, 6, 5, 4, 3, 2, 1}},
		{"uuuuuuuu", "x x x x ", []int{7, 5, 3, 1}},
		{"uuuuup..", "xxxxxxxx", []int{5, 4, 3, 2, 1}},
		{"uuuuup..", " x  x", []int{5, 2}},
		{"uuuuup..", "     xxx", nil},
		{"u.bp.u", "xxxxxx", []int{6, 3, 1}},
		{"p.......", "xxxxxxxx", nil},
		{"", "xxxxxxxx", nil},
	} {
		for _, from := range []int{8, 9, far, high} {
			if got := goesDown(drawn(c.letters), hits(c.hit), from); !slices.Equal(got, c.want) {
				t.Errorf("down %s, hit %q, from %d: %v, want %v", c.letters, c.hit, from, got, c.want)
			}
		}
	}
}
