package plan_test

import (
	"math/rand/v2"
	"slices"
	"strconv"
	"testing"

	"drover/api"
	"drover/def"
	"drover/plan"
)

// What the chapter says, plainly: each answer is looked for among all that it could be.

func plainPivot(d api.Def) int {
	first := 0
	for i := len(d.Steps); i > 0; i-- {
		if d.Steps[i-1].Pivot {
			first = i
		}
	}
	return first
}

func plainTries(d api.Def, step int) int {
	for i, s := range d.Steps {
		if i+1 == step && s.Retry >= 0 && s.Retry <= maxBudget {
			return s.Retry + 1
		}
	}
	return 0
}

// plainHit: the numbers of the steps that are hit.
func plainHit(d api.Def, hit []bool) map[int]bool {
	m := map[int]bool{}
	for i := range d.Steps {
		m[i+1] = i < len(hit) && hit[i]
	}
	return m
}

func plainDown(d api.Def, hit []bool, from int) int {
	greatest, is := 0, plainHit(d, hit)
	for i, s := range d.Steps {
		if i+1 <= from && is[i+1] && s.Undo {
			greatest = i + 1
		}
	}
	return greatest
}

func plainSealed(d api.Def, hit []bool) bool { return plainHit(d, hit)[plainPivot(d)] }

// plainSums counts each try of d, one by one, with its ticks: forward, and back.
func plainSums(d api.Def) (longest, commands int) {
	if _, err := def.Check(d); err != api.OK {
		return 0, 0
	}
	for _, back := range []bool{false, true} {
		for _, s := range d.Steps {
			for try := 0; try <= s.Retry && (!back || s.Undo); try++ {
				longest += s.Wait
				commands++
			}
		}
	}
	return longest, commands
}

// asPlain holds all that is told of d, with that hit, against what is told plainly, from all steps, and from none that there is.
func asPlain(t *testing.T, d api.Def, hit []bool) {
	t.Helper()
	pivotIs(t, d, plainPivot(d))
	sealedIs(t, d, hit, plainSealed(d, hit))
	for n := -2; n <= len(d.Steps)+3; n++ {
		triesAre(t, d, n, plainTries(d, n))
		downIs(t, d, hit, n, plainDown(d, hit, n))
	}
	longest, commands := plainSums(d)
	sumsAre(t, d, longest, commands)
	if t.Failed() {
		t.FailNow()
	}
}

// bits: so many bits of n, the lowest first.
func bits(n, count int) []bool {
	var l []bool
	for i := range count {
		l = append(l, n>>i&1 == 1)
	}
	return l
}

// Each way in which up to four steps may have Undo and be Pivots, with each list of hits that is as long, or one shorter or longer.
func TestAllShortDefinitions(t *testing.T) {
	for steps := range 5 {
		for form := range 1 << (2 * steps) {
			has := bits(form, 2*steps)
			d := named("a")
			for i := range steps {
				d.Steps = append(d.Steps, api.Step{Name: "s" + strconv.Itoa(i), Stub: 1, Retry: i, Wait: i + 1, Undo: has[2*i], Pivot: has[2*i+1]})
			}
			for count := max(0, steps-1); count <= steps+1; count++ {
				for hit := range 1 << count {
					asPlain(t, d, bits(hit, count))
				}
			}
		}
	}
}

// anyOf: mostly a number of these, at times one about their ends, or beyond all.
func anyOf(by *rand.Rand, least, most int) int {
	switch by.IntN(150) {
	case 0:
		return least - 1
	case 1:
		return most + 1
	case 2:
		return []int{low, high, far + least, -far}[by.IntN(4)]
	}
	return least + by.IntN(most-least+1)
}

// anyDef: a definition that mostly may be.
func anyDef(by *rand.Rand, steps int) api.Def {
	d := named("a")
	last := by.IntN(steps + 2)
	for i := range steps {
		s := api.Step{Name: "s" + strconv.Itoa(i), Stub: anyOf(by, 1, maxStubs), Retry: anyOf(by, 0, maxBudget), Wait: anyOf(by, 1, maxWait), Undo: i < last, Pivot: i == last}
		if by.IntN(80) == 0 {
			s.Undo = !s.Undo
		}
		if by.IntN(80) == 0 {
			s.Pivot = !s.Pivot
		}
		if by.IntN(80) == 0 {
			s.Name = []string{"s0", "", "S", "?"}[by.IntN(4)]
		}
		d.Steps = append(d.Steps, s)
	}
	return d
}

// anyHit: about as many as there are steps, mostly those ahead hit.
func anyHit(by *rand.Rand, steps int) []bool {
	l := make([]bool, max(0, steps+by.IntN(5)-2))
	ahead := by.IntN(steps + 2)
	for i := range l {
		l[i] = i < ahead != (by.IntN(6) == 0)
	}
	return l
}

func TestAnyDefinitions(t *testing.T) {
	may, mayNot, sealed := 0, 0, 0
	for seed := range uint64(200) {
		by := rand.New(rand.NewPCG(seed, 19))
		for range 50 {
			d := anyDef(by, by.IntN(maxSteps+2))
			hit := anyHit(by, len(d.Steps))
			asPlain(t, d, hit)
			if plan.Commands(d) > 0 {
				may++
			} else {
				mayNot++
			}
			if plan.Sealed(d, hit) {
				sealed++
			}
		}
	}
	if may < 1000 || mayNot < 1000 || sealed < 1000 {
		t.Errorf("%d may be, %d may not, %d are sealed", may, mayNot, sealed)
	}
}

// P14.3: asked from any step on, each one up to it that is hit and has Undo comes once, the greatest first.
func TestDownTellsEachOnceOfAny(t *testing.T) {
	told := 0
	for seed := range uint64(200) {
		by := rand.New(rand.NewPCG(seed, 20))
		for range 50 {
			d := anyDef(by, by.IntN(2*maxSteps))
			hit := anyHit(by, len(d.Steps))
			for from := -1; from <= len(d.Steps)+2; from++ {
				var want []int
				for i, s := range d.Steps {
					if i < from && i < len(hit) && hit[i] && s.Undo {
						want = append([]int{i + 1}, want...)
					}
				}
				got := goesDown(d, hit, from)
				if !slices.Equal(got, want) {
					t.Fatalf("down %+v, hit %v, from %d: %v, want %v", d, hit, from, got, want)
				}
				told += len(got)
			}
		}
	}
	if told < 10000 {
		t.Errorf("only %d were told", told)
	}
}

// A way back asks for no more than Commands says: each step forward as often as it may be tried, and each one that Down tells once more.
func TestCommandsAreTheForwardTriesAndThoseDown(t *testing.T) {
	for seed := range uint64(100) {
		by := rand.New(rand.NewPCG(seed, 21))
		for range 50 {
			d := anyDef(by, 1+by.IntN(maxSteps))
			if plan.Commands(d) == 0 {
				continue
			}
			all := slices.Repeat([]bool{true}, len(d.Steps))
			tries, ticks := 0, 0
			for i := range d.Steps {
				tries += plan.Tries(d, i+1)
				ticks += plan.Tries(d, i+1) * d.Steps[i].Wait
			}
			for _, n := range goesDown(d, all, len(d.Steps)) {
				tries += plan.Tries(d, n)
				ticks += plan.Tries(d, n) * d.Steps[n-1].Wait
			}
			sumsAre(t, d, ticks, tries)
		}
	}
}
