package plan_test

import (
	"slices"
	"strings"
	"testing"

	"drover/api"
	"drover/plan"
)

// The rules that hold everywhere, P1 and the bound, for this package. (R2: no call answers an Errno; R5 speaks of objects: there are none here.)

// full: a definition with all that one may have.
func full() api.Def {
	return named("pay-2", as(undone("hold"), 2, 3), as(undone("charge"), 0, 99), as(pivot("ship"), 9, 1), as(behind("tell"), 1, 5))
}

// tellsFull: of full, and what is so alike, all is told as it is to be.
func tellsFull(t *testing.T, d api.Def, hit []bool) {
	t.Helper()
	pivotIs(t, d, 3)
	for i, want := range []int{0, 3, 1, 10, 2, 0} {
		triesAre(t, d, i, want)
	}
	downIs(t, d, hit, 4, 1)
	sealedIs(t, d, hit, true)
	sumsAre(t, d, 3*3*2+99*2+10*1+2*5, 3*2+1*2+10+2)
}

// R1, P1

func TestEveryCallEnds(t *testing.T) {
	numbers := []int{0, 1, 2, 3, 7, 8, 9, 10, -1, -2, 98, 99, 100, 1 << 31, far, far + 1, -far, 1 << 62, high - 1, high, low, low + 1}
	lists := [][]bool{nil, {}, {true}, {false}, hits("x x"), make([]bool, 0, 9), slices.Repeat([]bool{true}, 1000)}
	for _, name := range []string{"", "a", "?", "\x00", "\xff", "é", strings.Repeat("a", 1000)} {
		for _, a := range numbers {
			for _, l := range [][]api.Step{nil, {}, {{}}, {{Name: name, Stub: a, Retry: a, Wait: a}}, {{Name: name, Stub: 1, Retry: a, Wait: 1, Undo: true, Pivot: true}, {Name: name, Stub: 1, Wait: a, Pivot: true}}, make([]api.Step, 1000)} {
				d := api.Def{Name: name, Steps: l}
				plan.Pivot(d)
				plan.Longest(d)
				plan.Commands(d)
				for _, hit := range lists {
					plan.Sealed(d, hit)
					for _, n := range numbers {
						plan.Tries(d, n)
						plan.Down(d, hit, n)
					}
				}
			}
		}
	}
}

// R3, R7

func TestNilAndEmptyListsAreTheSame(t *testing.T) {
	for _, steps := range [][]api.Step{nil, {}, make([]api.Step, 0, 3), full().Steps[:0]} {
		for _, hit := range [][]bool{nil, {}, make([]bool, 0, 3), hits("xxx")[:0], hits("xxx")} {
			d := api.Def{Name: "a", Steps: steps}
			pivotIs(t, d, 0)
			sealedIs(t, d, hit, false)
			sumsAre(t, d, 0, 0)
			for n := -1; n <= 3; n++ {
				triesAre(t, d, n, 0)
				downIs(t, d, hit, n, 0)
			}
		}
	}
}

func TestNothingThatIsHandedInChanges(t *testing.T) {
	room := append(full().Steps, api.Step{Name: "room", Stub: -7, Undo: true}, api.Step{Name: "room", Stub: -8, Pivot: true})
	before := slices.Clone(room)
	hit := hits("xx x x")
	was := slices.Clone(hit)
	for n := range len(room) + 1 {
		for m := range len(hit) + 1 {
			d := api.Def{Name: "pay-2", Steps: room[:n]}
			plan.Pivot(d)
			plan.Tries(d, n)
			plan.Down(d, hit[:m], m)
			plan.Sealed(d, hit[:m])
			plan.Longest(d)
			plan.Commands(d)
			if !slices.Equal(room, before) || !slices.Equal(hit, was) {
				t.Fatalf("behind calls with %d steps and %d hits: %v, %v", n, m, room, hit)
			}
		}
	}
}

func TestWhatStandsBehindTheListsIsNotLookedAt(t *testing.T) {
	steps := append(full().Steps, undone("hold"), pivot("more"))
	d := api.Def{Name: "pay-2", Steps: steps[:4]}
	hit := hits("x x xx")
	tellsFull(t, d, hit[:4])
	downIs(t, d, hit, high, 1)
	sealedIs(t, d, hit[:2], false)
	pivotIs(t, api.Def{Name: "pay-2", Steps: steps[:2]}, 0)
	triesAre(t, d, 5, 0)
}

func TestNothingThatIsHandedInIsKept(t *testing.T) {
	d, hit := full(), hits("x x ")
	tellsFull(t, d, hit)
	hit[1], hit[2] = true, false
	downIs(t, d, hit, 4, 2)
	sealedIs(t, d, hit, false)
	d.Steps[0].Retry, d.Steps[0].Wait = 0, 1
	triesAre(t, d, 1, 1)
	sumsAre(t, d, 1*2+99*2+10*1+2*5, 1*2+1*2+10+2)
	d.Steps[2].Pivot = false
	pivotIs(t, d, 0)
	sumsAre(t, d, 0, 0)
	tellsFull(t, full(), hits("x x "))
}

// R4

func TestAnswersAreTheSameAgain(t *testing.T) {
	for range 1000 {
		tellsFull(t, full(), hits("x x "))
		tellsFull(t, full(), hits("x x"))
		tellsFull(t, full(), hits("x xxxxx"))
		sumsAre(t, drawn("b"), 0, 0)
		sumsAre(t, named("a", pivot("b")), 10, 1)
		downIs(t, drawn("uu"), nil, 2, 0)
	}
}

// R6

func TestNumbersDoNotWrap(t *testing.T) {
	for _, n := range []int{1 << 8, 1<<8 + 1, 1<<16 + 1, 1 << 31, far, far + 1, 1 << 61, 1<<62 + 1, high / 10, high/2 + 1, high - 1, high, low, low + 1, low + 2} {
		sumsAre(t, named("a", as(undone("b"), n, 1)), 0, 0)
		sumsAre(t, named("a", as(undone("b"), 1, n)), 0, 0)
		sumsAre(t, named("a", as(undone("b"), n, n)), 0, 0)
		sumsAre(t, named("a", as(undone("b"), 9, 99), as(undone("c"), n, n)), 0, 0)
		triesAre(t, named("a", as(undone("b"), n, 1)), 1, 0)
		triesAre(t, full(), n, 0)
	}
	downIs(t, full(), hits("xxxx"), high, 2)
	downIs(t, full(), hits("xxxx"), low, 0)
}

// The bound

func TestMuchIsTaken(t *testing.T) {
	const many = 1 << 20
	d := named("a", slices.Repeat([]api.Step{as(undone("b"), 3, 10)}, many)...)
	hit := slices.Repeat([]bool{true}, many+5)
	pivotIs(t, named("a", append(slices.Clone(d.Steps), pivot("c"))...), many+1)
	if got := plan.Tries(d, many); got != 4 {
		t.Errorf("Tries of the last of many steps: %d", got)
	}
	if !plan.Sealed(named("a", append(slices.Clone(d.Steps), pivot("c"))...), hit) {
		t.Error("many steps are not sealed")
	}
	for _, from := range []int{many, many + 1, far, high} { // which is seen by how many there are alone
		l := goesDown(d, hit, from)
		if len(l) != many || l[0] != many || l[many-1] != 1 {
			t.Fatalf("down many steps from %d: %d were told", from, len(l))
		}
	}
	for i := range many - 1 {
		hit[i] = i == 6
	}
	if l := goesDown(d, hit, high); !slices.Equal(l, []int{many, 7}) {
		t.Errorf("down many steps, of which two are hit: %v", l)
	}
	great := named("a", undone(strings.Repeat("b", 1<<24)))
	for range 1000 { // likewise
		if plan.Longest(d) != 0 || plan.Commands(d) != 0 || plan.Longest(great) != 0 || plan.Commands(great) != 0 {
			t.Fatal("what has too much has sums")
		}
	}
}
