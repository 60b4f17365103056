package def_test

import (
	"slices"
	"strings"
	"testing"
	"unsafe"

	"drover/api"
	"drover/def"
)

// The rules that hold everywhere, P1 and the bound, for this package. (R5 speaks of objects: there are none here.)

// full: a text with all that a definition may have.
const full = "# a saga\nsaga pay-2 { step hold_on stub 1 retry 2 wait 3 undo; step ship stub 4 wait 99 pivot;\n step tell stub 2 retry 9; }"

func fullDef() api.Def {
	return named("pay-2",
		api.Step{Name: "hold_on", Stub: 1, Retry: 2, Wait: 3, Undo: true},
		api.Step{Name: "ship", Stub: 4, Wait: 99, Pivot: true},
		api.Step{Name: "tell", Stub: 2, Retry: 9, Wait: 10})
}

// R1, P1

func TestEveryCallEnds(t *testing.T) {
	reads(t, full, fullDef())
	texts := []string{"", " ", "saga", "{", "}", ";", "0", "#", "\x00", "\xff", "é", strings.Repeat("step ", 80), strings.Repeat("saga a { ", 44), strings.Repeat("9", maxDef), strings.Repeat("\xff", maxDef), strings.Repeat("}", 1<<20)}
	for n := range full {
		texts = append(texts, full[:n], full[n:], full[:n]+full[n+1:], full[:n]+full)
	}
	for _, s := range texts {
		asPlain(t, s)
		for _, l := range [][]api.Step{nil, {}, {{}}, {{Name: s}}, {{Name: s, Stub: low, Retry: low, Wait: low, Undo: true, Pivot: true}, {Name: s, Stub: high, Retry: high, Wait: high}}, make([]api.Step, 1000)} {
			d := api.Def{Name: s, Steps: l}
			def.Check(d)
			def.Print(d)
			def.Same(d, api.Def{})
			def.Same(d, d)
		}
	}
}

// R2, R7

func TestNothingStandsBesideAnError(t *testing.T) {
	refused(t, full+"?", len(full), api.ErrSyntax)
	refused(t, full+"x", len(full), api.ErrSyntax)
	refused(t, full[:len(full)-1], len(full)-1, api.ErrSyntax)
	refused(t, strings.Replace(full, "stub 2", "stub 5", 1), strings.Index(full, "tell"), api.ErrArg)
	refused(t, strings.Replace(full, "tell", "ship", 1), strings.Index(full, "tell"), api.ErrTwice)
	refused(t, strings.Replace(full, "undo", "", 1), strings.Index(full, "hold_on"), api.ErrLate)
	refused(t, full+strings.Repeat(" ", maxDef), 0, api.ErrText)
}

func TestNilAndEmptyListsAreTheSame(t *testing.T) {
	for _, name := range []string{"a", ""} {
		none, empty := api.Def{Name: name}, api.Def{Name: name, Steps: []api.Step{}}
		prints(t, empty, def.Print(none))
		checks(t, none, 0, api.ErrArg)
		checks(t, empty, 0, api.ErrArg)
		same(t, none, empty, true)
	}
}

// R3

func TestNothingThatIsHandedInChanges(t *testing.T) {
	room := append(fullDef().Steps, api.Step{Name: "room", Stub: -7}, api.Step{Name: "room", Stub: -8})
	before := slices.Clone(room)
	for n := range len(room) + 1 {
		d, other := api.Def{Name: "pay-2", Steps: room[:n]}, api.Def{Name: "pay-2", Steps: room[:n/2]}
		def.Check(d)
		def.Print(d)
		def.Same(d, other)
		def.Same(other, d)
		if !slices.Equal(room, before) {
			t.Fatalf("behind calls with %d steps: %v", n, room)
		}
	}
}

func TestWhatStandsBehindTheStepsIsNotLookedAt(t *testing.T) {
	room := append(fullDef().Steps, undone("hold_on"), pivot("ship"))
	d := api.Def{Name: "pay-2", Steps: room[:3]}
	checks(t, d, 0, api.OK)
	prints(t, d, def.Print(fullDef()))
	same(t, d, fullDef(), true)
	same(t, api.Def{Name: "pay-2", Steps: room}, fullDef(), false)
}

func TestStepsAreNewMemory(t *testing.T) {
	a, _, _ := def.Parse(full)
	b, _, _ := def.Parse(full)
	l := a.Steps[:cap(a.Steps)]
	for i := range l {
		l[i] = api.Step{Name: "scribble", Stub: -1, Retry: -1, Wait: -1, Undo: true, Pivot: true}
	}
	same(t, b, fullDef(), true)
	reads(t, full, fullDef())
}

// within: does one text stand in the other one's memory?
func within(s, all string) bool {
	at, from := uintptr(unsafe.Pointer(unsafe.StringData(s))), uintptr(unsafe.Pointer(unsafe.StringData(all)))
	return at >= from && at < from+uintptr(len(all))
}

func TestNoAnswerHoldsATextThatWasHandedIn(t *testing.T) {
	s := strings.Clone(full)
	d, _, _ := def.Parse(s)
	if within(d.Name, s) {
		t.Errorf("%s stands in the text that was handed in", d.Name)
	}
	for _, step := range d.Steps {
		if within(step.Name, s) {
			t.Errorf("%s stands in the text that was handed in", step.Name)
		}
	}
	if got := def.Print(d); within(got, d.Name) || within(got, d.Steps[0].Name) {
		t.Error("Print stands in a name that was handed in")
	}
}

// R4

func TestAnswersAreTheSameAgain(t *testing.T) {
	printed := def.Print(fullDef())
	for range 100 {
		reads(t, full, fullDef())
		faulty(t, "saga a { step !b stub 1; }", api.ErrLate)
		faulty(t, "saga a { step b stub 1 undo; !; }", api.ErrSyntax)
		refused(t, strings.Repeat("a", maxDef+1), 0, api.ErrText)
		prints(t, fullDef(), printed)
		checks(t, fullDef(), 0, api.OK)
		checks(t, named("a", undone("b"), undone("b")), 2, api.ErrTwice)
		same(t, fullDef(), fullDef(), true)
		same(t, fullDef(), named("a"), false)
	}
}

// R6

func TestNumbersDoNotWrap(t *testing.T) {
	for _, n := range []string{"256", "257", "65537", "2147483648", "4294967296", "4294967297", "9223372036854775808", "18446744073709551616", "18446744073709551617", "340282366920938463463374607431768211457"} {
		faulty(t, "saga a { step !b stub "+n+" undo; }", api.ErrArg)
		faulty(t, "saga a { step !b stub 1 retry "+n+" undo; }", api.ErrArg)
		faulty(t, "saga a { step !b stub 1 wait "+n+" undo; }", api.ErrArg)
	}
}

// The bound, and the language's rule 8

func TestMuchIsTaken(t *testing.T) {
	const many = 1 << 20
	d := named("a", slices.Repeat([]api.Step{undone("b")}, many)...)
	const each = " step b stub 1 retry 0 wait 10 undo;"
	if got := def.Print(d); len(got) != 10+many*len(each) || !strings.HasPrefix(got, "saga a {"+each+each) || !strings.HasSuffix(got, each+" }") {
		t.Errorf("Print of %d steps has %d bytes", many, len(got))
	}
	other := api.Def{Name: "a", Steps: slices.Clone(d.Steps)}
	same(t, d, other, true)
	other.Steps[many-1].Wait++
	if def.Same(d, other) {
		t.Error("many steps, of which the last ones are not alike, are the Same")
	}
	great := strings.Repeat("a", 1<<24)
	for range 1000 { // which is seen by how much there is alone
		if n, err := def.Check(d); n != 0 || err != api.ErrArg {
			t.Fatalf("Check of %d steps: %d, %v", many, n, err)
		}
		if n, err := def.Check(named("a", undone(great))); n != 1 || err != api.ErrArg {
			t.Fatalf("Check of a great name: %d, %v", n, err)
		}
		if _, at, err := def.Parse(great); at != 0 || err != api.ErrText {
			t.Fatalf("Parse of a great text: %d, %v", at, err)
		}
	}
	if def.Print(named(great, undone(great))) != "saga "+great+" { step "+great+" stub 1 retry 0 wait 10 undo; }" {
		t.Error("Print of great names is another")
	}
}
