package def_test

import (
	"math"
	"slices"
	"strconv"
	"strings"
	"testing"

	"drover/api"
	"drover/def"
)

// The signatures that the chapter lists.
var (
	_ func(string) (api.Def, int, api.Errno) = def.Parse
	_ func(api.Def) string                   = def.Print
	_ func(api.Def) (int, api.Errno)         = def.Check
	_ func(api.Def, api.Def) bool            = def.Same
)

// The limits, by their numbers.
const (
	maxDef    = 400
	maxName   = 16
	maxSteps  = 8
	maxStubs  = 4
	maxBudget = 9
	maxWait   = 99
)

const (
	low  = math.MinInt
	high = math.MaxInt
	far  = 1 << 32 // what is as much above another number is alike in its low half
)

// alike: a comparison of its own, so that Same can be held against it.
func alike(a, b api.Def) bool {
	if a.Name != b.Name || len(a.Steps) != len(b.Steps) {
		return false
	}
	for i, s := range a.Steps {
		if s != b.Steps[i] {
			return false
		}
	}
	return true
}

func named(name string, steps ...api.Step) api.Def { return api.Def{Name: name, Steps: steps} }

// undone, pivot, behind: steps as they may stand ahead of the Pivot, as it, and behind it.
func undone(name string) api.Step { return api.Step{Name: name, Stub: 1, Wait: 10, Undo: true} }

func pivot(name string) api.Step { return api.Step{Name: name, Stub: 1, Wait: 10, Pivot: true} }

func behind(name string) api.Step { return api.Step{Name: name, Stub: 1, Wait: 10} }

// reads: s is that definition.
func reads(t *testing.T, s string, want api.Def) {
	t.Helper()
	if got, at, err := def.Parse(s); !alike(got, want) || at != 0 || err != api.OK {
		t.Errorf("Parse(%q): %+v, %d, %v, want %+v", s, got, at, err, want)
	}
}

// refused: s is none, as is seen at that place.
func refused(t *testing.T, s string, place int, fault api.Errno) {
	t.Helper()
	if got, at, err := def.Parse(s); got.Name != "" || len(got.Steps) != 0 || at != place || err != fault {
		t.Errorf("Parse(%q): %+v, %d, %v, want %d, %v", s, got, at, err, place, fault)
	}
}

// faulty: s without its one mark ! is none, as is seen where that stood.
func faulty(t *testing.T, s string, fault api.Errno) {
	t.Helper()
	before, after, ok := strings.Cut(s, "!")
	if !ok {
		t.Fatalf("%q has no mark", s)
	}
	refused(t, before+after, len(before), fault)
}

// P13.1: Parse

func TestTheChaptersExamples(t *testing.T) {
	reads(t, "saga pay { step hold stub 1 undo; step ship stub 2 wait 5 pivot; }", named("pay",
		api.Step{Name: "hold", Stub: 1, Wait: 10, Undo: true},
		api.Step{Name: "ship", Stub: 2, Wait: 5, Pivot: true}))
	refused(t, "saga a { step b stub 1; }", 14, api.ErrLate)
}

func TestWhatMayFollow(t *testing.T) {
	for _, c := range []struct {
		s    string
		step api.Step
	}{
		{"undo", api.Step{Wait: 10, Undo: true}},
		{"pivot", api.Step{Wait: 10, Pivot: true}},
		{"retry 0 undo", api.Step{Wait: 10, Undo: true}},
		{"retry 3 undo", api.Step{Retry: 3, Wait: 10, Undo: true}},
		{"retry 9 pivot", api.Step{Retry: 9, Wait: 10, Pivot: true}},
		{"wait 1 undo", api.Step{Wait: 1, Undo: true}},
		{"wait 10 undo", api.Step{Wait: 10, Undo: true}},
		{"wait 99 pivot", api.Step{Wait: 99, Pivot: true}},
		{"retry 2 wait 7 undo", api.Step{Retry: 2, Wait: 7, Undo: true}},
		{"retry 2 wait 7 pivot", api.Step{Retry: 2, Wait: 7, Pivot: true}},
		{"retry 007 wait 0099 undo", api.Step{Retry: 7, Wait: 99, Undo: true}},
	} {
		for stub := 1; stub <= maxStubs; stub++ {
			want := c.step
			want.Name, want.Stub = "b", stub
			reads(t, "saga a { step b stub "+strconv.Itoa(stub)+" "+c.s+"; }", named("a", want))
		}
	}
}

func TestBehindThePivotNothingNeedFollow(t *testing.T) {
	reads(t, "saga a { step b stub 1 pivot; step c stub 2; step d stub 3 retry 4; step e stub 4 wait 5; step f stub 1 retry 6 wait 7; }", named("a",
		pivot("b"),
		api.Step{Name: "c", Stub: 2, Wait: 10},
		api.Step{Name: "d", Stub: 3, Retry: 4, Wait: 10},
		api.Step{Name: "e", Stub: 4, Wait: 5},
		api.Step{Name: "f", Stub: 1, Retry: 6, Wait: 7}))
}

func TestBlanksAndRemarksStandBetween(t *testing.T) {
	want := named("a", api.Step{Name: "b", Stub: 1, Retry: 2, Wait: 3, Undo: true})
	reads(t, "saga a{step b stub 1 retry 2 wait 3 undo;}", want)
	reads(t, "saga\ta\n{\n\tstep b\n\tstub 01\nretry 2 wait\t3 undo ;\n}\n", want)
	reads(t, "  # a saga?\nsaga a # { saga b\n{step b stub 1retry 2wait 3undo;}# and no more } A\n", want)
	reads(t, "saga a{step b stub 1 retry 2 wait 3 undo;}"+strings.Repeat(" ", maxDef-42), want)
}

func TestItsOwnWordsMayBeNames(t *testing.T) {
	for _, w := range []string{"saga", "step", "stub", "retry", "wait", "undo", "pivot"} {
		reads(t, "saga "+w+" { step "+w+" stub 1 undo; }", named(w, undone(w)))
		reads(t, "saga "+w+" { step "+w+" stub 1 retry 1 wait 1 pivot; step x stub 1; }", named(w, api.Step{Name: w, Stub: 1, Retry: 1, Wait: 1, Pivot: true}, behind("x")))
	}
	reads(t, "saga saga { step step stub 1 undo; step stub stub 1 undo; step retry stub 1 undo; step wait stub 1 undo; step undo stub 1 undo; step pivot stub 1 pivot; step saga stub 1; }",
		named("saga", undone("step"), undone("stub"), undone("retry"), undone("wait"), undone("undo"), pivot("pivot"), behind("saga")))
}

func TestAllStepsThatThereMayBe(t *testing.T) {
	s, want := "saga a {", named("a")
	for n := 1; n <= maxSteps; n++ {
		name := string(rune('a' + n))
		s += " step " + name + " stub 1 undo;"
		want.Steps = append(want.Steps, undone(name))
		reads(t, s+" }", want)
	}
	refused(t, s+" step z stub 1 undo; }", 5, api.ErrArg)
	refused(t, s+strings.Repeat(" step z stub 1;", 10)+" }", 5, api.ErrArg)
	refused(t, s+strings.Repeat(" step z stub 1;", 10), len(s)+150, api.ErrSyntax) // ahead of how many there are
	refused(t, "saga a { }", 5, api.ErrArg)
	refused(t, "saga a{}", 5, api.ErrArg)
}

// The first token that does not go on so.
func TestWhatDoesNotGoOn(t *testing.T) {
	for _, s := range []string{
		"!step a { step b stub 1 undo; }", "!a { step b stub 1 undo; }", "!{ step b stub 1 undo; }", "!1", "!;", "!}", "!sagas a { step b stub 1 undo; }", "!saga1 a { step b stub 1 undo; }",
		"saga !{ step b stub 1 undo; }", "saga !1 { step b stub 1 undo; }", "saga !; { step b stub 1 undo; }", "saga !1a { step b stub 1 undo; }",
		"saga a !step b stub 1 undo; }", "saga a !b { step b stub 1 undo; }", "saga a !} step b stub 1 undo; }", "saga a !; { step b stub 1 undo; }", "saga a !1",
		"saga a { !b stub 1 undo; }", "saga a { !{ step b stub 1 undo; }", "saga a { !; step b stub 1 undo; }", "saga a { !1", "saga a { !steps b stub 1 undo; }", "saga a { !saga b stub 1 undo; }",
		"saga a { step !; }", "saga a { step !1 stub 1 undo; }", "saga a { step !{ stub 1 undo; }", "saga a { step !} ",
		"saga a { step b !1 undo; }", "saga a { step b !undo; }", "saga a { step b !; }", "saga a { step b !stubs 1 undo; }", "saga a { step b !stub1 undo; }", "saga a { step b !c stub 1 undo; }", "saga a { step stub !1 undo; }", "saga a { step b !{ stub 1 undo; }",
		"saga a { step b stub !b undo; }", "saga a { step b stub !undo; }", "saga a { step b stub !; }", "saga a { step b stub !{", "saga a { step b stub !stub 1 undo; }",
		"saga a { step b stub 1 !2 undo; }", "saga a { step b stub 1 !stub 1 undo; }", "saga a { step b stub 1 !b; }", "saga a { step b stub 1 !{", "saga a { step b stub 1 !} }", "saga a { step b stub 1 !step c stub 1 undo; }", "saga a { step b stub 1 !retry1 undo; }", "saga a { step b stub 1 !undone; }",
		"saga a { step b stub 1 retry !undo; }", "saga a { step b stub 1 retry !; }", "saga a { step b stub 1 retry !wait 1 undo; }", "saga a { step b stub 1 retry !retry 1 undo; }", "saga a { step b stub 1 retry !}",
		"saga a { step b stub 1 retry 1 !2 undo; }", "saga a { step b stub 1 retry 1 !retry 1 undo; }", "saga a { step b stub 1 retry 1 !}", "saga a { step b stub 1 retry 1 !b; }",
		"saga a { step b stub 1 wait !undo; }", "saga a { step b stub 1 wait !; }", "saga a { step b stub 1 wait !wait 1 undo; }", "saga a { step b stub 1 wait !pivot; }",
		"saga a { step b stub 1 wait 1 !2 undo; }", "saga a { step b stub 1 wait 1 !wait 1 undo; }", "saga a { step b stub 1 wait 1 !retry 1 undo; }", "saga a { step b stub 1 wait 1 !}",
		"saga a { step b stub 1 undo !undo; }", "saga a { step b stub 1 undo !retry 1; }", "saga a { step b stub 1 undo !wait 1; }", "saga a { step b stub 1 undo !1; }", "saga a { step b stub 1 undo !}", "saga a { step b stub 1 undo !{",
		"saga a { step b stub 1 pivot !pivot; }", "saga a { step b stub 1 pivot !undo; }", "saga a { step b stub 1 pivot !wait 1; }", "saga a { step b stub 1 pivot !retry 1; }", "saga a { step b stub 1 pivot !}", "saga a { step b stub 1 pivot !1;",
		"saga a { step b stub 1 undo pivot !undo; }", "saga a { step b stub 1 undo pivot !pivot; }", "saga a { step b stub 1 undo pivot !}",
		"saga a { step b stub 1 undo; !; }", "saga a { step b stub 1 undo; !c stub 1 undo; }", "saga a { step b stub 1 undo; !{", "saga a { step b stub 1 undo; !undo; }", "saga a { step b stub 1 undo; !1 }", "saga a { step b stub 1 undo; !saga a { } }",
		"saga a { step b stub 1 undo; step c stub 1 undo !}", "saga a { step b stub 1 undo; step !; }",
	} {
		faulty(t, s, api.ErrSyntax)
	}
}

func TestNothingStandsBehindTheEnd(t *testing.T) {
	const whole = "saga a { step b stub 1 undo; }"
	for _, s := range []string{"}", ";", "{", "1", "x", "saga", "step", "saga c { step d stub 1 undo; }", "x ;", "step c stub 1 undo; }"} {
		faulty(t, whole+"!"+s, api.ErrSyntax)
		faulty(t, whole+" !"+s, api.ErrSyntax)
		faulty(t, whole+"# it ends\n\t!"+s+" x y z", api.ErrSyntax)
		faulty(t, "saga a { }!"+s, api.ErrSyntax) // ahead of what Check says
	}
	reads(t, whole+" \n# }\n\t", named("a", undone("b")))
}

func TestTheTextsEnd(t *testing.T) {
	tokens := strings.Fields("saga a { step b stub 1 retry 2 wait 3 undo pivot ; step c stub 1 undo ; }")
	for n := range tokens {
		s := strings.Join(tokens[:n], " ")
		for _, more := range []string{"", " ", "\n\n", " # }", "\t#\n "} {
			refused(t, s+more, len(s)+len(more), api.ErrSyntax)
		}
	}
	for _, s := range []string{"", " ", "#", "# saga a { step b stub 1 undo; }", strings.Repeat(" ", maxDef), "saga", "saga a {" + strings.Repeat("\n", maxDef-8)} {
		refused(t, s, len(s), api.ErrSyntax)
	}
}

func TestTheLexersErrorStandsAheadOfAll(t *testing.T) {
	const whole = "saga a { step b stub 1 undo; }"
	for n := range len(whole) + 1 {
		for _, c := range []string{"A", "?", "\r", "é", "\x00"} {
			refused(t, whole[:n]+c+whole[n:], n, api.ErrSyntax)
		}
	}
	faulty(t, "} saga a step { !A", api.ErrSyntax)           // ahead of what does not go on
	faulty(t, "saga a { step b stub 9; } !=", api.ErrSyntax) // and of what may not be
	faulty(t, "saga a { step b stub !-1 undo; }", api.ErrSyntax)
	faulty(t, "saga a { step b stub 1!.5 undo; }", api.ErrSyntax)
	reads(t, whole+strings.Repeat(" ", maxDef-len(whole)), named("a", undone("b")))
	refused(t, whole+strings.Repeat(" ", maxDef-len(whole)+1), 0, api.ErrText)
	for _, s := range []string{"?", "saga a { }", "}", " "} {
		refused(t, s+strings.Repeat("\n", maxDef-len(s)+1), 0, api.ErrText)
		refused(t, strings.Repeat("#", maxDef+1)+s, 0, api.ErrText)
	}
	refused(t, strings.Repeat(" ", maxDef-1)+"?", maxDef-1, api.ErrSyntax)
}

func TestWhatDoesNotGoOnStandsAheadOfWhatMayNotBe(t *testing.T) {
	faulty(t, "saga a { step b stub 9 !x; }", api.ErrSyntax)
	faulty(t, "saga a { step b stub 1; step c stub 1 undo !undo; }", api.ErrSyntax)
	faulty(t, "saga a12345678901234567 { step b stub 1 undo; !", api.ErrSyntax)
	faulty(t, "saga a { step b stub 0 retry 10 wait 0; step b stub 1 undo; } !}", api.ErrSyntax)
}

func TestThePlaceOfWhatMayNotBe(t *testing.T) {
	const long = "a1234567890123456" // 17 bytes: a word, but no name
	for _, s := range []string{
		"saga !" + long + " { step b stub 1 undo; }",
		"\n# a\n saga !" + long + " { }",
		"saga !" + long + " { step " + long + " stub 9; }",
		"saga !a { }",
		"saga a { step !" + long + " stub 1 undo; }",
		"saga a { step b stub 1 undo; step !" + long + " stub 1 undo; }",
		"saga a { step !b stub 0 undo; }",
		"saga a { step !b stub 5 undo; }",
		"saga a { step !b stub 1000001 undo; }",
		"saga a { step !b stub 4294967297 undo; }",
		"saga a { step !b stub 18446744073709551617 undo; }",
		"saga a { step !b stub 1 retry 10 undo; }",
		"saga a { step !b stub 1 retry 4294967296 undo; }",
		"saga a { step !b stub 1 wait 0 undo; }",
		"saga a { step !b stub 1 wait 100 undo; }",
		"saga a { step b stub 1 undo; step !c stub 0 undo; step d stub 0 undo; }",
		"saga a { step b stub 1 undo; # c\n\n step\n!c\nstub 5 undo; }",
		"saga a { step b stub 1 undo; step !b stub 5 undo; }", // though its Name stands ahead
		"saga a { step !b stub 1 wait 0; }",
	} {
		faulty(t, s, api.ErrArg)
	}
	for _, s := range []string{
		"saga a { step b stub 1 undo; step !b stub 1 undo; }",
		"saga a { step b stub 1 undo; step c stub 1 undo; step !b stub 2 retry 1 wait 1 undo; }",
		"saga a { step b stub 1 pivot; step !c stub 1 pivot; }",
		"saga a { step b stub 1 pivot; step c stub 1; step !d stub 1 pivot; step e stub 9; }",
		"saga a { step b stub 1 undo; step !b stub 1; }",
		"saga a { step b stub 1 pivot; step !c stub 1 undo pivot; }",
	} {
		faulty(t, s, api.ErrTwice)
	}
	for _, s := range []string{
		"saga a { step !b stub 1 undo pivot; }",
		"saga a { step !b stub 1; }",
		"saga a { step b stub 1 undo; step !c stub 1; step d stub 1 pivot; }",
		"saga a { step b stub 1 pivot; step !c stub 1 undo; }",
		"saga a { step b stub 1 pivot; step c stub 1; step !d stub 1 undo; step d stub 9; }",
		"saga a { step !b stub 1 retry 1 wait 1; step b stub 1; }",
	} {
		faulty(t, s, api.ErrLate)
	}
}

func TestNamesOfManyBytes(t *testing.T) {
	for n := 1; n <= 40; n++ {
		name := strings.Repeat("n", n)
		saga, step := "saga "+name+" { step b stub 1 undo; }", "saga a { step "+name+" stub 1 undo; }"
		if n <= maxName {
			reads(t, saga, named(name, undone("b")))
			reads(t, step, named("a", undone(name)))
		} else {
			refused(t, saga, 5, api.ErrArg)
			refused(t, step, 14, api.ErrArg)
		}
	}
}

// P13.1: Print

func prints(t *testing.T, d api.Def, want string) {
	t.Helper()
	if got := def.Print(d); got != want {
		t.Errorf("Print(%+v): %q, want %q", d, got, want)
	}
}

func TestPrint(t *testing.T) {
	prints(t, named("a", undone("b")), "saga a { step b stub 1 retry 0 wait 10 undo; }")
	prints(t, named("a", pivot("b")), "saga a { step b stub 1 retry 0 wait 10 pivot; }")
	prints(t, named("a", behind("b")), "saga a { step b stub 1 retry 0 wait 10; }")
	prints(t, named("pay", api.Step{Name: "hold", Stub: 4, Retry: 9, Wait: 99, Undo: true}, api.Step{Name: "ship", Stub: 2, Wait: 5, Pivot: true}, behind("tell-2")),
		"saga pay { step hold stub 4 retry 9 wait 99 undo; step ship stub 2 retry 0 wait 5 pivot; step tell-2 stub 1 retry 0 wait 10; }")
}

func TestPrintOfWhatMayNotBe(t *testing.T) {
	prints(t, api.Def{}, "saga  { }")
	prints(t, named("a"), "saga a { }")
	prints(t, named("A #\n\xff", api.Step{}), "saga A #\n\xff { step  stub 0 retry 0 wait 0; }")
	prints(t, named("a", api.Step{Name: "b", Stub: -1, Retry: low, Wait: high, Undo: true, Pivot: true}), "saga a { step b stub -1 retry -9223372036854775808 wait 9223372036854775807 undo pivot; }")
	prints(t, named("a", api.Step{Name: "b ; }", Stub: far, Retry: -far, Wait: 1000001}), "saga a { step b ; } stub 4294967296 retry -4294967296 wait 1000001; }")
	prints(t, named("a", slices.Repeat([]api.Step{undone("b")}, 100)...), "saga a {"+strings.Repeat(" step b stub 1 retry 0 wait 10 undo;", 100)+" }")
}

// P13.2: Check

func checks(t *testing.T, d api.Def, place int, fault api.Errno) {
	t.Helper()
	if n, err := def.Check(d); n != place || err != fault {
		t.Errorf("Check(%+v): %d, %v, want %d, %v", d, n, err, place, fault)
	}
}

// noNames: texts that are none.
func noNames() []string {
	return []string{"", " ", "A", "aB", "1", "1a", "-a", "_", "a b", "a\n", "a;", "é", "aé", "a\xff", "\x00", strings.Repeat("a", maxName+1), strings.Repeat("a", 1<<16)}
}

func TestWhatMayBe(t *testing.T) {
	for _, d := range []api.Def{
		named("a", undone("b")), named("a", pivot("b")), named("a", undone("a"), pivot("b"), behind("c")),
		named("saga", undone("saga"), undone("step")), named("a-_0", undone("b-_9")), named(strings.Repeat("z", maxName), undone(strings.Repeat("z", maxName))),
		named("a", pivot("b"), behind("c"), behind("d")), named("a", undone("b"), undone("c"), pivot("d")),
		named("a", api.Step{Name: "b", Stub: maxStubs, Retry: maxBudget, Wait: maxWait, Undo: true}),
		named("a", api.Step{Name: "b", Stub: 1, Retry: 0, Wait: 1, Pivot: true}),
	} {
		checks(t, d, 0, api.OK)
	}
}

func TestTheSaga(t *testing.T) {
	for _, name := range noNames() {
		checks(t, named(name, undone("b")), 0, api.ErrArg)
		checks(t, named(name, api.Step{}), 0, api.ErrArg)
	}
	var steps []api.Step
	for n := range 30 {
		want := api.OK
		if n < 1 || n > maxSteps {
			want = api.ErrArg
		}
		checks(t, named("a", steps...), 0, want)
		steps = append(steps, undone("s"+strconv.Itoa(n)))
	}
	checks(t, api.Def{Name: "a", Steps: []api.Step{}}, 0, api.ErrArg)
	checks(t, api.Def{}, 0, api.ErrArg)
	checks(t, named("a", slices.Repeat([]api.Step{{Stub: -1}}, maxSteps+1)...), 0, api.ErrArg) // ahead of what the steps are
}

// inEach: a step that is wrong, told in each place that there may be, behind others that may be.
func inEach(t *testing.T, s api.Step, fault api.Errno) {
	t.Helper()
	for n := range maxSteps {
		var steps []api.Step
		for i := range n {
			steps = append(steps, undone("s"+strconv.Itoa(i)))
		}
		checks(t, named("a", append(steps, s)...), n+1, fault)
		if n < maxSteps-1 {
			checks(t, named("a", append(steps, s, api.Step{})...), n+1, fault) // the first one that is wrong
		}
	}
}

func TestNamesOfSteps(t *testing.T) {
	for _, name := range noNames() {
		inEach(t, undone(name), api.ErrArg)
	}
}

func TestNumbersOfSteps(t *testing.T) {
	for _, c := range []struct {
		least, most int
		set         func(*api.Step, int)
	}{
		{1, maxStubs, func(s *api.Step, n int) { s.Stub = n }},
		{0, maxBudget, func(s *api.Step, n int) { s.Retry = n }},
		{1, maxWait, func(s *api.Step, n int) { s.Wait = n }},
	} {
		s := undone("b")
		for n := c.least; n <= c.most; n++ {
			c.set(&s, n)
			checks(t, named("a", s), 0, api.OK)
		}
		for _, n := range []int{c.least - 1, c.most + 1, c.least - 2, c.most + 2, -1, -2, 100, 1000000, 1 << 31, far, far + 1, far + 2, -far, -far + 1, 1<<8 + 1, 1<<16 + 1, 1 << 62, high, high - 1, low, low + 1} {
			c.set(&s, n)
			inEach(t, s, api.ErrArg)
		}
	}
}

func TestNamesTwice(t *testing.T) {
	for n := 2; n <= maxSteps; n++ {
		for first := range n - 1 {
			var steps []api.Step
			for i := range n {
				steps = append(steps, undone("s"+strconv.Itoa(i)))
			}
			checks(t, named("s1", steps...), 0, api.OK) // the saga's may stand there, too
			steps[n-1].Name = steps[first].Name
			checks(t, named("a", steps...), n, api.ErrTwice)
			steps[n-1].Stub, steps[n-1].Retry, steps[n-1].Wait = 2, 1, 1 // however else it is
			checks(t, named("a", steps...), n, api.ErrTwice)
		}
	}
}

func TestAllPivotsAndUndos(t *testing.T) {
	for n := 1; n <= 5; n++ {
		for bits := range 1 << (2 * n) {
			var steps []api.Step
			pivots, place, fault := 0, 0, api.OK
			for i := range n {
				s := behind("s" + strconv.Itoa(i))
				s.Undo, s.Pivot = bits>>(2*i)&1 == 1, bits>>(2*i+1)&1 == 1
				steps = append(steps, s)
				if s.Pivot {
					pivots++
				}
				if fault != api.OK {
					continue
				}
				switch {
				case s.Pivot && pivots > 1:
					place, fault = i+1, api.ErrTwice
				case s.Undo && pivots > 0, !s.Undo && pivots == 0:
					place, fault = i+1, api.ErrLate
				}
			}
			checks(t, named("a", steps...), place, fault)
		}
	}
}

func TestTheOrderOfErrors(t *testing.T) {
	bad := func(s api.Step) api.Step {
		s.Wait = 0
		return s
	}
	late := behind("b")
	checks(t, named("A", bad(late)), 0, api.ErrArg)
	checks(t, named("a", bad(late)), 1, api.ErrArg)               // ahead of ErrLate
	checks(t, named("a", undone("b"), bad(late)), 2, api.ErrArg)  // ahead of ErrTwice
	checks(t, named("a", undone("b"), late), 2, api.ErrTwice)     // ahead of ErrLate
	checks(t, named("a", late, bad(undone("c"))), 1, api.ErrLate) // the step ahead
	checks(t, named("a", late, undone("b")), 1, api.ErrLate)      // likewise
	checks(t, named("a", undone("b"), undone("b"), bad(undone("c"))), 2, api.ErrTwice)
	checks(t, named("a", pivot("b"), bad(pivot("c"))), 2, api.ErrArg)
	both := pivot("c")
	both.Undo = true
	checks(t, named("a", pivot("b"), both), 2, api.ErrTwice)
	checks(t, named("a", both), 1, api.ErrLate)
	checks(t, named("a", undone("b"), both, late), 2, api.ErrLate)
}

// P13.2: Same

func same(t *testing.T, a, b api.Def, want bool) {
	t.Helper()
	if got, back := def.Same(a, b), def.Same(b, a); got != want || back != want {
		t.Errorf("Same of %+v and %+v: %v, and %v the other way", a, b, got, back)
	}
}

func TestSame(t *testing.T) {
	whole := func() api.Def {
		return named("a", api.Step{Name: "b", Stub: 1, Retry: 2, Wait: 3, Undo: true}, api.Step{Name: "c", Stub: 4, Retry: 5, Wait: 6, Pivot: true})
	}
	same(t, whole(), whole(), true)
	for _, change := range []func(d *api.Def){
		func(d *api.Def) { d.Name = "" },
		func(d *api.Def) { d.Name = "A" },
		func(d *api.Def) { d.Name = "a " },
		func(d *api.Def) { d.Steps = nil },
		func(d *api.Def) { d.Steps = d.Steps[:1] },
		func(d *api.Def) { d.Steps = d.Steps[1:] },
		func(d *api.Def) { d.Steps = append(d.Steps, api.Step{}) },
		func(d *api.Def) { d.Steps = append([]api.Step{{}}, d.Steps...) },
		func(d *api.Def) { d.Steps[0], d.Steps[1] = d.Steps[1], d.Steps[0] },
		func(d *api.Def) { d.Steps[0].Name = "c" },
		func(d *api.Def) { d.Steps[0].Stub++ },
		func(d *api.Def) { d.Steps[1].Stub += far },
		func(d *api.Def) { d.Steps[0].Retry-- },
		func(d *api.Def) { d.Steps[1].Retry += far },
		func(d *api.Def) { d.Steps[0].Wait = low },
		func(d *api.Def) { d.Steps[1].Wait -= far },
		func(d *api.Def) { d.Steps[0].Undo = false },
		func(d *api.Def) { d.Steps[1].Undo = true },
		func(d *api.Def) { d.Steps[0].Pivot = true },
		func(d *api.Def) { d.Steps[1].Pivot = false },
		func(d *api.Def) { d.Steps[1] = api.Step{} },
	} {
		d := whole()
		change(&d)
		same(t, d, whole(), false)
		again := whole()
		change(&again)
		same(t, d, again, true) // what may not be, too
	}
}

func TestNoStepsAreAsAnEmptyList(t *testing.T) {
	for _, name := range []string{"", "a", "A"} {
		for _, l := range [][]api.Step{nil, {}, make([]api.Step, 0, 3), []api.Step{{Stub: 1}}[:0]} {
			same(t, api.Def{Name: name}, api.Def{Name: name, Steps: l}, true)
			same(t, api.Def{Name: name, Steps: []api.Step{}}, api.Def{Name: name, Steps: l}, true)
			same(t, api.Def{Name: name + "b"}, api.Def{Name: name, Steps: l}, false)
			same(t, named(name, api.Step{}), api.Def{Name: name, Steps: l}, false)
		}
	}
}

func TestSameLooksNoFurtherThanTheListsEnds(t *testing.T) {
	a := []api.Step{undone("b"), undone("c"), undone("d")}
	b := []api.Step{undone("b"), undone("c"), undone("x")}
	same(t, named("a", a[:2]...), named("a", b[:2]...), true)
	same(t, named("a", a...), named("a", b...), false)
}
