package def_test

import (
	"math/rand/v2"
	"slices"
	"strconv"
	"strings"
	"testing"

	"drover/api"
	"drover/def"
	"drover/lexer"
)

// What the chapter says, plainly: what may come next hangs on what came last, and a table says so.

// goesOn: by what came last, the tokens that may come next, each with what has come then. NAME is any word, N any number.
var goesOn = map[string]map[string]string{
	"nothing":   {"saga": "saga"},
	"saga":      {"NAME": "saga NAME"},
	"saga NAME": {"{": "{"},
	"{":         {"step": "step", "}": "}"},
	"step":      {"NAME": "step NAME"},
	"step NAME": {"stub": "stub"},
	"stub":      {"N": "stub N"},
	"stub N":    {"retry": "retry", "wait": "wait", "undo": "undo", "pivot": "pivot", ";": "{"},
	"retry":     {"N": "retry N"},
	"retry N":   {"wait": "wait", "undo": "undo", "pivot": "pivot", ";": "{"},
	"wait":      {"N": "wait N"},
	"wait N":    {"undo": "undo", "pivot": "pivot", ";": "{"},
	"undo":      {"pivot": "pivot", ";": "{"},
	"pivot":     {";": "{"},
	"}":         {},
}

// plainNext: what has come with t, if it may come behind last.
func plainNext(last string, t lexer.Token) (string, bool) {
	may := goesOn[last]
	if next, ok := may["NAME"]; ok && t.Kind == lexer.Word {
		return next, true
	}
	if next, ok := may["N"]; ok && t.Kind == lexer.Number {
		return next, true
	}
	next, ok := may[t.S]
	return next, ok
}

func plainParse(s string) (api.Def, int, api.Errno) {
	l, at, err := lexer.Tokens(s)
	if err != api.OK {
		return api.Def{}, at, err
	}
	var d api.Def
	var names []int
	last := "nothing"
	for _, t := range l {
		next, ok := plainNext(last, t)
		if !ok {
			return api.Def{}, t.At, api.ErrSyntax
		}
		var s *api.Step
		if len(d.Steps) > 0 {
			s = &d.Steps[len(d.Steps)-1]
		}
		switch next {
		case "saga NAME":
			d.Name, names = t.S, append(names, t.At)
		case "step NAME":
			d.Steps, names = append(d.Steps, api.Step{Name: t.S, Wait: 10}), append(names, t.At)
		case "stub N":
			s.Stub = t.N
		case "retry N":
			s.Retry = t.N
		case "wait N":
			s.Wait = t.N
		case "undo":
			s.Undo = true
		case "pivot":
			s.Pivot = true
		}
		last = next
	}
	if last != "}" {
		return api.Def{}, len(s), api.ErrSyntax
	}
	if n, err := plainCheck(d); err != api.OK {
		return api.Def{}, names[n], err
	}
	return d, 0, api.OK
}

func plainCheck(d api.Def) (int, api.Errno) {
	n := len(d.Steps)
	if !lexer.Name(d.Name) || n == 0 || n > maxSteps {
		return 0, api.ErrArg
	}
	names, pivots := map[string]bool{}, 0
	for i, s := range d.Steps {
		if !lexer.Name(s.Name) || s.Stub < 1 || s.Stub > maxStubs || s.Retry < 0 || s.Retry > maxBudget || s.Wait < 1 || s.Wait > maxWait {
			return i + 1, api.ErrArg
		}
		if names[s.Name] || pivots > 0 && s.Pivot {
			return i + 1, api.ErrTwice
		}
		names[s.Name] = true
		if s.Pivot {
			pivots++
		}
		if s.Undo && pivots > 0 || !s.Undo && pivots == 0 {
			return i + 1, api.ErrLate
		}
	}
	return 0, api.OK
}

// asPlain holds Parse of s against the plain one, and tells its error.
func asPlain(t *testing.T, s string) api.Errno {
	t.Helper()
	got, at, err := def.Parse(s)
	if want, place, fault := plainParse(s); !alike(got, want) || at != place || err != fault {
		t.Fatalf("Parse(%q): %+v, %d, %v, want %+v, %d, %v", s, got, at, err, want, place, fault)
	}
	return err
}

// anyName: mostly one that may be; the words of a definition, and too long ones, among them.
func anyName(by *rand.Rand) string {
	l := strings.Fields("a b c d e f g h hold ship x-1 y_2 saga step stub retry wait undo pivot abcdefghijklmnop")
	if by.IntN(40) == 0 {
		l = []string{"abcdefghijklmnopq", strings.Repeat("z", 30)}
	}
	return l[by.IntN(len(l))]
}

// anyOf: mostly a number of these, at times one about their ends, or beyond all.
func anyOf(by *rand.Rand, least, most int) int {
	switch by.IntN(60) {
	case 0:
		return max(0, least-1)
	case 1:
		return most + 1
	case 2:
		return 1000000
	}
	return least + by.IntN(most-least+1)
}

// anyDef: a definition that mostly may be.
func anyDef(by *rand.Rand, steps int) api.Def {
	d := named(anyName(by))
	pivot := by.IntN(steps + 2)
	for i := range steps {
		s := api.Step{Name: anyName(by), Stub: anyOf(by, 1, maxStubs), Retry: anyOf(by, 0, maxBudget), Wait: anyOf(by, 1, maxWait), Undo: i < pivot, Pivot: i == pivot}
		if slices.ContainsFunc(d.Steps, func(a api.Step) bool { return a.Name == s.Name }) && by.IntN(10) > 0 {
			s.Name += "-" + strconv.Itoa(i)
		}
		if by.IntN(50) == 0 {
			s.Undo = !s.Undo
		}
		if by.IntN(50) == 0 {
			s.Pivot = !s.Pivot
		}
		d.Steps = append(d.Steps, s)
	}
	return d
}

// words: d in the words of a text; what need not be said is said or not.
func words(by *rand.Rand, d api.Def) []string {
	l := []string{"saga", d.Name, "{"}
	for _, s := range d.Steps {
		l = append(l, "step", s.Name, "stub", strconv.Itoa(s.Stub))
		if s.Retry != 0 || by.IntN(2) == 0 {
			l = append(l, "retry", strconv.Itoa(s.Retry))
		}
		if s.Wait != 10 || by.IntN(2) == 0 {
			l = append(l, "wait", strconv.Itoa(s.Wait))
		}
		if s.Undo {
			l = append(l, "undo")
		}
		if s.Pivot {
			l = append(l, "pivot")
		}
		l = append(l, ";")
	}
	return append(l, "}")
}

func TestAnyDefinitions(t *testing.T) {
	seen := map[api.Errno]int{}
	for seed := range uint64(200) {
		by := rand.New(rand.NewPCG(seed, 15))
		for range 30 {
			d := anyDef(by, by.IntN(8))
			s := strings.Join(words(by, d), []string{" ", "\n", "\t", "  ", "# a }\n"}[by.IntN(5)])
			err := asPlain(t, s)
			if seen[err]++; err == api.OK {
				reads(t, s, d)
			}
		}
	}
	for _, err := range []api.Errno{api.OK, api.ErrArg, api.ErrTwice, api.ErrLate, api.ErrText} {
		if seen[err] < 20 {
			t.Errorf("%v came only %d times", err, seen[err])
		}
	}
}

// spoiled: words of which some are gone, doubled, changed, or others.
func spoiled(by *rand.Rand, l []string) []string {
	pieces := strings.Fields("saga step stub retry wait undo pivot a b 0 1 2 99 { } ; ? A # 12x")
	for range 1 + by.IntN(2) {
		i, j := by.IntN(len(l)), by.IntN(len(l))
		switch by.IntN(5) {
		case 0:
			l = slices.Delete(l, i, i+1)
		case 1:
			l = slices.Insert(l, i, l[i])
		case 2:
			l[i], l[j] = l[j], l[i]
		case 3:
			l[i] = pieces[by.IntN(len(pieces))]
		case 4:
			l = slices.Insert(l, i, pieces[by.IntN(len(pieces))])
		}
	}
	return l
}

func TestSpoiledDefinitions(t *testing.T) {
	for seed := range uint64(300) {
		by := rand.New(rand.NewPCG(seed, 16))
		for range 50 {
			l := spoiled(by, words(by, anyDef(by, 1+by.IntN(4))))
			asPlain(t, strings.Join(l, " "))
			asPlain(t, strings.Join(l[:by.IntN(len(l)+1)], "\n"))
		}
	}
}

// Behind each beginning all that may follow in three tokens, and all that may not.
func TestAllThatFollows(t *testing.T) {
	pieces := strings.Fields("saga step stub retry wait undo pivot b 7 { } ;")
	for _, beginning := range []string{
		"", "saga", "saga a", "saga a {", "saga a { step", "saga a { step c", "saga a { step c stub", "saga a { step c stub 1",
		"saga a { step c stub 1 retry", "saga a { step c stub 1 retry 1", "saga a { step c stub 1 wait", "saga a { step c stub 1 wait 1",
		"saga a { step c stub 1 retry 1 wait 1", "saga a { step c stub 1 undo", "saga a { step c stub 1 pivot", "saga a { step c stub 1 undo pivot",
		"saga a { step c stub 1 undo ;", "saga a { step c stub 1 pivot ;", "saga a { step c stub 1 undo ; }", "saga a { }",
	} {
		asPlain(t, beginning)
		for _, x := range pieces {
			asPlain(t, beginning+" "+x)
			for _, y := range pieces {
				asPlain(t, beginning+" "+x+" "+y)
				for _, z := range pieces {
					asPlain(t, beginning+" "+x+" "+y+" "+z)
				}
			}
		}
	}
}

func TestCheckOfAny(t *testing.T) {
	for seed := range uint64(300) {
		by := rand.New(rand.NewPCG(seed, 17))
		for range 50 {
			d := anyDef(by, by.IntN(11))
			place, fault := plainCheck(d)
			checks(t, d, place, fault)
		}
	}
}

// P13.3

// comesBack holds Parse of Print of d, which Check takes, against d, and tells how many bytes that Print has.
func comesBack(t *testing.T, d api.Def) int {
	t.Helper()
	checks(t, d, 0, api.OK)
	s := def.Print(d)
	if len(s) > maxDef {
		refused(t, s, 0, api.ErrText)
		return len(s)
	}
	reads(t, s, d)
	got, _, _ := def.Parse(s)
	same(t, got, d, true)
	prints(t, got, s)
	return len(s)
}

// lengthen makes each step's name as long as one may be.
func lengthen(d api.Def) {
	for i := range d.Steps {
		s := &d.Steps[i]
		s.Name += strings.Repeat("-", max(0, maxName-len(s.Name)))
	}
}

func TestParseOfPrint(t *testing.T) {
	came, tooMany := 0, 0
	for seed := range uint64(200) {
		by := rand.New(rand.NewPCG(seed, 18))
		for range 50 {
			d := anyDef(by, 1+by.IntN(maxSteps))
			if by.IntN(2) == 0 {
				lengthen(d)
			}
			if _, err := def.Check(d); err != api.OK {
				continue
			}
			if comesBack(t, d) <= maxDef {
				came++
			} else {
				tooMany++
			}
		}
	}
	if came < 1000 || tooMany < 20 {
		t.Errorf("%d came back, %d had too many bytes", came, tooMany)
	}
}

func TestParseOfPrintAtTheEnd(t *testing.T) {
	d := named("a")
	for i := range maxSteps {
		d.Steps = append(d.Steps, undone(string(rune('a'+i))))
	}
	least := len("saga a {") + maxSteps*len(" step a stub 1 retry 0 wait 10 undo;") + len(" }")
	if got := comesBack(t, d); got != least {
		t.Fatalf("%d bytes, want %d", got, least)
	}
	room := []*string{&d.Name}
	for i := range d.Steps {
		room = append(room, &d.Steps[i].Name)
	}
	for n := least + 1; n <= least+len(room)*(maxName-1); n++ { // a name becomes longer, as long as one can
		for len(*room[0]) == maxName {
			room = room[1:]
		}
		*room[0] += "x"
		if got := comesBack(t, d); got != n {
			t.Fatalf("%d bytes, want %d", got, n)
		}
	}
}
