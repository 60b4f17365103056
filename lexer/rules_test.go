package lexer_test

import (
	"slices"
	"strings"
	"testing"
	"unsafe"

	"drover/api"
	"drover/lexer"
)

// The rules that hold everywhere, P1 and the bound, for this package. (R5 speaks of objects: there are none here.)

// texts: some of all sorts.
func texts() []string {
	l := []string{"", " ", "a", "A", "1", ";", "#", "-", "\x00", "\xff", "é", "\ufffd", whole, whole + "?", strings.Repeat("a", maxDef), strings.Repeat("a", maxDef+1), strings.Repeat("\xff", maxDef), strings.Repeat("9", maxDef), strings.Repeat("#", 1<<20), strings.Repeat("a", 1<<20)}
	for n := range whole {
		l = append(l, whole[:n], whole[n:])
	}
	return l
}

// R1, P1

func TestEveryCallEnds(t *testing.T) {
	for _, s := range texts() {
		l, _, _ := lexer.Tokens(s)
		lexer.Text(l)
		lexer.Name(s)
		lexer.Text([]lexer.Token{{}, {Kind: -1, S: s, N: -1, At: -1}, {Kind: 1 << 62, S: s}})
	}
	lexer.Text(nil)
	lexer.Text([]lexer.Token{})
}

// R2, R7

func TestNothingStandsBesideAnError(t *testing.T) {
	for _, s := range []string{"a b {?", "a b {" + strings.Repeat(";", maxDef), strings.Repeat("a ", maxDef)} {
		got, at, err := lexer.Tokens(s)
		if len(got) != 0 || err == api.OK || at != 0 && err == api.ErrText {
			t.Errorf("Tokens(%q): %v, %d, %v", s, got, at, err)
		}
	}
}

func TestTooLongStandsAheadOfWhatMayNotBe(t *testing.T) {
	for _, n := range []int{0, 1, 200, maxDef - 1, maxDef, maxDef + 1} {
		tooLong(t, strings.Repeat(" ", n)+"?"+strings.Repeat("?", maxDef))
	}
}

func TestNilAndEmptyListsAreTheSame(t *testing.T) {
	if a, b := lexer.Text(nil), lexer.Text([]lexer.Token{}); a != "" || b != "" {
		t.Errorf("Text: %q of nil, %q of an empty list", a, b)
	}
}

// R3

func TestTextChangesNothing(t *testing.T) {
	full := []lexer.Token{word("a", 0), number("1", 1, 2), sign(";", 3), word("behind", 4), word("end", 5)}
	before := slices.Clone(full)
	for n := range len(full) + 1 {
		text(t, strings.Join([]string{"a", "1", ";", "behind", "end"}[:n], " "), full[:n]...)
		if !slices.Equal(full, before) {
			t.Fatalf("behind Text of %d: %v", n, full)
		}
	}
}

func TestTokensAreNewMemory(t *testing.T) {
	a, _, _ := lexer.Tokens(whole)
	b, _, _ := lexer.Tokens(whole)
	want := slices.Clone(b)
	a = a[:cap(a)]
	for i := range a {
		a[i] = lexer.Token{Kind: -1, S: "scribble", N: -1, At: -1}
	}
	if !slices.Equal(b, want) {
		t.Errorf("what was told became %v", b)
	}
	tokens(t, whole, want...)
}

// within: does one text stand in the other one's memory?
func within(s, all string) bool {
	at, from := uintptr(unsafe.Pointer(unsafe.StringData(s))), uintptr(unsafe.Pointer(unsafe.StringData(all)))
	return at >= from && at < from+uintptr(len(all))
}

func TestNoAnswerHoldsATextThatWasHandedIn(t *testing.T) {
	s := strings.Repeat("word 77 { ", 40)
	l, _, _ := lexer.Tokens(s)
	for _, x := range l {
		if within(x.S, s) {
			t.Fatalf("%v stands in the text that was handed in", x)
		}
	}
	if got := lexer.Text(l[:1]); within(got, l[0].S) {
		t.Error("Text of one token stands in that token")
	}
}

// R4

func TestAnswersAreTheSameAgain(t *testing.T) {
	for range 100 {
		tokens(t, "saga a{1}", word("saga", 0), word("a", 5), sign("{", 6), number("1", 1, 7), sign("}", 8))
		fault(t, "a A", 2)
		tooLong(t, strings.Repeat("a", maxDef+1))
		tokens(t, "")
		text(t, "a ;", word("a", 0), sign(";", 1))
		if !lexer.Name("a") || lexer.Name("A") {
			t.Fatal("another answer than at first")
		}
	}
}

// R6

func TestNumbersDoNotWrap(t *testing.T) {
	for n := 1; n <= maxDef; n++ {
		for _, digit := range []string{"1", "2", "4", "5", "8", "9"} {
			l, _, err := lexer.Tokens(strings.Repeat(digit, n))
			if err != api.OK || len(l) != 1 || n >= 7 && l[0].N != maxNumber || n < 7 && (l[0].N >= maxNumber || l[0].N <= 0) {
				t.Fatalf("of %d times %s: %v, %v", n, digit, l, err)
			}
		}
	}
}

// The bound, and the language's rule 8

func TestMuchIsTaken(t *testing.T) {
	const many = 1 << 21
	l := slices.Repeat([]lexer.Token{word("abc", 0)}, many)
	if got := lexer.Text(l); len(got) != 4*many-1 || got != strings.Repeat("abc ", many)[:4*many-1] {
		t.Errorf("Text of %d tokens has %d bytes", many, len(got))
	}
	great := strings.Repeat("a", 1<<26)
	for range 1000 { // which is seen by their lengths alone
		if lexer.Name(great) {
			t.Fatal("a name of many bytes")
		}
		tooLong(t, great)
	}
	if lexer.Text([]lexer.Token{word(great, 0), word("a", 0)}) != great+" a" {
		t.Error("Text of a great token is another")
	}
}
