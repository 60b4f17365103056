package lexer_test

import (
	"math/rand/v2"
	"regexp"
	"slices"
	"strconv"
	"strings"
	"testing"

	"drover/api"
	"drover/lexer"
)

// The signatures that the chapter lists, and its kinds.
var (
	_ func(string) ([]lexer.Token, int, api.Errno) = lexer.Tokens
	_ func([]lexer.Token) string                   = lexer.Text
	_ func(string) bool                            = lexer.Name
	_ struct {
		Kind int
		S    string
		N    int
		At   int
	} = lexer.Token{}
	_ [lexer.Word]byte   = [1]byte{}
	_ [lexer.Number]byte = [2]byte{}
	_ [lexer.Sign]byte   = [3]byte{}
)

// The limits, by their numbers: a definition's bytes, a name's, and what a number is at most.
const (
	maxDef    = 400
	maxName   = 16
	maxNumber = 1000000
)

func word(s string, at int) lexer.Token { return lexer.Token{Kind: 1, S: s, At: at} }

func number(s string, n, at int) lexer.Token { return lexer.Token{Kind: 2, S: s, N: n, At: at} }

func sign(s string, at int) lexer.Token { return lexer.Token{Kind: 3, S: s, At: at} }

// tokens: s is these tokens.
func tokens(t *testing.T, s string, want ...lexer.Token) {
	t.Helper()
	if got, at, err := lexer.Tokens(s); !slices.Equal(got, want) || at != 0 || err != api.OK {
		t.Errorf("Tokens(%q): %v, %d, %v, want %v", s, got, at, err, want)
	}
}

// fault: s is none, as the byte at that place may not stand there.
func fault(t *testing.T, s string, want int) {
	t.Helper()
	if got, at, err := lexer.Tokens(s); len(got) != 0 || at != want || err != api.ErrSyntax {
		t.Errorf("Tokens(%q): %v, %d, %v, want %d, %v", s, got, at, err, want, api.ErrSyntax)
	}
}

// tooLong: s has too many bytes.
func tooLong(t *testing.T, s string) {
	t.Helper()
	if got, at, err := lexer.Tokens(s); len(got) != 0 || at != 0 || err != api.ErrText {
		t.Errorf("Tokens of %d bytes: %v, %d, %v, want %v", len(s), got, at, err, api.ErrText)
	}
}

// whole: a text of all sorts of tokens, and of all that stands between them.
const whole = "saga pay-2 { # it pays: 9 \xff A\n\tstep hold_on stub 1 retry 007 undo;\n  step ship stub 4 wait 99 pivot ;}"

// P12.1: Name

func TestName(t *testing.T) {
	for _, s := range []string{"a", "z", "m", "aa", "az", "a0", "a9", "a-", "a_", "b-_0", "step", "saga", "undo", "a--", "a__", "z9-_az09", "abcdefghijklmno", "abcdefghijklmnop", "a123456789-_bcde", strings.Repeat("z", maxName), "a" + strings.Repeat("-", maxName-1)} {
		if !lexer.Name(s) {
			t.Errorf("Name(%q): false", s)
		}
	}
	for _, s := range []string{"", " ", "A", "Z", "aB", "aZ", "0", "9", "0a", "9a", "-", "_", "-a", "_a", " a", "a ", "a b", "a\n", "\ta", "a\x00", "\x00", "a{", "a}", "a;", ";", "#", "a#", "a.b", "a+", "a/", "a:", "`", "a`", "a{b", "a^", "a@", "é", "aé", "ａ", "aａ", "a0０", "ß", "aª", "a\xff", "\xff", "a\x80", "a\xc3", "a\ufffd", "a\u2010"} {
		if lexer.Name(s) {
			t.Errorf("Name(%q): true", s)
		}
	}
}

func TestNamesAreLongEnoughAndNotTooLong(t *testing.T) {
	for n := range 60 {
		for _, c := range []string{"a", "z", "q"} {
			s := strings.Repeat(c, n)
			if got, want := lexer.Name(s), n >= 1 && n <= 16; got != want {
				t.Errorf("Name of %d bytes: %v", n, got)
			}
		}
	}
}

// goodName is what the chapter says, byte by byte.
func goodName(s string) bool {
	const letters, others = "abcdefghijklmnopqrstuvwxyz", "0123456789-_"
	if len(s) == 0 || len(s) > maxName || strings.IndexByte(letters, s[0]) < 0 {
		return false
	}
	for i := 1; i < len(s); i++ {
		if strings.IndexByte(letters+others, s[i]) < 0 {
			return false
		}
	}
	return true
}

func TestNamesOfAnyBytes(t *testing.T) {
	for a := range 256 {
		for b := range 256 {
			one, two := string([]byte{byte(a)}), string([]byte{byte(a), byte(b)})
			for _, s := range []string{one, two, "q" + two, "q" + one + "q", strings.Repeat("q", 14) + two, strings.Repeat("q", 15) + two} {
				if got, want := lexer.Name(s), goodName(s); got != want {
					t.Fatalf("Name(%q): %v", s, got)
				}
			}
		}
	}
	for c := rune(0); c < 0x30000; c++ { // no rune is as good as the byte that is left of it
		s := "a" + string(c)
		if got, want := lexer.Name(s), goodName(s); got != want {
			t.Fatalf("Name(%q): %v", s, got)
		}
	}
}

func TestNamesAtEachPlace(t *testing.T) {
	for n := 1; n <= maxName+2; n++ {
		for at := range n {
			for _, c := range "az09-_AZ{ #\x00\u007f\u00e9" {
				b := []rune(strings.Repeat("k", n))
				b[at] = c
				s := string(b)
				if got, want := lexer.Name(s), goodName(s); got != want {
					t.Fatalf("Name(%q): %v", s, got)
				}
			}
		}
	}
}

// P12.1: Tokens

func TestTheChaptersExamples(t *testing.T) {
	tokens(t, "saga a{}", word("saga", 0), word("a", 5), sign("{", 6), sign("}", 7))
	fault(t, "a A", 2)
}

func TestWords(t *testing.T) {
	tokens(t, "a", word("a", 0))
	tokens(t, "z", word("z", 0))
	tokens(t, "step", word("step", 0))
	tokens(t, "a0", word("a0", 0))
	tokens(t, "a9-_z", word("a9-_z", 0))
	tokens(t, "a-", word("a-", 0))
	tokens(t, "a_", word("a_", 0))
	tokens(t, "a b", word("a", 0), word("b", 2))
	tokens(t, "a-b a_b", word("a-b", 0), word("a_b", 4))
	tokens(t, strings.Repeat("a", 17), word(strings.Repeat("a", 17), 0)) // a word may be longer than a name
	tokens(t, strings.Repeat("z", maxDef), word(strings.Repeat("z", maxDef), 0))
}

func TestNumbers(t *testing.T) {
	tokens(t, "0", number("0", 0, 0))
	tokens(t, "1", number("1", 1, 0))
	tokens(t, "9", number("9", 9, 0))
	tokens(t, "10", number("10", 10, 0))
	tokens(t, "1234567890", number("1234567890", maxNumber, 0))
	tokens(t, "007", number("007", 7, 0))
	tokens(t, "000", number("000", 0, 0))
	tokens(t, " 12  34", number("12", 12, 1), number("34", 34, 5))
	tokens(t, "1a", number("1", 1, 0), word("a", 1))
	tokens(t, "12a3 4b", number("12", 12, 0), word("a3", 2), number("4", 4, 5), word("b", 6))
	for n := range 3000 {
		s := strconv.Itoa(n)
		tokens(t, s, number(s, n, 0))
	}
}

func TestNumbersAreAtMostAMillion(t *testing.T) {
	for _, c := range []struct {
		s string
		n int
	}{
		{"99999", 99999}, {"100000", 100000}, {"999998", 999998}, {"999999", 999999}, {"1000000", 1000000}, {"1000001", 1000000}, {"1000009", 1000000}, {"1000010", 1000000}, {"1999999", 1000000}, {"2000000", 1000000}, {"9999999", 1000000}, {"10000000", 1000000},
		{"0999999", 999999}, {"00001000000", 1000000}, {"00000000000000000000000000999999", 999999}, {"00000000000000000000000001000001", 1000000},
		{"2147483647", 1000000}, {"2147483648", 1000000}, {"4294967295", 1000000}, {"4294967296", 1000000}, {"4294967301", 1000000},
		{"9223372036854775807", 1000000}, {"9223372036854775808", 1000000}, {"18446744073709551615", 1000000}, {"18446744073709551616", 1000000}, {"18446744073709551621", 1000000}, {"36893488147419103239", 1000000},
		{"340282366920938463463374607431768211456", 1000000},
		{strings.Repeat("9", maxDef), 1000000}, {strings.Repeat("0", maxDef), 0}, {strings.Repeat("0", maxDef-1) + "8", 8}, {strings.Repeat("0", maxDef-7) + "1000000", 1000000}, {"1" + strings.Repeat("0", maxDef-1), 1000000},
	} {
		tokens(t, c.s, number(c.s, c.n, 0))
	}
}

func TestSigns(t *testing.T) {
	tokens(t, "{", sign("{", 0))
	tokens(t, "}", sign("}", 0))
	tokens(t, ";", sign(";", 0))
	tokens(t, "{{}};;", sign("{", 0), sign("{", 1), sign("}", 2), sign("}", 3), sign(";", 4), sign(";", 5)) // each one alone
	tokens(t, "a;1{b-}2", word("a", 0), sign(";", 1), number("1", 1, 2), sign("{", 3), word("b-", 4), sign("}", 6), number("2", 2, 7))
	tokens(t, "; {\n}", sign(";", 0), sign("{", 2), sign("}", 4))
}

func TestBlanksStandBetween(t *testing.T) {
	for _, s := range []string{"", " ", "\t", "\n", "  ", "\n\n", " \t\n \t\n", strings.Repeat(" ", maxDef), strings.Repeat("\n", maxDef)} {
		tokens(t, s)
	}
	tokens(t, "a b", word("a", 0), word("b", 2))
	tokens(t, "a\tb", word("a", 0), word("b", 2))
	tokens(t, "a\nb", word("a", 0), word("b", 2))
	tokens(t, "\n a \t\n 1\t", word("a", 2), number("1", 1, 7))
	tokens(t, "1 2", number("1", 1, 0), number("2", 2, 2))
	tokens(t, strings.Repeat(" ", maxDef-1)+"a", word("a", maxDef-1))
	for _, blank := range []string{"\r", "\v", "\f", "\x00", "\x1f", "\x7f", "\u0085", "\u00a0", "\u2003", "\ufeff"} { // no others are
		fault(t, blank, 0)
		fault(t, "a"+blank+"b", 1)
		fault(t, "a b\n"+blank, 4)
	}
}

func TestRemarks(t *testing.T) {
	for _, s := range []string{"#", "##", "# a", "#a{1;", "#\n", "#\n#", "# A é \xff \x00 \r ?\n", " #", "\n#\n", "#" + strings.Repeat("?", maxDef-1)} {
		tokens(t, s)
	}
	tokens(t, "a#b\nc", word("a", 0), word("c", 4))
	tokens(t, "a #b\n#c\n d", word("a", 0), word("d", 9))
	tokens(t, "1#2\n3", number("1", 1, 0), number("3", 3, 4))
	tokens(t, ";#\n;", sign(";", 0), sign(";", 3))
	tokens(t, "#a#b\nc", word("c", 5))
	tokens(t, "a#b", word("a", 0))
	tokens(t, "#a\r\tb\nc", word("c", 6)) // nothing but a line feed ends it
	fault(t, "#a\nA", 3)
	fault(t, "A#", 0)
	for c := range 256 {
		if c != '\n' {
			s := string([]byte{byte(c)})
			tokens(t, "x#"+s, word("x", 0))
			tokens(t, "x#"+s+"y\nz", word("x", 0), word("z", 5))
		}
	}
}

func TestPlaces(t *testing.T) {
	tokens(t, whole,
		word("saga", 0), word("pay-2", 5), sign("{", 11),
		word("step", 31), word("hold_on", 36), word("stub", 44), number("1", 1, 49), word("retry", 51), number("007", 7, 57), word("undo", 61), sign(";", 65),
		word("step", 69), word("ship", 74), word("stub", 79), number("4", 4, 84), word("wait", 86), number("99", 99, 91), word("pivot", 94), sign(";", 100), sign("}", 101))
	tokens(t, "#é\na", word("a", 4)) // they are counted in bytes
	fault(t, "#é\n\xc3", 4)
}

func TestAnotherByte(t *testing.T) {
	good := "abcdefghijklmnopqrstuvwxyz0123456789{}; \t\n#"
	follow := "-_" // which may stand in a word, but not begin one
	for c := range 256 {
		s := string([]byte{byte(c)})
		if strings.Contains(good, s) {
			continue
		}
		fault(t, s, 0)
		fault(t, " "+s, 1)
		fault(t, "ab {"+s+"}", 4)
		fault(t, "12"+s+"?", 2)
		fault(t, "# "+s+"\n;"+s, 5)
		fault(t, strings.Repeat(";", maxDef-1)+s, maxDef-1)
		if !strings.Contains(follow, s) {
			fault(t, "ab"+s+"cd", 2)
		}
	}
	fault(t, "a -b", 2)
	fault(t, "-1", 0)
	fault(t, "1_000", 1)
	fault(t, "1-2", 1)
	fault(t, "1.5", 1)
	fault(t, "é", 0)
	fault(t, "aé", 1)
	fault(t, "saga A { ?", 5) // the first one
}

func TestAtMostSoManyBytes(t *testing.T) {
	for _, c := range []string{" ", "a", "0", ";", "#", "\n"} {
		if _, at, err := lexer.Tokens(strings.Repeat(c, maxDef)); at != 0 || err != api.OK {
			t.Errorf("Tokens of %d times %q: %d, %v", maxDef, c, at, err)
		}
		for _, n := range []int{maxDef + 1, maxDef + 2, 2 * maxDef, 65536, 1 << 20} {
			tooLong(t, strings.Repeat(c, n))
		}
	}
	var want []lexer.Token
	for at := range maxDef {
		want = append(want, sign(";", at))
	}
	tokens(t, strings.Repeat(";", maxDef), want...)
	tooLong(t, "?"+strings.Repeat(" ", maxDef)) // ahead of what may not stand there
	fault(t, "?"+strings.Repeat(" ", maxDef-1), 0)
	fault(t, strings.Repeat(" ", maxDef-1)+"?", maxDef-1)
	tooLong(t, strings.Repeat(" ", maxDef)+"?")
	tokens(t, "#"+strings.Repeat("é", maxDef/2-1)+"x") // bytes are counted, not runes
	tooLong(t, "#"+strings.Repeat("é", maxDef/2))
}

// cutOne is what a text may begin with: a blank or a remark, a word, a number, a sign.
var cutOne = regexp.MustCompile(`^(?:([ \t\n]|#[^\n]*)|([a-z][a-z0-9_-]*)|([0-9]+)|([{};]))`)

// cut is what the chapter says of Tokens.
func cut(s string) ([]lexer.Token, int, api.Errno) {
	if len(s) > maxDef {
		return nil, 0, api.ErrText
	}
	var l []lexer.Token
	for at := 0; at < len(s); {
		m := cutOne.FindStringSubmatch(s[at:])
		switch {
		case m == nil:
			return nil, at, api.ErrSyntax
		case m[2] != "":
			l = append(l, word(m[2], at))
		case m[3] != "":
			n, err := strconv.Atoi(m[3])
			if err != nil {
				n = maxNumber
			}
			l = append(l, number(m[3], min(n, maxNumber), at))
		case m[4] != "":
			l = append(l, sign(m[4], at))
		}
		at += len(m[0])
	}
	return l, 0, api.OK
}

func asCut(t *testing.T, s string) {
	t.Helper()
	got, at, err := lexer.Tokens(s)
	if want, place, fault := cut(s); !slices.Equal(got, want) || at != place || err != fault {
		t.Fatalf("Tokens(%q): %v, %d, %v, want %v, %d, %v", s, got, at, err, want, place, fault)
	}
}

func TestAllShortTexts(t *testing.T) {
	alphabet := []string{"a", "z", "0", "9", "-", "_", "{", "}", ";", " ", "\t", "\n", "#", "A", "\xe9"}
	texts := []string{""}
	for range 4 {
		var longer []string
		for _, s := range texts {
			asCut(t, s)
			for _, c := range alphabet {
				longer = append(longer, s+c)
			}
		}
		texts = longer
	}
	for _, s := range texts {
		asCut(t, s)
	}
}

// anyText: a text by chance, of pieces of which at times some may not stand there.
func anyText(by *rand.Rand, atMost int) string {
	pieces := []string{"a", "saga", "step", "x-1", "y_", "0", "7", "12", "999999", "1000000", "1000001", "99999999999999999999", "{", "}", ";", " ", " ", "\t", "\n", "\n", "#", "# a 1 ?\n"}
	if by.IntN(3) == 0 {
		pieces = append(pieces, "-", "_", "A", "é", "\x00", "\xff")
	}
	var b strings.Builder
	for b.Len() < atMost {
		b.WriteString(pieces[by.IntN(len(pieces))])
	}
	return b.String()
}

func TestAnyTexts(t *testing.T) {
	for seed := range uint64(200) {
		by := rand.New(rand.NewPCG(seed, 12))
		for range 100 {
			s := anyText(by, by.IntN(100))
			asCut(t, s)
			asCut(t, anyText(by, 2*maxDef)[:maxDef-4+by.IntN(8)])
			b := []byte(s) // a byte of it is another
			if len(b) > 0 {
				b[by.IntN(len(b))] = byte(by.IntN(256))
			}
			asCut(t, string(b))
		}
	}
}

func TestAWordIsANameIfItIsNotTooLong(t *testing.T) {
	for seed := range uint64(50) {
		by := rand.New(rand.NewPCG(seed, 13))
		l, _, _ := lexer.Tokens(anyText(by, 200))
		for _, x := range l {
			if got, want := lexer.Name(x.S), x.Kind == lexer.Word && len(x.S) <= maxName; got != want {
				t.Errorf("Name of %v: %v", x, got)
			}
		}
	}
}

// P12.2

func text(t *testing.T, want string, l ...lexer.Token) {
	t.Helper()
	if got := lexer.Text(l); got != want {
		t.Errorf("Text(%v): %q, want %q", l, got, want)
	}
}

func TestText(t *testing.T) {
	text(t, "")
	text(t, "a", word("a", 0))
	text(t, "saga a { }", word("saga", 0), word("a", 5), sign("{", 6), sign("}", 7))
	text(t, "007 1 ; x", number("007", 7, 0), number("1", 1, 0), sign(";", 0), word("x", 0))
	l, _, err := lexer.Tokens(whole)
	if err != api.OK {
		t.Fatal(err)
	}
	text(t, "saga pay-2 { step hold_on stub 1 retry 007 undo ; step ship stub 4 wait 99 pivot ; }", l...)
}

func TestTextLooksAtSAlone(t *testing.T) {
	text(t, "a", lexer.Token{S: "a"})
	text(t, "a b", lexer.Token{Kind: -1, S: "a", N: 9, At: -9}, lexer.Token{Kind: 99, S: "b", N: -1, At: 1 << 62})
	text(t, "12 -", number("12", 99, 3), sign("-", 1))
	text(t, "b a", word("b", 9), word("a", 0)) // not by their places
}

func TestTextOfAnyTokens(t *testing.T) {
	text(t, "", lexer.Token{})
	text(t, " ", lexer.Token{}, lexer.Token{})
	text(t, " a ", lexer.Token{}, word("a", 0), lexer.Token{})
	text(t, "  \n \t", word(" ", 0), word("\n", 0), word("\t", 0))
	text(t, "é \xff \x00", word("é", 0), word("\xff", 0), word("\x00", 0))
	text(t, "# A", word("#", 0), word("A", 0))
	for n := 1; n < 50; n++ {
		text(t, strings.TrimSuffix(strings.Repeat("ab ", n), " "), slices.Repeat([]lexer.Token{word("ab", 7)}, n)...)
	}
}

// P12.3

// comesBack holds the tokens of Text of the tokens of s against these; false: s has none, or that Text is too long.
func comesBack(t *testing.T, s string) bool {
	t.Helper()
	l, _, err := lexer.Tokens(s)
	if err != api.OK {
		return false
	}
	again := lexer.Text(l)
	if len(again) > maxDef {
		tooLong(t, again)
		return false
	}
	got, at, err := lexer.Tokens(again)
	if at != 0 || err != api.OK || !slices.EqualFunc(got, l, func(a, b lexer.Token) bool {
		a.At = b.At
		return a == b
	}) {
		t.Errorf("of %q %v became %v, %d, %v", s, l, got, at, err)
	}
	place := 0
	for _, x := range got {
		if x.At != place {
			t.Errorf("of %q %v stands at %d, want %d", again, x, x.At, place)
		}
		place += len(x.S) + 1
	}
	if lexer.Text(got) != again {
		t.Errorf("of %q Text is another", again)
	}
	return true
}

func TestTokensOfText(t *testing.T) {
	for _, s := range []string{"", "a", "# a", "saga a{}", "1a2-b;3{4}", "a#b\nc", "12 34", "1000001 00 007", "a\n\n\tb", whole, strings.Repeat("z", maxDef), strings.Repeat("9", maxDef), strings.Repeat("a ", maxDef/2), strings.Repeat(";", maxDef/2), strings.Repeat("1a", maxDef/4)} {
		if !comesBack(t, s) {
			t.Errorf("Tokens(%q) of Text of its tokens: none", s)
		}
	}
	came := 0
	for seed := range uint64(100) {
		by := rand.New(rand.NewPCG(seed, 14))
		for range 50 {
			if comesBack(t, anyText(by, by.IntN(maxDef-20))) {
				came++
			}
		}
	}
	if came < 1000 {
		t.Errorf("only %d texts came back", came)
	}
}

func TestTokensOfTextAtTheEnd(t *testing.T) {
	if !comesBack(t, strings.Repeat(";", 199)+"ab") || len(lexer.Text(slices.Repeat([]lexer.Token{sign(";", 0)}, 199)))+3 != maxDef {
		t.Error("a Text of 400 bytes does not come back")
	}
	for _, s := range []string{strings.Repeat(";", 199) + "abc", strings.Repeat(";", 201), strings.Repeat("{", maxDef), strings.Repeat("1a", maxDef/2)} { // whose Text has 401, and more
		if comesBack(t, s) {
			t.Errorf("Tokens of Text of the tokens of %q: OK", s)
		}
	}
}
