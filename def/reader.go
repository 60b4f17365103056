package def

import (
	"drover/api"
	"drover/lexer"
)

const usualWait = 10

// optional: the words that may follow a step's stub, each once at most, in this order.
var optional = [...]string{"retry", "wait", "undo", "pivot"}

// noKind is that of the text's end: the lexer's kinds are all above it.
const noKind = 0

// want tells whether a token is what is wanted next.
type want func(t lexer.Token) bool

func some(kind int) want {
	return func(t lexer.Token) bool { return t.Kind == kind }
}

// just asks for what is written alone: no word, number or sign is written as one of another kind is.
func just(s string) want {
	return func(t lexer.Token) bool { return t.S == s }
}

// reader goes over a text's tokens. Where one is not what must stand there, it is lost: it stays at that one for good.
type reader struct {
	rest  []lexer.Token // the last one is the text's end
	lost  bool
	names []int // the places of the saga's name, and of the steps' in their order
}

func newReader(l []lexer.Token, end int) *reader {
	return &reader{rest: append(l, lexer.Token{Kind: noKind, At: end})}
}

// place: that of the next token.
func (r *reader) place() int { return r.rest[0].At }

// may goes over the next token, if it is what is wanted.
func (r *reader) may(w want) bool {
	if r.lost || !w(r.rest[0]) {
		return false
	}
	r.rest = r.rest[1:]
	return true
}

// must: the next token, which has to be what is wanted.
func (r *reader) must(w want) lexer.Token {
	t := r.rest[0]
	if !r.may(w) {
		r.lost = true
		return lexer.Token{}
	}
	return t
}

func (r *reader) definition() api.Def {
	r.must(just("saga"))
	d := api.Def{Name: r.name()}
	r.must(just("{"))
	for r.may(just("step")) {
		d.Steps = append(d.Steps, r.step())
	}
	r.must(just("}"))
	r.must(some(noKind))
	return d
}

func (r *reader) step() api.Step {
	s := api.Step{Name: r.name(), Wait: usualWait}
	r.must(just("stub"))
	s.Stub = r.number()
	for _, w := range optional {
		if r.may(just(w)) {
			r.take(w, &s)
		}
	}
	r.must(just(";"))
	return s
}

// take: what that word, which was read, says of s.
func (r *reader) take(w string, s *api.Step) {
	switch w {
	case "retry":
		s.Retry = r.number()
	case "wait":
		s.Wait = r.number()
	case "undo":
		s.Undo = true
	case "pivot":
		s.Pivot = true
	}
}

func (r *reader) name() string {
	t := r.must(some(lexer.Word))
	r.names = append(r.names, t.At)
	return t.S
}

func (r *reader) number() int { return r.must(some(lexer.Number)).N }
