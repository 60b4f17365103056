package saga_test

import (
	"math/rand/v2"
	"slices"
	"strings"
	"testing"

	"drover/api"
	"drover/def"
	"drover/plan"
	"drover/saga"
)

// What the chapter says, word by word: of each step by itself, with no array held against another, and nothing of chapter 14.

func plainGood(s saga.Saga) bool {
	if _, err := def.Check(s.Def); err != api.OK || s.State < 1 || s.State > 5 {
		return false
	}
	n := len(s.Def.Steps)
	ended := s.State == api.Done || s.State == api.Aborted
	for i, h := range s.Hit {
		step := i + 1
		switch {
		case step > n && h, ended && step <= n && h != (s.State == api.Done), !ended && step < s.Step && !h, !ended && step > s.Step && h:
			return false
		}
	}
	if ended {
		return s.Step == 0 && s.Try == 0
	}
	if s.Step < 1 || s.Step > n {
		return false
	}
	at := s.Def.Steps[s.Step-1]
	switch s.State {
	case api.Stuck:
		return s.Try == 0
	case api.Undoing:
		return s.Try >= 1 && s.Try <= at.Retry+1 && s.Hit[s.Step-1] && at.Undo
	}
	return s.Try >= 1 && s.Try <= at.Retry+1
}

func plainWants(s saga.Saga) (api.Command, int, bool) {
	if !plainGood(s) || s.State > api.Undoing {
		return api.Command{}, 0, false
	}
	at := s.Def.Steps[s.Step-1]
	return api.Command{Stub: at.Stub, Step: s.Step, Try: s.Try, Back: s.State == api.Undoing}, at.Wait, true
}

func plainSealed(s saga.Saga) bool {
	for i, step := range s.Def.Steps {
		if step.Pivot {
			return s.Hit[i]
		}
	}
	return false
}

// plainDown: s, at the greatest step up to its own that is hit and has Undo, or Aborted.
func plainDown(s saga.Saga) saga.Saga {
	for ; s.Step > 0; s.Step-- {
		if s.Hit[s.Step-1] && s.Def.Steps[s.Step-1].Undo {
			s.State, s.Try = api.Undoing, 1
			return s
		}
	}
	s.State, s.Try = api.Aborted, 0
	return s
}

func plainFails(s saga.Saga) saga.Saga {
	if plainSealed(s) {
		s.State, s.Try = api.Stuck, 0
		return s
	}
	return plainDown(s)
}

func plainEvent(s saga.Saga, e event) (saga.Saga, bool) {
	c, _, ok := plainWants(s)
	if !ok || e.step != c.Step || e.try != c.Try || e.back != c.Back {
		return s, false
	}
	if e.lapse && !e.back {
		s.Hit[s.Step-1] = true
	}
	more := s.Try < s.Def.Steps[s.Step-1].Retry+1
	switch good := e.good && !e.lapse; {
	case !e.back && good:
		s.Hit[s.Step-1] = true
		s.Step, s.Try = s.Step+1, 1
		if s.Step > len(s.Def.Steps) {
			s.State, s.Step, s.Try = api.Done, 0, 0
		}
	case e.back && good:
		s.Hit[s.Step-1] = false
		s = plainDown(s)
	case more:
		s.Try++
	case e.back:
		s.State, s.Try = api.Stuck, 0
	default:
		s = plainFails(s)
	}
	return s, true
}

func plainCancel(s saga.Saga) (saga.Saga, api.Errno) {
	switch {
	case !plainGood(s):
		return s, api.ErrArg
	case s.State == api.Undoing:
		return s, api.OK
	case s.State != api.Running, plainSealed(s), s.Def.Steps[s.Step-1].Pivot:
		return saga.Saga{}, api.ErrLate
	}
	s.Hit[s.Step-1] = true
	return plainFails(s), api.OK
}

// asPlain holds all that is told of s against what is told plainly, and tells whether it is Good. What is told of a Good one is Good (P15.4).
func asPlain(t *testing.T, s saga.Saga, events ...event) bool {
	t.Helper()
	good := plainGood(s)
	goodIs(t, s, good)
	c, ticks, ok := plainWants(s)
	wants(t, s, c, ticks, ok)
	next, err := plainCancel(s)
	cancelled(t, s, next, err)
	told := []saga.Saga{}
	if err == api.OK {
		told = append(told, next)
	}
	for _, e := range events {
		next, ok := plainEvent(s, e)
		becomes(t, s, e, next, ok)
		told = append(told, next)
	}
	for _, next := range told {
		if good {
			goodIs(t, next, true)
		}
	}
	if t.Failed() {
		t.FailNow()
	}
	return good
}

// about: events about that step and try, and those next to them.
func about(step, try int) []event {
	var l []event
	for i := step - 1; i <= step+1; i++ {
		for j := try - 1; j <= try+1; j++ {
			for _, back := range []bool{false, true} {
				l = append(l, event{step: i, try: j, back: back, good: true}, event{step: i, try: j, back: back}, event{lapse: true, step: i, try: j, back: back})
			}
		}
	}
	return l
}

// Of all definitions of up to four steps all that a saga may be, and what it may not.
func TestAllShortSagas(t *testing.T) {
	count, all := 0, 0
	for _, letters := range mayBe() {
		n := len(letters)
		if n > 4 {
			continue
		}
		for hit := range 1 << (n + 2) {
			h := ""
			for i := range n + 1 {
				h += map[int]string{0: " ", 1: "x"}[hit>>i&1]
			}
			if hit>>(n+1) == 1 {
				h = (h + strings.Repeat(" ", maxSteps))[:maxSteps-1] + "x"
			}
			for state := range 7 {
				for step := -1; step <= n+1; step++ {
					for try := -1; try <= 4; try++ {
						all++
						s := at(letters, state, step, try, h)
						if asPlain(t, s, event{step: step, try: try, back: state == api.Undoing, good: hit%2 == 0}, event{lapse: true, step: step, try: try, back: state == api.Undoing}) {
							asPlain(t, s, about(step, try)...)
							count++
						}
					}
				}
			}
		}
	}
	if count < 250 || all < 50000 {
		t.Errorf("%d of %d are Good", count, all)
	}
}

// anyDef: a definition that may be.
func anyDef(by *rand.Rand) api.Def {
	l := mayBe()
	d := drawn(l[by.IntN(len(l))])
	for i := range d.Steps {
		s := &d.Steps[i]
		s.Stub, s.Retry, s.Wait = 1+by.IntN(maxStubs), by.IntN(4), 1+by.IntN(maxWait)
		if by.IntN(20) == 0 {
			s.Retry = maxBudget
		}
	}
	return d
}

// anyEvent: mostly one about what s wants.
func anyEvent(by *rand.Rand, s saga.Saga, good int) event {
	e := event{lapse: by.IntN(6) == 0, step: s.Step, try: s.Try, back: s.State == api.Undoing, good: by.IntN(100) < good}
	switch by.IntN(12) {
	case 0:
		e.step += by.IntN(5) - 2
	case 1:
		e.try += by.IntN(5) - 2
	case 2:
		e.back = !e.back
	}
	return e
}

// way is what a saga went through, as its events say it.
type way struct {
	hit    map[int]bool // those that may have run forward
	wanted []int        // the steps that were wanted back, each once
	undone []int
	tries  int
}

func (w *way) sees(s saga.Saga, e event) {
	w.tries++
	switch {
	case !e.back && (e.lapse || e.good):
		w.hit[e.step] = true
	case e.back && e.good && !e.lapse:
		w.undone = append(w.undone, e.step)
	}
	if s.State == api.Undoing && !slices.Contains(w.wanted, s.Step) {
		w.wanted = append(w.wanted, s.Step)
	}
}

// endsWell: P15.4, and that Done, Aborted and Stuck say what they are to say.
func (w *way) endsWell(t *testing.T, s saga.Saga) {
	t.Helper()
	for i := 1; i < len(w.wanted); i++ {
		if w.wanted[i] >= w.wanted[i-1] {
			t.Fatalf("%s: wanted back %v", tell(s), w.wanted)
		}
	}
	if w.tries > plan.Commands(s.Def) {
		t.Fatalf("%s: %d tries", tell(s), w.tries)
	}
	falling := []int{}
	for step := maxSteps; step > 0; step-- {
		if w.hit[step] {
			falling = append(falling, step)
		}
	}
	switch s.State {
	case api.Done:
		if len(w.undone) > 0 || len(w.hit) != len(s.Def.Steps) {
			t.Fatalf("%s: hit %v, undone %v", tell(s), falling, w.undone)
		}
	case api.Aborted:
		if !slices.Equal(w.undone, falling) {
			t.Fatalf("%s: hit %v, undone %v", tell(s), falling, w.undone)
		}
	case api.Stuck:
		if s.Def.Steps[s.Step-1].Undo != (len(w.wanted) > 0) {
			t.Fatalf("%s: wanted back %v", tell(s), w.wanted)
		}
	default:
		t.Fatalf("%s goes on", tell(s))
	}
}

// goOn: a saga of d, as it goes on by chance up to its end.
func goOn(t *testing.T, by *rand.Rand, d api.Def, good int) int {
	t.Helper()
	s := begun(t, d)
	w := way{hit: map[int]bool{}}
	for n := 0; s.State == api.Running || s.State == api.Undoing; n++ {
		if n > 10000 {
			t.Fatalf("%s does not end", tell(s))
		}
		e := anyEvent(by, s, good)
		asPlain(t, s, e)
		next, ok := e.of(s)
		if ok {
			w.sees(next, e)
		}
		s = next
		if s.State == api.Running && by.IntN(40) == 0 {
			if next, err := saga.Cancel(s); err == api.OK {
				w.hit[s.Step] = true
				w.wanted = append(w.wanted, next.Step)
				s = next
			}
		}
	}
	w.endsWell(t, s)
	asPlain(t, s, anyEvent(by, s, good), anyEvent(by, s, good))
	return s.State
}

func TestSagasByChance(t *testing.T) {
	ends := map[int]int{}
	for seed := range uint64(100) {
		by := rand.New(rand.NewPCG(seed, 22))
		for range 40 {
			ends[goOn(t, by, anyDef(by), []int{30, 60, 90, 99}[by.IntN(4)])]++
		}
	}
	for _, state := range []int{api.Done, api.Aborted, api.Stuck} {
		if ends[state] < 300 {
			t.Errorf("only %d ended in state %d", ends[state], state)
		}
	}
}

// All that may become of a saga, from its begin on: as good, bad, lapsed and cancelled as one likes.
func TestAllWays(t *testing.T) {
	for _, letters := range []string{"u", "p", "uu", "up", "p.", "uuu", "uup", "up.", "p..", "uup."} {
		seen := map[string]bool{}
		ends := map[int]bool{}
		todo := []saga.Saga{begun(t, drawn(letters))}
		for len(todo) > 0 {
			s := todo[0]
			todo = todo[1:]
			if seen[tell(s)] {
				continue
			}
			seen[tell(s)] = true
			ends[s.State] = true
			c, _, _ := saga.Wants(s)
			l := []event{{step: c.Step, try: c.Try, back: c.Back, good: true}, {step: c.Step, try: c.Try, back: c.Back}, {lapse: true, step: c.Step, try: c.Try, back: c.Back}}
			asPlain(t, s, l...)
			for _, e := range l {
				next, _ := e.of(s)
				todo = append(todo, next)
			}
			if next, err := saga.Cancel(s); err == api.OK {
				todo = append(todo, next)
			}
		}
		if want := len(letters) + 3; len(seen) < want || !ends[api.Done] || !ends[api.Aborted] || !ends[api.Stuck] || ends[api.Undoing] != (letters[0] == 'u') {
			t.Errorf("%s: came to %d sagas, states %v", letters, len(seen), ends)
		}
	}
}
