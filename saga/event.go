package saga

import (
	"drover/api"
	"drover/plan"
)

// Report: s behind a try that was told of, good or not; false: s wants something else.
func Report(s Saga, step, try int, back, good bool) (Saga, bool) {
	return behind(s, step, try, back, func(s Saga) Saga {
		switch {
		case !good:
			return s.missed()
		case back:
			return s.hit(false).down()
		}
		return s.hit(true).next()
	})
}

// Lapse: s behind a try of which nothing was told in time; false: s wants something else.
func Lapse(s Saga, step, try int, back bool) (Saga, bool) {
	return behind(s, step, try, back, func(s Saga) Saga {
		return s.hit(true).missed() // it may have run all the same; one that is to be undone is hit anyway
	})
}

// behind: s behind an event that is about that try, if s wants it; else s as it is.
func behind(s Saga, step, try int, back bool, event func(Saga) Saga) (Saga, bool) {
	c, _, ok := Wants(s)
	if !ok || c.Step != step || c.Try != try || c.Back != back {
		return s.own(), false
	}
	return event(s).own(), true
}

// Cancel: s, on its way back.
func Cancel(s Saga) (Saga, api.Errno) {
	switch {
	case !Good(s):
		return s.own(), api.ErrArg
	case s.State == api.Undoing:
		return s.own(), api.OK
	case s.State != api.Running || s.sealed() || s.Step == plan.Pivot(s.Def):
		return Saga{}, api.ErrLate
	}
	return s.hit(true).fails().own(), api.OK // its step may have been asked for already
}

// at: s, as it comes to that step in that state, with its first try.
func (s Saga) at(state, step int) Saga {
	s.State, s.Step, s.Try = state, step, 1
	return s
}

// ended: s, of which nothing is tried any more.
func (s Saga) ended(state, step int) Saga {
	s.State, s.Step, s.Try = state, step, 0
	return s
}

// hit: s, its step hit or not.
func (s Saga) hit(is bool) Saga {
	s.Hit[s.Step-1] = is
	return s
}

func (s Saga) sealed() bool { return plan.Sealed(s.Def, s.Hit[:]) }

// next: s behind its step.
func (s Saga) next() Saga {
	if s.Step == len(s.Def.Steps) {
		return s.ended(api.Done, 0)
	}
	return s.at(api.Running, s.Step+1)
}

// missed: s behind a try that came to nothing.
func (s Saga) missed() Saga {
	switch {
	case s.Try < plan.Tries(s.Def, s.Step):
		s.Try++
		return s
	case s.State == api.Undoing:
		return s.ended(api.Stuck, s.Step)
	}
	return s.fails()
}

// fails: s, on its way back, if there is one.
func (s Saga) fails() Saga {
	if s.sealed() {
		return s.ended(api.Stuck, s.Step)
	}
	return s.down()
}

// down: s, at the step that is to be undone next.
func (s Saga) down() Saga {
	if step := plan.Down(s.Def, s.Hit[:], s.Step); step > 0 {
		return s.at(api.Undoing, step)
	}
	return s.ended(api.Aborted, 0)
}
