package book

import (
	"drover/api"
	"drover/saga"
)

// Apply: what o tells, and does to the sagas; with an error it does nothing.
func (b *Book) Apply(o api.Op) api.Reply {
	if !b.made() {
		return api.Reply{Err: api.ErrMade}
	}
	switch o.Kind {
	case api.OpNone:
		return api.Reply{}
	case api.OpStart:
		return b.start(o.Def)
	case api.OpCancel:
		return b.behind(o.Saga, saga.Cancel)
	case api.OpStatus:
		return b.Status(o.Saga)
	case api.OpReport:
		return b.behind(o.Saga, func(s saga.Saga) (saga.Saga, api.Errno) {
			return orLate(saga.Report(s, o.Step, o.Try, o.Back, o.Good))
		})
	case api.OpLapse:
		return b.behind(o.Saga, func(s saga.Saga) (saga.Saga, api.Errno) {
			return orLate(saga.Lapse(s, o.Step, o.Try, o.Back))
		})
	}
	return api.Reply{Err: api.ErrArg}
}

// orLate: s; ErrLate, if it wanted something else.
func orLate(s saga.Saga, wanted bool) (saga.Saga, api.Errno) {
	if !wanted {
		return saga.Saga{}, api.ErrLate
	}
	return s, api.OK
}

// start: the Status of a saga more, of d.
func (b *Book) start(d api.Def) api.Reply {
	s, err := saga.Begin(d)
	switch {
	case err != api.OK:
		return api.Reply{Err: err}
	case b.full(0): // no saga has that number
		return api.Reply{Err: api.ErrFull}
	}
	b.makeRoom()
	b.last++
	b.sagas[b.last] = s
	return b.Status(b.last)
}

// makeRoom forgets the eldest saga that ended, if there are as many sagas as may be. One of them has ended then, or as many would be under way as may be.
func (b *Book) makeRoom() {
	if len(b.sagas) < api.MaxSagas {
		return
	}
	for _, id := range b.Ids() {
		if !underWay(b.sagas[id]) {
			delete(b.sagas, id)
			return
		}
	}
}

// behind: the Status of that saga behind an event.
func (b *Book) behind(id int, event func(saga.Saga) (saga.Saga, api.Errno)) api.Reply {
	s, ok := b.at(id)
	if !ok {
		return api.Reply{Err: api.ErrNone}
	}
	next, err := event(s)
	if err != api.OK {
		return api.Reply{Err: err}
	}
	b.sagas[id] = next
	return b.Status(id)
}
