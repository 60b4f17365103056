package book_test

import (
	"math/rand/v2"
	"slices"
	"testing"

	"drover/api"
	"drover/book"
	"drover/saga"
)

// What the chapter says, word by word: all sagas that ever were in a list, those too that are forgotten, with no map and no count but by going over it.

type entry struct {
	id        int
	saga      saga.Saga
	forgotten bool
}

type plain struct {
	most, last int
	all        []entry
}

func (p *plain) find(id int) *entry {
	for i := range p.all {
		if p.all[i].id == id && !p.all[i].forgotten {
			return &p.all[i]
		}
	}
	return nil
}

func (p *plain) there() []entry {
	var l []entry
	for _, e := range p.all {
		if !e.forgotten {
			l = append(l, e)
		}
	}
	slices.SortFunc(l, func(a, b entry) int { return a.id - b.id })
	return l
}

func (p *plain) underWay(but int) int {
	n := 0
	for _, e := range p.there() {
		if (e.saga.State == api.Running || e.saga.State == api.Undoing) && e.id != but {
			n++
		}
	}
	return n
}

func (p *plain) status(id int) api.Reply {
	e := p.find(id)
	if e == nil {
		return none(api.ErrNone)
	}
	return told(id, e.saga.State, e.saga.Step)
}

func (p *plain) start(d api.Def) api.Reply {
	s, err := saga.Begin(d)
	if err != api.OK {
		return none(err)
	}
	if p.underWay(0) == p.most {
		return none(api.ErrFull)
	}
	if l := p.there(); len(l) == maxSagas {
		i := slices.IndexFunc(l, func(e entry) bool { return e.saga.State >= api.Done })
		p.find(l[i].id).forgotten = true
	}
	p.last++
	p.all = append(p.all, entry{id: p.last, saga: s})
	return p.status(p.last)
}

func (p *plain) apply(o api.Op) api.Reply {
	if o.Kind == api.OpNone {
		return api.Reply{}
	}
	if o.Kind == api.OpStart {
		return p.start(o.Def)
	}
	if o.Kind < 0 || o.Kind > api.OpLapse {
		return none(api.ErrArg)
	}
	e := p.find(o.Saga)
	if e == nil {
		return none(api.ErrNone)
	}
	next, ok, err := e.saga, true, api.OK
	if o.Kind == api.OpCancel {
		next, err = saga.Cancel(e.saga)
	} else if o.Kind == api.OpReport {
		next, ok = saga.Report(e.saga, o.Step, o.Try, o.Back, o.Good)
	} else if o.Kind == api.OpLapse {
		next, ok = saga.Lapse(e.saga, o.Step, o.Try, o.Back)
	}
	if err != api.OK {
		return none(err)
	}
	if !ok {
		return none(api.ErrLate)
	}
	e.saga = next
	return p.status(o.Saga)
}

func (p *plain) set(id int, s saga.Saga) api.Errno {
	if id < 1 || id > maxId || !saga.Good(s) {
		return api.ErrArg
	}
	e := p.find(id)
	if e == nil && len(p.there()) == maxSagas {
		return api.ErrFull
	}
	if s.State <= api.Undoing && p.underWay(id) == p.most {
		return api.ErrFull
	}
	if e == nil {
		p.all = append(p.all, entry{id: id, saga: s})
	} else {
		e.saga = s
	}
	if id > p.last {
		p.last = id
	}
	return api.OK
}

// asPlain holds all that is told of b against what is told plainly.
func asPlain(t *testing.T, b *book.Book, p *plain) {
	t.Helper()
	want := map[int]saga.Saga{}
	for _, e := range p.there() {
		want[e.id] = e.saga
	}
	holds(t, b, want)
	for _, e := range p.all {
		if e.forgotten && p.find(e.id) == nil {
			hasNo(t, b, e.id)
		}
	}
	hasNo(t, b, p.last+1)
	if n := p.underWay(0); n > p.most || b.Count(api.Running)+b.Count(api.Undoing) != n {
		t.Errorf("%d are under way, of at most %d", n, p.most)
	}
	if t.Failed() {
		t.FailNow()
	}
}

// short: operations about two sagas of one step, or two.
func short() []api.Op {
	d := api.Def{Name: "a", Steps: []api.Step{{Name: "b", Stub: 1, Wait: 1, Undo: true}}}
	return []api.Op{startOf(d), start(), startOf(api.Def{}), cancel(1), cancel(2), status(2), report(1, 1, 1, false, true), report(1, 1, 1, true, true), lapse(1, 1, 1, false), lapse(2, 1, 1, true), report(2, 1, 1, false, false), report(2, 2, 1, false, true)}
}

// All short courses, of Books of up to two at once.
func TestAllShortCourses(t *testing.T) {
	ops, length := short(), 4
	count := 0
	for most := range 3 {
		var place [4]int
		for {
			b, p := made(t, most), &plain{most: most}
			for _, i := range place[:length] {
				applies(t, b, ops[i], p.apply(ops[i]))
			}
			asPlain(t, b, p)
			count++
			at := 0
			for at < length && place[at] == len(ops)-1 {
				place[at] = 0
				at++
			}
			if at == length {
				break
			}
			place[at]++
		}
	}
	if want := 3 * 12 * 12 * 12 * 12; count != want {
		t.Errorf("%d courses, want %d", count, want)
	}
}

// anyDef: a definition that may be, mostly.
func anyDef(by *rand.Rand) api.Def {
	d := pay()
	switch by.IntN(8) {
	case 0:
		d.Steps = d.Steps[:1]
	case 1:
		d.Steps = append(d.Steps, api.Step{Name: "last", Stub: 3, Retry: 1, Wait: 2})
	case 2:
		d.Steps = append([]api.Step{{Name: "first", Stub: 4, Wait: 1, Undo: true}}, d.Steps...)
	case 3:
		d.Steps[by.IntN(2)].Wait = by.IntN(3)
	case 4:
		d.Name = []string{"", "a", "B"}[by.IntN(3)]
	}
	return d
}

// anyOp: mostly one about a saga that there is, and what that wants.
func anyOp(by *rand.Rand, p *plain) api.Op {
	o := api.Op{Kind: by.IntN(6), Client: by.IntN(5), Request: by.IntN(100), Saga: by.IntN(p.last + 2), Step: by.IntN(4), Try: by.IntN(3), Back: by.IntN(2) == 0, Good: by.IntN(3) > 0}
	if by.IntN(40) == 0 {
		o.Kind = []int{-1, 6, 7, low, high}[by.IntN(5)]
	}
	if by.IntN(3) == 0 {
		o.Kind, o.Def = api.OpStart, anyDef(by)
	}
	if l := p.there(); len(l) > 0 && by.IntN(20) > 0 {
		e := l[by.IntN(len(l))]
		if by.IntN(3) > 0 {
			e = l[len(l)-1-by.IntN(min(3, len(l)))]
		}
		o.Saga = e.id
		if c, _, ok := saga.Wants(e.saga); ok && by.IntN(8) > 0 {
			o.Step, o.Try, o.Back = c.Step, c.Try, c.Back
		}
	}
	return o
}

// anySaga: one that may be, mostly, as it came by chance.
func anySaga(by *rand.Rand) saga.Saga {
	s := inState(1 + by.IntN(5))
	switch by.IntN(10) {
	case 0:
		s.Try++
	case 1:
		s.State = by.IntN(7)
	case 2:
		s = saga.Saga{Def: anyDef(by), State: api.Running, Step: 1, Try: 1}
	}
	return s
}

func anyId(by *rand.Rand, p *plain) int {
	switch by.IntN(10) {
	case 0:
		return by.IntN(5) - 2
	case 1:
		return p.last + 1 + by.IntN(4)
	case 2:
		return []int{maxId, maxId + 1, low, high}[by.IntN(4)]
	}
	if l := p.there(); len(l) > 0 {
		return l[by.IntN(len(l))].id + by.IntN(20)/19
	}
	return 1
}

func TestAnyCourse(t *testing.T) {
	forgotten, full := 0, 0
	for seed := range uint64(120) {
		by := rand.New(rand.NewPCG(seed, 16))
		most := []int{0, 1, 2, 5, 31, 32}[by.IntN(6)]
		setting := by.IntN(2) * by.IntN(6)
		b, p := made(t, most), &plain{most: most}
		other := b.Copy()
		for n := range 600 {
			before := b.Copy()
			if by.IntN(10) < setting {
				id, s := anyId(by, p), anySaga(by)
				err := p.set(id, s)
				sets(t, b, id, s, err)
				sets(t, other, id, s, err)
				if err != api.OK {
					same(t, b, before, true)
				}
			} else {
				o := anyOp(by, p)
				reply := p.apply(o)
				applies(t, b, o, reply)
				applies(t, other, o, reply)
				if reply.Err != api.OK {
					same(t, b, before, true)
				}
				if reply.Err == api.ErrFull {
					full++
				}
			}
			asPlain(t, b, p)
			same(t, b, other, true) // P16.4
			if n%50 == 0 {
				other, b = b, other.Copy()
			}
		}
		for _, e := range p.all {
			if e.forgotten {
				forgotten++
			}
		}
	}
	if forgotten < 500 || full < 500 {
		t.Errorf("%d were forgotten, %d found no room", forgotten, full)
	}
}
