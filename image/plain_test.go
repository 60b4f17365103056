package image_test

import (
	"bytes"
	"math/rand/v2"
	"slices"
	"testing"

	"drover/api"
	"drover/book"
	"drover/field"
	"drover/image"
	"drover/note"
	"drover/saga"
)

// What the chapters say, read word by word: field by field in the order that a record has, with nothing written again.

type reader struct {
	l  []field.Field
	ok bool
}

// next: does a field of that number come next?
func (r *reader) next(num int, text bool) bool {
	return len(r.l) > 0 && r.l[0].Num == num && r.l[0].Text == text
}

func (r *reader) take() field.Field {
	f := r.l[0]
	r.l = r.l[1:]
	return f
}

// number: 0, if there is none; a zero is not written.
func (r *reader) number(num int) int {
	if !r.next(num, false) {
		return 0
	}
	n := field.Zag(r.take().V)
	r.ok = r.ok && n != 0
	return n
}

func (r *reader) flag(num int) bool {
	if !r.next(num, false) {
		return false
	}
	r.ok = r.ok && r.take().V == 1
	return true
}

func (r *reader) text(num int) []byte {
	if !r.next(num, true) {
		return nil
	}
	b := r.take().B
	r.ok = r.ok && len(b) > 0
	return b
}

func readerOf(p []byte) *reader {
	l, err := field.Read(p)
	return &reader{l, err == api.OK}
}

// done: was all of it as it must be, and is nothing left?
func (r *reader) done() bool { return r.ok && len(r.l) == 0 }

func plainStep(p []byte) (api.Step, bool) {
	r := readerOf(p)
	s := api.Step{Name: string(r.text(1)), Stub: r.number(2), Retry: r.number(3), Wait: r.number(4), Undo: r.flag(5), Pivot: r.flag(6)}
	return s, r.done()
}

func plainDef(p []byte) (api.Def, bool) {
	r := readerOf(p)
	d := api.Def{Name: string(r.text(1))}
	for r.next(2, true) {
		s, ok := plainStep(r.take().B)
		d.Steps, r.ok = append(d.Steps, s), r.ok && ok
	}
	return d, r.done()
}

func plainSaga(p []byte) (saga.Saga, api.Errno) {
	if _, err := field.Read(p); err != api.OK {
		return saga.Saga{}, err
	}
	r := readerOf(p)
	d, ok := plainDef(r.text(1))
	s := saga.Saga{Def: d, State: r.number(2), Step: r.number(3), Try: r.number(4)}
	for last := 0; r.next(5, false); {
		n := field.Zag(r.take().V)
		if n <= last || n > maxSteps {
			return saga.Saga{}, api.ErrBad
		}
		s.Hit[n-1], last = true, n
	}
	if !ok || !r.done() || !saga.Good(s) {
		return saga.Saga{}, api.ErrBad
	}
	return s, api.OK
}

// plainBook: the sagas of a Book's record, and most; false: it is none.
func plainBook(p []byte) ([]entry, int, bool) {
	r := readerOf(p)
	most, last, underWay := r.number(1), 0, 0
	var l []entry
	for len(r.l) > 0 {
		id := r.number(2)
		s, err := plainSaga(r.text(3))
		if err != api.OK || id <= last || id > maxId {
			return nil, 0, false
		}
		l, last = append(l, entry{id, s}), id
		if s.State == api.Running || s.State == api.Undoing {
			underWay++
		}
	}
	return l, most, r.done() && most >= 0 && most <= maxSagas && len(l) <= maxSagas && underWay <= most
}

// asPlain: is p read as it is read plainly? The answer: is it a saga?
func asPlainSaga(t *testing.T, p []byte) bool {
	t.Helper()
	s, err := plainSaga(p)
	if err != api.OK {
		refusesSaga(t, p, err)
		return false
	}
	holdsSaga(t, s)
	readsSaga(t, p, s)
	return true
}

// asPlainBook: likewise of a Book's content.
func asPlainBook(t *testing.T, content []byte) bool {
	t.Helper()
	l, most, ok := plainBook(content)
	if !ok {
		refuses(t, "not plainly a Book", sealed(content), api.ErrBad)
		return false
	}
	reads(t, sealed(content), most, l...)
	writes(t, bookOf(t, most, l...), most, l...)
	return true
}

// All bytes of up to four, with what a record may begin with.
func TestAllShortBytes(t *testing.T) {
	letters := []byte{0, 1, 2, 3, 4, 5, 6, 7, 8, 10, 11, 64, 127, 128, 129, 255}
	books := 0
	var all func(p []byte)
	all = func(p []byte) {
		asPlainSaga(t, p)
		if asPlainBook(t, p) {
			books++
		}
		for _, c := range letters {
			if len(p) < 4 {
				all(append(p, c))
			}
		}
	}
	all(nil)
	if want := 1 + 6; books != want { // nothing, and most alone: 1 to 5, and 32
		t.Errorf("%d Books, want %d", books, want)
	}
}

// All records of up to four fields, of those that a Book's may have.
func TestAllRecordsOfFewFields(t *testing.T) {
	done, running := recordOf(inState(api.Done)), recordOf(inState(api.Running))
	pieces := [][]byte{numberOf(1, 0), numberOf(1, 1), numberOf(1, 2), numberOf(1, 33), numberOf(2, 0), numberOf(2, 1), numberOf(2, 2), numberOf(2, -1), textOf(3, done), textOf(3, running), textOf(3, nil), textOf(2, []byte{2}), numberOf(3, 1), numberOf(4, 1)}
	books := 0
	var all func(p []byte, left int)
	all = func(p []byte, left int) {
		if asPlainBook(t, p) {
			books++
		}
		for _, piece := range pieces {
			if left > 0 {
				all(slices.Concat(p, piece), left-1)
			}
		}
	}
	all(nil, 4)
	// No most, or 1, or 2; of no sagas, of one of two numbers and states, and, of at most four fields, of two of no most, which then both are Done.
	if want := 3 + 2*(1+2+2) + 1; books != want {
		t.Errorf("%d Books, want %d", books, want)
	}
}

// All records of up to five fields, of those that a saga's may have.
func TestAllSagasOfFewFields(t *testing.T) {
	def := textOf(1, note.DefBytes(pay()))
	pieces := [][]byte{def, textOf(1, nil), numberOf(2, api.Running), numberOf(2, api.Undoing), numberOf(2, api.Stuck), numberOf(2, api.Aborted), numberOf(3, 0), numberOf(3, 1), numberOf(4, 1), numberOf(4, 2), numberOf(4, 0), numberOf(5, 1), numberOf(5, 2), numberOf(5, 3), numberOf(6, 1)}
	sagas := 0
	var all func(p []byte, left int)
	all = func(p []byte, left int) {
		if asPlainSaga(t, p) {
			sagas++
		}
		for _, piece := range pieces {
			if left > 0 {
				all(slices.Concat(p, piece), left-1)
			}
		}
	}
	for _, begin := range [][]byte{def, textOf(1, nil), numberOf(2, api.Running), nil} {
		all(begin, 4)
	}
	// Running at step 1, by two tries, the step hit or not; Undoing it, likewise, hit; Stuck at it, hit or not; Aborted. Those that begin with nothing have four fields in all.
	if want := (2*2 + 2 + 2 + 1) + (2 + 2 + 1); sagas != want {
		t.Errorf("%d sagas, want %d", sagas, want)
	}
}

// By chance.

func anyDef(by *rand.Rand) api.Def {
	d := api.Def{Name: anyName(by)}
	n := 1 + by.IntN(maxSteps)
	pivot := by.IntN(2 * n)
	for i := range n {
		name := anyName(by)
		d.Steps = append(d.Steps, api.Step{Name: name[:min(len(name), 15)] + string(rune('a'+i)), Stub: 1 + by.IntN(4), Retry: by.IntN(10), Wait: 1 + by.IntN(99), Undo: i < pivot, Pivot: i == pivot})
	}
	return d
}

func anyName(by *rand.Rand) string {
	b := make([]byte, 1+by.IntN(16))
	for i := range b {
		b[i] = "abcdefghijklmnopqrstuvwxyz"[by.IntN(26)]
	}
	return string(b)
}

// anySaga: one that came somewhere by what may happen to it.
func anySaga(t *testing.T, by *rand.Rand) saga.Saga {
	t.Helper()
	s, err := saga.Begin(anyDef(by))
	if err != api.OK {
		t.Fatalf("Begin: %v", err)
	}
	for range by.IntN(30) {
		c, _, ok := saga.Wants(s)
		switch by.IntN(12) {
		case 0:
			if n, err := saga.Cancel(s); err == api.OK {
				s = n
			}
		case 1, 2:
			s, _ = saga.Lapse(s, c.Step, c.Try, c.Back)
		default:
			s, _ = saga.Report(s, c.Step, c.Try, c.Back, by.IntN(5) > 0)
		}
		if !ok {
			break
		}
	}
	return s
}

// anyBook: sagas that came somewhere, by numbers that rise.
func anyBook(t *testing.T, by *rand.Rand) ([]entry, int) {
	t.Helper()
	var l []entry
	id, underWay := 0, 0
	for range by.IntN(maxSagas + 1) {
		id += 1 + by.IntN([]int{1, 3, 1000, maxId / 64}[by.IntN(4)])
		s := anySaga(t, by)
		if s.State == api.Running || s.State == api.Undoing {
			underWay++
		}
		l = append(l, entry{id, s})
	}
	return l, underWay + by.IntN(maxSagas+1-underWay)
}

// spoil: p with some bytes changed, left out, or put in.
func spoil(by *rand.Rand, p []byte) []byte {
	p = bytes.Clone(p)
	for range 1 + by.IntN(2) {
		at := by.IntN(len(p) + 1)
		switch by.IntN(5) {
		case 0:
			p = slices.Insert(p, at, byte(by.Uint32()))
		case 1:
			p = slices.Delete(p, at, min(len(p), at+1))
		case 2:
			p = p[:at]
		default:
			if at < len(p) {
				p[at] += []byte{1, 2, 254, 255, 128}[by.IntN(5)]
			}
		}
	}
	return p
}

// spoilFields: the record p with some fields changed, left out, doubled or exchanged.
func spoilFields(by *rand.Rand, p []byte) []byte {
	l, _ := field.Read(p)
	for range 1 + by.IntN(2) {
		if len(l) == 0 {
			return p
		}
		i, j := by.IntN(len(l)), by.IntN(len(l))
		switch by.IntN(6) {
		case 0:
			l = slices.Delete(l, i, i+1)
		case 1:
			l = slices.Insert(l, j, l[i])
		case 2:
			l[i], l[j] = l[j], l[i]
		case 3:
			l[i].Num = 1 + by.IntN(6)
		case 4:
			l[i].B, l[j].B = l[j].B, l[i].B
		default:
			if l[i].Text {
				l[i].B = spoilFields(by, l[i].B)
			} else {
				l[i].V += []uint64{2, 4, ^uint64(1), 1, ^uint64(0)}[by.IntN(5)]
			}
		}
	}
	return field.Write(l)
}

func TestSagasByChance(t *testing.T) {
	whole, spoilt := 0, 0
	for seed := range uint64(400) {
		by := rand.New(rand.NewPCG(seed, 17))
		s := anySaga(t, by)
		holdsSaga(t, s)
		p := image.Saga(s)
		for range 60 {
			whole++
			for _, q := range [][]byte{spoil(by, p), spoilFields(by, p)} {
				if !asPlainSaga(t, q) {
					spoilt++
				}
			}
		}
	}
	if good := 2*whole - spoilt; good < whole/20 || spoilt < whole {
		t.Errorf("of %d spoilt ones %d are sagas", 2*whole, good)
	}
}

func TestBooksByChance(t *testing.T) {
	whole, spoilt := 0, 0
	for seed := range uint64(60) {
		by := rand.New(rand.NewPCG(seed, 18))
		l, most := anyBook(t, by)
		b := bookOf(t, most, l...)
		holds(t, b, most, l...)
		if c, n, err := image.Read(image.Bytes(b, most)); err != api.OK || n != most || !c.Same(b) {
			t.Fatalf("Read of Bytes: %d, %v", n, err)
		}
		content := contentOf(most, l...)
		for range 20 {
			whole++
			for _, q := range [][]byte{spoil(by, content), spoilFields(by, content)} {
				if !asPlainBook(t, q) {
					spoilt++
				}
			}
			writes(t, b, by.IntN(40)-3, l...) // the next answer is looked at
		}
	}
	if good := 2*whole - spoilt; good < whole/20 || spoilt < whole/2 {
		t.Errorf("of %d spoilt ones %d are Books", 2*whole, good)
	}
}

// Each bit of an envelope turned, and each envelope that ends early.
func TestEnvelopesByChance(t *testing.T) {
	for seed := range uint64(30) {
		by := rand.New(rand.NewPCG(seed, 19))
		l, most := anyBook(t, by)
		p := image.Bytes(bookOf(t, most, l...), most)
		for range 200 {
			q := bytes.Clone(p)
			q[by.IntN(len(q))] ^= 1 << by.IntN(8)
			if b, n, err := image.Read(q); err == api.OK || b != nil || n != 0 {
				t.Fatalf("a bit was turned: %d, %v", n, err)
			}
			refuses(t, "it ends early", p[:by.IntN(len(p))], api.ErrShort)
		}
	}
}

// What two Books have in common is what their Bytes have.
func TestOtherBooksHaveOtherBytes(t *testing.T) {
	seen := map[string]*book.Book{}
	for seed := range uint64(300) {
		by := rand.New(rand.NewPCG(seed, 20))
		l, most := anyBook(t, by)
		for _, n := range []int{0, 1, len(l)} {
			b := bookOf(t, most, l[:min(n, len(l))]...)
			p := string(image.Bytes(b, most))
			if other := seen[p]; other != nil && !other.Same(b) {
				t.Fatalf("two Books have the Bytes %v", []byte(p))
			}
			seen[p] = b
		}
	}
}
