package image_test

import (
	"bytes"
	"slices"
	"strings"
	"testing"

	"drover/api"
	"drover/book"
	"drover/image"
	"drover/saga"
)

// The rules that hold everywhere, P1 and the bound, for this package. (R5 stands behind P17.2, where the chapter names it too.)

// R1, P1

func numbers() []int {
	return []int{0, 1, 2, 3, 5, 6, 8, 9, -1, maxSagas, maxSagas + 1, maxId, maxId + 1, far + 1, -far, high - 1, high, low, low + 1}
}

func TestEveryCallEnds(t *testing.T) {
	defs := []api.Def{{}, pay(), {Name: "a", Steps: []api.Step{}}, {Name: "\xff\x00", Steps: make([]api.Step, 9)}, {Name: strings.Repeat("n", 1000), Steps: pay().Steps}}
	for _, n := range numbers() {
		for _, d := range defs {
			for _, m := range numbers() {
				image.ReadSaga(image.Saga(saga.Saga{Def: d, State: n, Step: m, Try: m}))
				s := saga.Saga{Def: d, State: m, Step: n, Try: 1, Hit: inState(api.Done).Hit}
				image.ReadSaga(image.Saga(s))
				image.ReadSaga(recordOf(s))
				image.Read(sealed(contentOf(n, entry{m, s}, entry{m, inState(api.Running)})))
			}
		}
		for _, b := range []*book.Book{nil, new(book.Book), book.New(0), book.New(maxSagas), bookOf(t, 2, entries(states()...)...)} {
			image.Read(image.Bytes(b, n))
			image.Digest(b)
		}
	}
	for _, b := range [][]byte{nil, {}, {0}, {255}, {3}, {3, 0}, bytes.Repeat([]byte{255}, 300), bytes.Repeat([]byte{128}, 300), make([]byte, 300)} {
		readAll(b)
		readAll(sealed(b))
		for num := range 20 { // as a text of each number, and in an envelope
			readAll(textOf(num, b))
			readAll(sealed(textOf(num, b)))
			readAll(sealed(slices.Concat(numberOf(2, 1), textOf(num, b))))
		}
	}
}

func readAll(p []byte) {
	image.Read(p)
	image.ReadSaga(p)
}

func TestRecordsWithinRecordsEnd(t *testing.T) {
	p := recordOf(inState(api.Running))
	for len(p) < 10000 { // each in the one behind it, by each number that holds a record
		for _, num := range []int{1, 2, 3} {
			p = textOf(num, p)
			refusesSaga(t, p, api.ErrBad)
			refuses(t, "nested", sealed(p), api.ErrBad)
			refuses(t, "nested", sealed(slices.Concat(numberOf(2, 1), p)), api.ErrBad)
		}
	}
}

// R2

func TestTheFirstThingThatIsWrongCounts(t *testing.T) {
	spoilSum := func(p []byte) []byte {
		p = bytes.Clone(p)
		p[len(p)-1]++
		return p
	}
	whole, none := sealed(contentOf(2, entries(states()...)...)), sealed([]byte{2, 128})
	for _, c := range []struct {
		name string
		p    []byte
		want api.Errno
	}{
		{"no Book, cut short", none[:5], api.ErrShort},
		{"no Book, of another version", append([]byte{4}, none[1:]...), api.ErrOld},
		{"no Book, of another sum", spoilSum(none), api.ErrSum},
		{"no Book, with something behind it", append(bytes.Clone(none), 0), api.ErrBad},
		{"a Book of another sum, with something behind it", append(spoilSum(whole), 0), api.ErrSum},
		{"a Book of another version, cut short", []byte{2}, api.ErrOld},
		{"a Book with half an envelope behind it", append(bytes.Clone(whole), 3, 128), api.ErrBad},
		{"a Book with another version behind it", append(bytes.Clone(whole), 4), api.ErrBad},
		{"a record that ends early, in a whole envelope", none, api.ErrBad},
		{"too long, of another sum", spoilSum(sealed(make([]byte, maxFrame+1))), api.ErrBad},
	} {
		refuses(t, c.name, c.p, c.want)
	}
	refusesSaga(t, slices.Concat(textOf(1, []byte{3}), numberOf(2, 9), []byte{6}), api.ErrShort)
	refusesSaga(t, slices.Concat(textOf(1, []byte{3}), numberOf(2, 9), []byte{0}), api.ErrBad)
}

// R3

// roomy: pay, with filled room behind its steps; and that list, room and all.
func roomy() (api.Def, []api.Step) {
	d := pay()
	l := append(slices.Clone(d.Steps), api.Step{Name: "room", Stub: -7}, api.Step{Name: "room", Stub: -7}, api.Step{Name: "room", Stub: -7})
	d.Steps = l[:2]
	return d, l
}

// roomyBytes: p, with filled room behind it; and all of it.
func roomyBytes(p, filler []byte) ([]byte, []byte) {
	all := append(slices.Clone(p), filler...)
	return all[:len(p)], all
}

func scribble[T any](l []T, with T) {
	l = l[:cap(l)]
	for i := range l {
		l[i] = with
	}
}

func strange() api.Step { return api.Step{Name: "strange", Stub: 99, Undo: true, Pivot: true} }

func TestWritingChangesNothing(t *testing.T) {
	d, all := roomy()
	_, before := roomy()
	s := of(d, api.Running, 2, 1, 1)
	p := image.Saga(s)
	if want := recordOf(of(pay(), api.Running, 2, 1, 1)); !bytes.Equal(p, want) || !slices.Equal(all, before) {
		t.Errorf("Saga of a roomy one: %v, want %v; handed in: %v", p, want, all)
	}
	kept := bytes.Clone(p)
	scribble(all, strange())
	if !bytes.Equal(p, kept) {
		t.Error("Saga's bytes hang on what was handed in")
	}
	b := bookOf(t, 2, entries(states()...)...)
	was := b.Copy()
	bytesOf := image.Bytes(b, 2)
	image.Digest(b)
	if !b.Same(was) {
		t.Error("Bytes or Digest changed the Book")
	}
	kept = bytes.Clone(bytesOf)
	b.Apply(api.Op{Kind: api.OpCancel, Saga: 1})
	if !bytes.Equal(bytesOf, kept) {
		t.Error("Bytes hang on the Book")
	}
}

func TestReadingChangesNothing(t *testing.T) {
	whole, s := sealed(contentOf(2, entries(states()...)...)), recordOf(inState(api.Done))
	for _, p := range [][]byte{nil, whole, s, whole[:20], s[:20], sealed([]byte{4, 2}), {2, 12}, slices.Concat(whole, whole)} {
		for _, filler := range [][]byte{make([]byte, 20), bytes.Repeat([]byte{255}, 20), whole, s, numberOf(5, 1)} {
			in, all := roomyBytes(p, filler)
			before := bytes.Clone(all)
			b, most, err := image.Read(in)
			of, fault := image.ReadSaga(in)
			c, n, again := image.Read(bytes.Clone(p))
			other, twice := image.ReadSaga(bytes.Clone(p))
			if !bytes.Equal(all, before) {
				t.Fatalf("reading changed %v to %v", before, all)
			}
			if !b.Same(c) || most != n || err != again || !saga.Same(of, other) || fault != twice {
				t.Fatalf("what lies behind the end is looked at: %v, %v", err, fault)
			}
		}
	}
}

func TestBytesAreNewMemory(t *testing.T) {
	b, s := bookOf(t, 2, entries(states()...)...), inState(api.Undoing)
	for name, call := range map[string]func() []byte{
		"Bytes": func() []byte { return image.Bytes(b, 2) },
		"Saga":  func() []byte { return image.Saga(s) },
		"none":  func() []byte { return image.Bytes(book.New(0), 0) },
	} {
		want := bytes.Clone(call())
		one, other := call(), call()
		scribble(one, 99)
		if !bytes.Equal(other, want) || !bytes.Equal(call(), want) {
			t.Errorf("%s: an answer that was written over is shared", name)
		}
	}
}

func TestWhatIsReadIsNewMemory(t *testing.T) {
	in := recordOf(inState(api.Running))
	s, _ := image.ReadSaga(in)
	other, _ := image.ReadSaga(in)
	scribble(in, 99)
	scribble(other.Def.Steps, strange())
	if !saga.Same(s, inState(api.Running)) {
		t.Errorf("ReadSaga shares memory: %+v", s)
	}
	l := entries(states()...)
	in = sealed(contentOf(2, l...))
	b, _, _ := image.Read(in)
	c, _, _ := image.Read(in)
	scribble(in, 99)
	writes(t, b, 2, l...)
	c.Apply(api.Op{Kind: api.OpCancel, Saga: 1})
	c.Apply(api.Op{Kind: api.OpReport, Saga: 2, Step: 1, Try: 2, Back: true, Good: true})
	of, _ := c.Saga(3)
	scribble(of.Def.Steps, strange())
	writes(t, b, 2, l...)
	if c.Same(b) || !b.Same(bookOf(t, 2, l...)) {
		t.Error("two Books that were read share memory")
	}
}

func TestNoListIsAsAnEmptyOne(t *testing.T) {
	for _, steps := range [][]api.Step{nil, {}, pay().Steps[:0]} {
		for _, state := range states() {
			isNoSaga(t, saga.Saga{Def: api.Def{Name: "a", Steps: steps}, State: state})
		}
	}
	for _, p := range [][]byte{nil, {}, make([]byte, 0, 9), recordOf(inState(api.Done))[:0]} {
		refusesSaga(t, p, api.ErrBad)
		refuses(t, "nothing", p, api.ErrShort)
	}
}

// R4

func TestAnswersAreTheSameAgain(t *testing.T) {
	l := entries(states()...)
	b, p := bookOf(t, 2, l...), sealed(contentOf(2, l...))
	for i := range 100 {
		readAll(sealed([]byte{2, 4, 4, byte(i)}))
		image.Bytes(bookOf(t, 9, entry{i + 1, inState(api.Stuck)}), i)
		holds(t, b, 2, l...)
		reads(t, p, 2, l...)
		holdsSaga(t, l[i%5].saga)
	}
}

// R6

func TestNumbersAtTheirEnds(t *testing.T) {
	for _, most := range []int{low, low + 1, -1, 1, high - 1, high, 1 << 62, -1 << 62} {
		b := bookOf(t, 1, entry{maxId, inState(api.Running)})
		writes(t, b, most, entry{maxId, inState(api.Running)})
	}
	wide := []byte{255, 255, 255, 255, 255, 255, 255, 255, 255, 1} // of 64 bits: the least int; one less: the greatest
	for _, n := range [][]byte{wide, append([]byte{254}, wide[1:]...)} {
		for num := 1; num <= 6; num++ {
			field := append([]byte{byte(2 * num)}, n...)
			refusesSaga(t, field, api.ErrBad)
			refusesSaga(t, slices.Concat(recordOf(inState(api.Done)), field), api.ErrBad)
			refuses(t, "ends", sealed(field), api.ErrBad)
			refuses(t, "ends", sealed(slices.Concat(contentOf(2, entries(states()...)...), field)), api.ErrBad)
			refuses(t, "ends", sealed(slices.Concat(field, contentOf(0, entries(api.Done)...))), api.ErrBad)
		}
	}
}

// The bound

func TestMuchIsRead(t *testing.T) {
	whole := recordOf(inState(api.Done))
	refusesSaga(t, bytes.Repeat([]byte{10, 2}, 1<<20), api.ErrBad)
	refusesSaga(t, slices.Concat(whole, bytes.Repeat([]byte{10, 4}, 1<<20)), api.ErrBad)
	refusesSaga(t, textOf(1, bytes.Repeat([]byte{5, 0}, 1<<20)), api.ErrBad)
	refusesSaga(t, textOf(1, textOf(1, make([]byte, 1<<24))), api.ErrBad)
	refusesSaga(t, bytes.Repeat(whole, 1<<10), api.ErrBad)
	many := bytes.Repeat(slices.Concat(numberOf(1, maxSagas), numberOf(2, 1), textOf(3, whole)), 1000)
	refuses(t, "a Book again and again", sealed(many), api.ErrBad)
	refuses(t, "most again and again", sealed(bytes.Repeat([]byte{2, 64}, maxFrame/2)), api.ErrBad)
	p := sealed(contentOf(2, entries(states()...)...))
	refuses(t, "much behind it", slices.Concat(p, make([]byte, 1<<24)), api.ErrBad)
	refuses(t, "Books behind it", bytes.Repeat(p, 1<<12), api.ErrBad)
	great := of(api.Def{Name: "a", Steps: make([]api.Step, 1<<20)}, api.Running, 1, 1, 0)
	if p := image.Saga(great); len(p) > 0 {
		t.Errorf("Saga of many steps: %d bytes", len(p))
	}
	long := of(api.Def{Name: strings.Repeat("n", 1<<24), Steps: pay().Steps}, api.Running, 1, 1, 0)
	if p := image.Saga(long); len(p) > 0 {
		t.Errorf("Saga of a long name: %d bytes", len(p))
	}
}
