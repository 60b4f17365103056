package note_test

import (
	"bytes"
	"math"
	"reflect"
	"slices"
	"strings"
	"testing"

	"drover/api"
	"drover/note"
)

// The rules that hold everywhere, P1 and the bound, for this package. (R5 speaks of objects: there are none here.)

// R1, P1

func TestEveryCallEnds(t *testing.T) {
	numbers := append(append(small(), odd()...), 2, 5, 6, 14, 15, 16, math.MaxInt32, math.MinInt32, math.MaxInt-1)
	names := append(goodNames(), longNames()...)
	for i, n := range numbers {
		name := names[i%len(names)]
		step := api.Step{Name: name, Stub: n, Retry: n, Wait: n, Undo: true}
		for _, steps := range [][]api.Step{nil, {}, {{}}, {step, {}, step}, slices.Repeat([]api.Step{step}, 20)} {
			d := api.Def{Name: name, Steps: steps}
			o := api.Op{Kind: n, Client: n, Request: n, Def: d, Saga: n, Step: n, Try: n}
			for _, ops := range [][]api.Op{nil, {}, {{}}, {o, {}, o}} {
				m := api.Msg{
					Kind: n, From: n, To: n, View: n, Last: n, Num: n, Commit: n, Nonce: n, Request: n, Op: o, Ops: ops, Incs: numbers[:i],
					Reply: api.Reply{Err: api.Errno(n), Saga: n, State: n, Step: n}, Command: api.Command{View: n, Stub: n, Saga: n, Step: n, Try: n},
				}
				note.Good(m)
				readAll(note.Bytes(m))
			}
			note.GoodOp(o)
			readAll(note.OpBytes(o))
			readAll(note.DefBytes(d))
		}
	}
	for _, b := range [][]byte{nil, {}, {0}, {255}, {3}, bytes.Repeat([]byte{255}, 300), bytes.Repeat([]byte{128}, 300), make([]byte, 300)} {
		readAll(b)
		readAll(sealed(b))
		for num := range 20 { // as a text of each number, and in an envelope
			var s slow
			s.piece(num, b)
			readAll(s.b)
			readAll(sealed(s.b))
			readAll(sealed(append([]byte{2, 10}, s.b...)))
		}
	}
}

func readAll(b []byte) {
	note.Read(b)
	note.ReadOp(b)
	note.ReadDef(b)
}

func TestRecordsWithinRecordsEnd(t *testing.T) {
	b := []byte{2, 2}
	for len(b) < 10000 { // each in the one behind it, by each number that holds a record
		for _, num := range []int{2, 4, 13, 16} {
			var s slow
			s.piece(num, b)
			b = s.b
			reads(t, "nested", sealed(b), api.ErrBad)
		}
	}
	readsOp(t, "nested", b, api.ErrBad)
	readsDef(t, "nested", b, api.ErrBad)
}

// R2

func TestTheFirstErrorIsTold(t *testing.T) {
	bad := []byte{2, 10, 4, 0}
	spoilSum := func(b []byte) []byte {
		b[len(b)-1]++
		return b
	}
	long := long(t, 65538)
	for _, c := range []struct {
		name string
		b    []byte
		want api.Errno
	}{
		{"no message, cut short", sealed(bad)[:7], api.ErrShort},
		{"no message, of another version", append([]byte{4}, sealed(bad)[1:]...), api.ErrOld},
		{"no message, of another sum", spoilSum(sealed(bad)), api.ErrSum},
		{"no message, with something behind it", append(sealed(bad), 0), api.ErrBad},
		{"a message of another sum, with something behind it", append(spoilSum(note.Bytes(wholeMsg())), 0), api.ErrSum},
		{"a message of another version, cut short", []byte{4}, api.ErrOld},
		{"too long, of another sum", spoilSum(sealed(slowContent(long))), api.ErrBad},
	} {
		reads(t, c.name, c.b, c.want)
	}
	readsOp(t, "a Kind that may not be, and half a field", []byte{2, 12, 4}, api.ErrShort)
	readsOp(t, "half a Def, and half a field", []byte{9, 1, 3, 10}, api.ErrShort)
	readsOp(t, "half a Def, and no field", []byte{9, 1, 3, 0}, api.ErrBad)
	readsDef(t, "half a Step, and half a field", []byte{5, 1, 4, 5}, api.ErrShort)
}

// R3

// roomy: a list that holds s, with something in the room behind its end; the second answer is all of it.
func roomy[T any](filler T, s []T) ([]T, []T) {
	all := append(slices.Clone(s), slices.Repeat([]T{filler}, 20)...)
	return all[:len(s)], all
}

func scribble[T any](l []T, with T) {
	l = l[:cap(l)]
	for i := range l {
		l[i] = with
	}
}

func TestWritingChangesNothing(t *testing.T) {
	strange := api.Step{Name: "strange", Stub: 99}
	m, want := wholeMsg(), note.Bytes(wholeMsg())
	var steps, ops0 []api.Step
	m.Op.Def.Steps, steps = roomy(strange, m.Op.Def.Steps)
	m.Ops[0].Def.Steps, ops0 = roomy(strange, m.Ops[0].Def.Steps)
	ops, allOps := roomy(api.Op{Kind: 77}, m.Ops)
	incs, allIncs := roomy(88, m.Incs)
	m.Ops, m.Incs = ops, incs
	before := []any{slices.Clone(steps), slices.Clone(ops0), slices.Clone(allOps), slices.Clone(allIncs)}
	if !note.Good(m) || !bytes.Equal(note.Bytes(m), want) {
		t.Errorf("what lies behind a list's end is looked at: %v", note.Bytes(m))
	}
	if !bytes.Equal(note.OpBytes(m.Op), slowOp(m.Op)) || !bytes.Equal(note.DefBytes(m.Op.Def), slowDef(m.Op.Def)) || !note.GoodOp(m.Op) {
		t.Error("what lies behind a list of steps is looked at")
	}
	if !reflect.DeepEqual([]any{steps, ops0, allOps, allIncs}, before) {
		t.Errorf("something that was handed in has changed: %v", []any{steps, ops0, allOps, allIncs})
	}
	none := api.Msg{Kind: 7, Ops: allOps[:0], Incs: allIncs[:0], Op: api.Op{Def: api.Def{Steps: steps[:0]}}}
	holds(t, "empty, with room", none)
}

func TestBytesAreNewMemory(t *testing.T) {
	m := wholeMsg()
	calls := map[string]func() []byte{
		"Bytes":    func() []byte { return note.Bytes(m) },
		"OpBytes":  func() []byte { return note.OpBytes(m.Op) },
		"DefBytes": func() []byte { return note.DefBytes(m.Op.Def) },
	}
	for name, call := range calls {
		want := bytes.Clone(call())
		a, b := call(), call()
		scribble(a, 99)
		if !bytes.Equal(b, want) || !bytes.Equal(call(), want) || !reflect.DeepEqual(m, wholeMsg()) {
			t.Errorf("%s: an answer that was written over is shared", name)
		}
	}
	kept, changed := note.Bytes(m), m
	want := bytes.Clone(kept)
	scribble(changed.Ops, api.Op{})
	scribble(changed.Incs, 9)
	scribble(changed.Op.Def.Steps, api.Step{})
	if !bytes.Equal(kept, want) {
		t.Error("Bytes hang on what was handed in")
	}
}

func TestReadingChangesNothing(t *testing.T) {
	m := wholeMsg()
	for _, b := range [][]byte{note.Bytes(m), note.OpBytes(m.Op), note.DefBytes(m.Op.Def), sealedOf(2, 10, 4, 0), {2, 12}, {2, 4, 4}} {
		in, all := roomy(77, b)
		before := bytes.Clone(all)
		readAll(in)
		if !bytes.Equal(all, before) {
			t.Errorf("reading changed %v to %v", before, all)
		}
	}
}

func TestReadingDoesNotLookBehindTheEnd(t *testing.T) {
	m := wholeMsg()
	b, all := roomy(0, note.Bytes(m))
	copy(all[len(b):], sealedOf(2, 10))
	if got, err := note.Read(b); err != api.OK || !reflect.DeepEqual(got, plain(m)) {
		t.Errorf("Read: %v, %v", got, err)
	}
	whole := []byte{2, 4, 4, 2}
	readsOp(t, "half of it", whole[:3], api.ErrShort)
	if o, err := note.ReadOp(whole[:2]); err != api.OK || o.Client != 0 {
		t.Errorf("ReadOp: %v, %v", o, err)
	}
}

func TestWhatIsReadIsNewMemory(t *testing.T) {
	b := note.Bytes(wholeMsg())
	in := bytes.Clone(b)
	got, err := note.Read(in)
	scribble(in, 99)
	if err != api.OK || !reflect.DeepEqual(got, wholeMsg()) {
		t.Fatalf("Read hangs on what was handed in: %v, %v", got, err)
	}
	other, _ := note.Read(b)
	listsOf := func(m api.Msg) [][]api.Step {
		l := [][]api.Step{m.Op.Def.Steps}
		for _, o := range m.Ops {
			l = append(l, o.Def.Steps)
		}
		return l
	}
	for i, l := range listsOf(got) { // one behind the other: those behind it, and the other answer, stay
		scribble(l, api.Step{Name: "strange"})
		for j, rest := range listsOf(got)[i+1:] {
			if !reflect.DeepEqual(rest, listsOf(wholeMsg())[i+1+j]) {
				t.Fatalf("the steps of %d and %d share memory: %v", i, i+1+j, rest)
			}
		}
	}
	scribble(got.Ops, api.Op{Kind: 77})
	scribble(got.Incs, 77)
	if !reflect.DeepEqual(other, wholeMsg()) {
		t.Errorf("two answers of Read share memory: %v", other)
	}
}

func TestWhatIsReadOfOpsAndDefsIsNewMemory(t *testing.T) {
	in := note.OpBytes(wholeOp(1))
	o, _ := note.ReadOp(in)
	other, _ := note.ReadOp(in)
	scribble(in, 99)
	scribble(other.Def.Steps, api.Step{Name: "strange"})
	if !reflect.DeepEqual(o, wholeOp(1)) {
		t.Errorf("ReadOp shares memory: %v", o)
	}
	in = note.DefBytes(wholeDef(1))
	d, _ := note.ReadDef(in)
	next, _ := note.ReadDef(in)
	scribble(in, 99)
	scribble(next.Steps, api.Step{Name: "strange"})
	if !reflect.DeepEqual(d, wholeDef(1)) {
		t.Errorf("ReadDef shares memory: %v", d)
	}
}

func TestNoListIsAsAnEmptyOne(t *testing.T) {
	full := api.Msg{Kind: 7, Op: api.Op{Kind: 1, Def: api.Def{Name: "a", Steps: []api.Step{}}}, Ops: []api.Op{}, Incs: []int{}}
	if !bytes.Equal(note.Bytes(full), note.Bytes(plain(full))) || note.Good(full) != note.Good(plain(full)) {
		t.Errorf("an empty list is written: %v", note.Bytes(full))
	}
	if !bytes.Equal(note.OpBytes(full.Op), note.OpBytes(plainOp(full.Op))) || !bytes.Equal(note.DefBytes(full.Op.Def), []byte{3, 1, 'a'}) {
		t.Error("an empty list of steps is written")
	}
}

// R4

func TestAnswersAreTheSameAgain(t *testing.T) {
	m := wholeMsg()
	b := note.Bytes(m)
	for i := range 200 {
		note.Read(sealedOf(2, 10, 4, byte(i)))
		note.Bytes(newChance(uint64(i)).msg())
		if !bytes.Equal(note.Bytes(m), b) || !note.Good(m) {
			t.Fatal("other bytes than at first")
		}
		if got, err := note.Read(b); err != api.OK || !reflect.DeepEqual(got, m) {
			t.Fatalf("another message than at first: %v, %v", got, err)
		}
	}
}

// R6

func TestNumbersAtTheirEnds(t *testing.T) {
	ends := []int{math.MinInt, math.MinInt + 1, math.MaxInt, math.MaxInt - 1, -1, 1, 1 << 62, -1 << 62}
	for _, n := range ends {
		failsOp(t, "ends", api.Op{Client: n, Request: -1})
		if b := note.OpBytes(api.Op{Try: n}); !bytes.Equal(b, slowOp(api.Op{Try: n})) {
			t.Errorf("OpBytes of Try %d: %v", n, b)
		}
		if b := note.DefBytes(api.Def{Steps: []api.Step{{Retry: n}}}); !bytes.Equal(b, slowDef(api.Def{Steps: []api.Step{{Retry: n}}})) {
			t.Errorf("DefBytes of Retry %d: %v", n, b)
		}
	}
	wide := []byte{255, 255, 255, 255, 255, 255, 255, 255, 255, 1} // of 64 bits: the least int; one less: the greatest
	for _, b := range [][]byte{wide, append([]byte{254}, wide[1:]...)} {
		readsOp(t, "ends", append([]byte{4}, b...), api.ErrBad)
		reads(t, "ends", sealed(append([]byte{2, 10, 4}, b...)), api.ErrBad)
		reads(t, "ends", sealed(append([]byte{2}, b...)), api.ErrBad)
		reads(t, "ends", sealed(append([]byte{2, 10, 34}, b...)), api.ErrBad)
		readsOp(t, "ends of a flag", append([]byte{16}, b...), api.ErrBad)
		readsOp(t, "ends of a count", append([]byte{9}, b...), api.ErrShort)
	}
}

// The bound

func TestMuchIsWrittenAndRead(t *testing.T) {
	d := api.Def{Name: strings.Repeat("a", 1<<20), Steps: make([]api.Step, 1<<17)}
	for i := range d.Steps {
		d.Steps[i].Wait = i
	}
	b := note.DefBytes(d)
	if !bytes.Equal(b, slowDef(d)) {
		t.Errorf("DefBytes of much: %d bytes", len(b))
	}
	got, err := note.ReadDef(b)
	if err != api.ErrBad || !reflect.DeepEqual(plainDef(got), api.Def{}) {
		t.Errorf("ReadDef of much: %v", err)
	}
	o := api.Op{Kind: 1, Def: d}
	if !bytes.Equal(note.OpBytes(o), slowOp(o)) || note.GoodOp(o) {
		t.Error("much is written as something else, or is good")
	}
	m := api.Msg{Kind: 7, Ops: make([]api.Op, 1<<17), Incs: make([]int, 5)}
	if note.Good(m) || len(note.Bytes(m)) != 0 {
		t.Error("much is Good")
	}
	m.Ops, m.Incs = nil, make([]int, 1<<20)
	if note.Good(m) || len(note.Bytes(m)) != 0 {
		t.Error("many Incs are Good")
	}
	readsOp(t, "much", bytes.Repeat([]byte{2, 4}, 1<<19), api.ErrBad)
	readsOp(t, "much, of nothing known", bytes.Repeat([]byte{40, 4}, 1<<19), api.ErrBad)
}
