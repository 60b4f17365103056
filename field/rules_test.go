package field_test

import (
	"bytes"
	"math"
	"slices"
	"testing"

	"drover/api"
	"drover/field"
)

// The rules that hold everywhere, P1 and the bound, for this package. (R5 speaks of objects: there are none here but the zero Field.)

const spare = 40

// roomy: a list that holds s, with filled room behind its end; the second answer is all of it.
func roomy[T any](filler T, s ...T) ([]T, []T) {
	all := append(slices.Clone(s), slices.Repeat([]T{filler}, spare)...)
	return all[:len(s)], all
}

// scribble writes over all of b, the room behind its end too.
func scribble(b []byte, c byte) {
	b = b[:cap(b)]
	for i := range b {
		b[i] = c
	}
}

func deep(l []field.Field) []field.Field {
	l = slices.Clone(l)
	for i := range l {
		l[i].B = bytes.Clone(l[i].B)
	}
	return l
}

// R1, P1

func TestEveryCallEnds(t *testing.T) {
	ints := []int{0, 1, -1, 1000, 1001, math.MaxInt, math.MinInt, math.MaxInt32, math.MinInt32}
	lists := [][]byte{nil, {}, {0}, {255}, run(9, 255), run(10, 255), run(9, 255, 1), run(200, 128)}
	var l []field.Field
	for _, n := range ints {
		for _, b := range lists {
			for _, v := range []uint64{0, 1, math.MaxUint64} {
				l = append(l, field.Field{Num: n, Text: true, V: v, B: b}, field.Field{Num: n, V: v, B: b})
			}
		}
		field.Zig(n)
		field.Find(nil, n)
		field.Find(l, n)
	}
	for _, f := range l {
		field.Good(f)
		field.Write([]field.Field{f})
	}
	for _, b := range lists {
		for _, v := range edges() {
			field.Uint(b, v)
			field.Zag(v)
			field.Read(field.Uint(b, v))
			field.GetUint(field.Uint(b, v))
		}
	}
	if got, err := field.Read(field.Write(l)); err != api.OK || len(got) != len(slices.DeleteFunc(l, func(f field.Field) bool { return !field.Good(f) })) {
		t.Errorf("of fields good and bad %d came back, %v", len(got), err)
	}
}

// R3

func TestUintAnswersNewMemory(t *testing.T) {
	for _, v := range []uint64{0, 1, 300, math.MaxUint64} {
		b, all := roomy[byte](77, 1, 2, 3)
		before := bytes.Clone(all)
		got := field.Uint(b, v)
		want := bytes.Clone(got)
		if !bytes.Equal(all, before) {
			t.Errorf("Uint of %d wrote into what it was handed: %v", v, all)
		}
		scribble(all, 88)
		if !bytes.Equal(got, want) {
			t.Errorf("Uint of %d answers memory that it was handed", v)
		}
		copy(all, before)
		scribble(got, 99)
		if !bytes.Equal(all, before) {
			t.Errorf("Uint of %d answers room that it was handed", v)
		}
	}
	a, b := field.Uint(nil, 5), field.Uint(nil, 5)
	scribble(a, 99)
	if !bytes.Equal(b, []byte{5}) || !bytes.Equal(field.Uint(nil, 5), []byte{5}) {
		t.Error("two answers of Uint share memory")
	}
}

func TestWriteAnswersNewMemory(t *testing.T) {
	body, all := roomy[byte](77, 'a', 'b')
	l, room := roomy(num(9, 9), num(1, 5), field.Field{Num: 2, Text: true, B: body}, num(0, 5), field.Field{Num: 3, B: []byte{1}})
	before, bodyBefore := deep(room), bytes.Clone(all)
	got := field.Write(l)
	want := []byte{2, 5, 5, 2, 'a', 'b'}
	if !bytes.Equal(got, want) {
		t.Errorf("Write: %v, want %v", got, want)
	}
	if !sameFields(room, before) || !bytes.Equal(all, bodyBefore) {
		t.Error("Write changed what it was handed")
	}
	scribble(all, 88)
	if !bytes.Equal(got, want) {
		t.Error("Write answers memory that it was handed")
	}
	copy(all, bodyBefore)
	scribble(got, 99)
	if !bytes.Equal(all, bodyBefore) || !bytes.Equal(field.Write(l), want) {
		t.Error("Write answers room that it was handed, or keeps what it answered")
	}
	alone := []field.Field{{Num: 2, Text: true, B: body}}
	if one := field.Write(alone); !bytes.Equal(one, want[2:]) {
		t.Errorf("Write of one: %v", one)
	}
}

func TestReadAnswersNewMemory(t *testing.T) {
	b, all := roomy[byte](77, 3, 2, 97, 98, 5, 1, 99, 7, 0, 2, 5, 9, 3, 1, 2, 3)
	before := bytes.Clone(all)
	got, err := field.Read(b)
	want := []field.Field{text(1, "ab"), text(2, "c"), text(3, ""), num(1, 5), text(4, "\x01\x02\x03")}
	if err != api.OK || !sameFields(got, want) {
		t.Fatalf("Read: %v, %v, want %v", got, err, want)
	}
	if !bytes.Equal(all, before) {
		t.Errorf("Read changed what it was handed: %v", all)
	}
	scribble(all, 88)
	if !sameFields(got, want) {
		t.Errorf("Read answers memory that it was handed: %v", got)
	}
	copy(all, before)
	for i := range got {
		scribble(got[i].B, 99)
		if !sameFields(got[i+1:], want[i+1:]) {
			t.Errorf("the bytes of field %d and those behind it share memory: %v", i, got)
		}
	}
	for i := len(got) - 1; i >= 0; i-- {
		copy(got[i].B, want[i].B)
		scribble(got[i].B[len(got[i].B):], 99)
	}
	if !sameFields(got, want) || !bytes.Equal(all, before) {
		t.Errorf("the lists of an answer share room: %v", got)
	}
}

func TestFindAnswersNewMemory(t *testing.T) {
	body, all := roomy[byte](77, 'a', 'b')
	l, room := roomy(num(1, 9), num(2, 5), field.Field{Num: 1, Text: true, B: body})
	before, bodyBefore := deep(room), bytes.Clone(all)
	got, ok := field.Find(l, 1)
	if !ok || !sameField(got, text(1, "ab")) {
		t.Fatalf("Find looked behind the list's end, or missed it: %v, %v", got, ok)
	}
	if !sameFields(room, before) {
		t.Error("Find changed what it was handed")
	}
	scribble(all, 88)
	if !sameField(got, text(1, "ab")) {
		t.Error("Find answers memory that it was handed")
	}
	copy(all, bodyBefore)
	scribble(got.B, 99)
	if !bytes.Equal(all, bodyBefore) {
		t.Error("Find answers room that it was handed")
	}
}

func TestGetUintAndGoodChangeNothing(t *testing.T) {
	for _, in := range [][]byte{{172, 2}, {128}, {128, 0}, run(9, 255, 2)} {
		b, all := roomy(77, in...)
		before := bytes.Clone(all)
		field.GetUint(b)
		field.Good(field.Field{Num: 1, B: b})
		field.Good(field.Field{Num: 1, Text: true, B: b})
		if !bytes.Equal(all, before) {
			t.Errorf("of %v became %v", before, all)
		}
	}
	b, _ := roomy[byte](1, 128)
	if v, n := field.GetUint(b); v != 0 || n != 0 {
		t.Errorf("GetUint looked behind the list's end: %d, %d", v, n)
	}
	b, _ = roomy[byte](1, 2)
	if l, err := field.Read(b); err != api.ErrShort || len(l) != 0 {
		t.Errorf("Read looked behind the list's end: %v, %v", l, err)
	}
}

// R4

func TestAnswersHangOnArgumentsAlone(t *testing.T) {
	l := []field.Field{num(1, 300), text(2, "ab"), num(1000, math.MaxUint64)}
	b := field.Write(l)
	for range 3 {
		field.Write([]field.Field{text(7, "other")})
		field.Read([]byte{0})
		field.Read(run(10, 255))
		field.Uint(run(3, 1), 77)
		if again := field.Write(l); !bytes.Equal(again, b) {
			t.Fatalf("Write answers %v, and then %v", b, again)
		}
		if got, err := field.Read(b); err != api.OK || !sameFields(got, l) {
			t.Fatalf("Read answers %v, %v behind other calls", got, err)
		}
		if v, n := field.GetUint([]byte{172, 2}); v != 300 || n != 2 {
			t.Fatalf("GetUint answers %d, %d behind other calls", v, n)
		}
		if f, ok := field.Find(l, 2); !ok || !sameField(f, text(2, "ab")) {
			t.Fatalf("Find answers %v, %v behind other calls", f, ok)
		}
	}
}

// R5

func TestTheZeroField(t *testing.T) {
	var f field.Field
	if field.Good(f) || len(field.Write([]field.Field{f})) != 0 {
		t.Error("the zero Field is taken for a good one")
	}
}

// R6

func TestNumbersAtTheirEnds(t *testing.T) {
	for _, n := range []int{math.MinInt, math.MinInt + 1, -1 << 62, -1<<62 - 1, 1 << 62, 1<<62 - 1, math.MaxInt - 1, math.MaxInt} {
		v := field.Zig(n)
		if field.Zag(v) != n || (v%2 == 1) != (n < 0) {
			t.Errorf("Zig(%d) is %d, of which Zag is %d", n, v, field.Zag(v))
		}
	}
	for _, v := range []uint64{1<<31 - 1, 1 << 31, 1<<32 - 1, 1 << 32, 1<<63 - 1, 1 << 63, math.MaxUint64 - 8, math.MaxUint64 - 1, math.MaxUint64} {
		b := append(field.Uint([]byte{2, 5, 3}, v), 1, 2, 3)
		if l, err := field.Read(b); err != api.ErrShort || len(l) != 0 {
			t.Errorf("Read of a text said to have %d bytes: %v, %v", v, l, err)
		}
		if l, err := field.Read(field.Uint(nil, v)); len(l) != 0 || err != api.ErrBad {
			t.Errorf("Read of a Num of %d, halved: %v, %v", v, l, err)
		}
	}
}

// R2, R7

func TestNothingStandsBesideAnErrorOrAFalse(t *testing.T) {
	for _, c := range wrong() {
		if l, err := field.Read(append(field.Write([]field.Field{num(1, 5), text(2, "ab")}), c.b...)); err != c.want || len(l) != 0 {
			t.Errorf("beside an error behind good fields: %v, %v, want nothing, %v", l, err, c.want)
		}
	}
	if f, ok := field.Find([]field.Field{text(2, "ab"), num(3, 5)}, 4); ok || !sameField(f, field.Field{}) {
		t.Errorf("beside a false: %v, %v", f, ok)
	}
}

func TestNilAndEmptyListsAreTheSame(t *testing.T) {
	if a, b := field.Write([]field.Field{{Num: 1, Text: true}}), field.Write([]field.Field{{Num: 1, Text: true, B: []byte{}}}); !bytes.Equal(a, b) {
		t.Errorf("Write of a text: %v of nil, %v of an empty one", a, b)
	}
	if a, b := field.Write([]field.Field{{Num: 1, V: 5}}), field.Write([]field.Field{{Num: 1, V: 5, B: []byte{}}}); !bytes.Equal(a, b) {
		t.Errorf("Write of a number: %v of nil, %v of an empty one", a, b)
	}
}

// The bound

func TestMuchIsTaken(t *testing.T) {
	const many = 100000
	l := make([]field.Field, 0, many+2)
	for i := range many {
		l = append(l, num(i%1000+1, uint64(i)<<20))
	}
	l = append(l, text(5, string(run(1<<21, 'x'))), text(6, string(run(1<<14, 'y'))))
	b := field.Write(l)
	got, err := field.Read(b)
	if err != api.OK || !sameFields(got, l) {
		t.Fatalf("of %d fields in %d bytes %d came back, %v", len(l), len(b), len(got), err)
	}
	if f, ok := field.Find(got, 7); !ok || f.V != uint64(many-1000+6)<<20 {
		t.Errorf("Find among many: %v, %v", f, ok)
	}
	if _, err := field.Read(b[:len(b)-1]); err != api.ErrShort {
		t.Errorf("Read of many bytes less one: %v", err)
	}
	if got := field.Uint(b, 300); !bytes.Equal(got[:len(b)], b) || !bytes.Equal(got[len(b):], []byte{172, 2}) {
		t.Error("Uint behind many bytes is another")
	}
}
