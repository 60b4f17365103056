package field_test

import (
	"bytes"
	"math"
	"math/big"
	"math/bits"
	"slices"
	"testing"

	"drover/api"
	"drover/field"
)

// The signatures that the chapter lists.
var (
	_ func([]byte, uint64) []byte                  = field.Uint
	_ func([]byte) (uint64, int)                   = field.GetUint
	_ func(int) uint64                             = field.Zig
	_ func(uint64) int                             = field.Zag
	_ func([]field.Field) []byte                   = field.Write
	_ func([]byte) ([]field.Field, api.Errno)      = field.Read
	_ func(field.Field) bool                       = field.Good
	_ func([]field.Field, int) (field.Field, bool) = field.Find
	_ struct {
		Num  int
		Text bool
		V    uint64
		B    []byte
	} = field.Field{}
)

func sameField(a, b field.Field) bool {
	return a.Num == b.Num && a.Text == b.Text && a.V == b.V && bytes.Equal(a.B, b.B)
}

func sameFields(a, b []field.Field) bool { return slices.EqualFunc(a, b, sameField) }

func num(n int, v uint64) field.Field { return field.Field{Num: n, V: v} }

func text(n int, s string) field.Field { return field.Field{Num: n, Text: true, B: []byte(s)} }

// run: n bytes c, and tail behind them.
func run(n int, c byte, tail ...byte) []byte {
	return append(bytes.Repeat([]byte{c}, n), tail...)
}

// edges: numbers at which the count of bytes, or a kind of int, comes to its end.
func edges() []uint64 {
	l := []uint64{0, 1, 5, 300, math.MaxUint64}
	for i := 1; i < 64; i++ {
		p := uint64(1) << i
		l = append(l, p-1, p, p+1)
	}
	return l
}

// P1.1

func TestUint(t *testing.T) {
	for _, c := range []struct {
		v    uint64
		want []byte
	}{
		{0, []byte{0}},
		{1, []byte{1}},
		{127, []byte{127}},
		{128, []byte{128, 1}},
		{300, []byte{172, 2}},
		{16383, []byte{255, 127}},
		{16384, []byte{128, 128, 1}},
		{1 << 32, []byte{128, 128, 128, 128, 16}},
		{1<<63 - 1, run(8, 255, 127)},
		{1 << 63, run(9, 128, 1)},
		{math.MaxUint64, run(9, 255, 1)},
	} {
		if got := field.Uint(nil, c.v); !bytes.Equal(got, c.want) {
			t.Errorf("Uint(nil, %d): %v, want %v", c.v, got, c.want)
		}
		if got := field.Uint([]byte{}, c.v); !bytes.Equal(got, c.want) {
			t.Errorf("Uint(empty, %d): %v, want %v", c.v, got, c.want)
		}
		if got, want := field.Uint([]byte{9, 0, 200}, c.v), append([]byte{9, 0, 200}, c.want...); !bytes.Equal(got, want) {
			t.Errorf("Uint behind three bytes, %d: %v, want %v", c.v, got, want)
		}
	}
}

func TestUintHasAsFewBytesAsThereMustBe(t *testing.T) {
	for _, v := range edges() {
		b := field.Uint(nil, v)
		if want := max(1, (bits.Len64(v)+6)/7); len(b) != want {
			t.Errorf("Uint of %d has %d bytes, want %d", v, len(b), want)
			continue
		}
		var sum uint64
		for i, c := range b {
			sum |= uint64(c&127) << (7 * i)
			if (c >= 128) != (i < len(b)-1) {
				t.Errorf("Uint of %d: byte %d is %d", v, i, c)
			}
		}
		if sum != v {
			t.Errorf("the groups of Uint of %d make %d", v, sum)
		}
	}
}

func TestGetUint(t *testing.T) {
	for _, v := range edges() {
		b := field.Uint(nil, v)
		for _, tail := range [][]byte{nil, {0}, {1}, {128}, {255, 255}} {
			got, n := field.GetUint(append(slices.Clone(b), tail...))
			if got != v || n != len(b) {
				t.Errorf("GetUint of %v and %v: %d, %d, want %d, %d", b, tail, got, n, v, len(b))
			}
		}
		for i := range b {
			if got, n := field.GetUint(b[:i]); got != 0 || n != 0 {
				t.Errorf("GetUint of %v, which ends early: %d, %d", b[:i], got, n)
			}
		}
	}
}

func TestGetUintOfNone(t *testing.T) {
	for _, b := range [][]byte{
		nil, {}, // nothing
		{128}, {255}, run(9, 128), run(9, 255), run(10, 255), run(30, 128), // not there wholly
		run(9, 128, 2), run(9, 255, 2), run(9, 255, 3), run(9, 255, 127), run(9, 128, 64), // above 2^64 - 1
		run(9, 255, 129, 1), run(9, 128, 130, 1), run(10, 128, 1), run(20, 255, 1),
		{128, 0}, {255, 0}, {129, 0, 5}, {255, 128, 0}, // 0 is the last byte behind another one
		run(8, 255, 0), run(9, 255, 0), run(9, 128, 0), run(10, 128, 0), run(9, 255, 128, 0), run(9, 255, 129, 0),
	} {
		if v, n := field.GetUint(b); v != 0 || n != 0 {
			t.Errorf("GetUint of %v: %d, %d, want 0, 0", b, v, n)
		}
	}
}

func TestZigAndZag(t *testing.T) {
	for _, c := range []struct {
		n int
		v uint64
	}{
		{0, 0}, {-1, 1}, {1, 2}, {-2, 3}, {2, 4}, {-3, 5}, {3, 6},
		{64, 128}, {-64, 127}, {-65, 129},
		{1 << 40, 1 << 41}, {-1 << 40, 1<<41 - 1},
		{1 << 62, 1 << 63}, {-1 << 62, 1<<63 - 1},
		{math.MaxInt, math.MaxUint64 - 1}, {math.MinInt, math.MaxUint64},
		{math.MaxInt - 1, math.MaxUint64 - 3}, {math.MinInt + 1, math.MaxUint64 - 2},
	} {
		if got := field.Zig(c.n); got != c.v {
			t.Errorf("Zig(%d): %d, want %d", c.n, got, c.v)
		}
		if got := field.Zag(c.v); got != c.n {
			t.Errorf("Zag(%d): %d, want %d", c.v, got, c.n)
		}
	}
	for _, v := range edges() {
		if got := field.Zig(field.Zag(v)); got != v {
			t.Errorf("Zig(Zag(%d)): %d", v, got)
		}
	}
}

// P1.2

func TestGood(t *testing.T) {
	for _, c := range []struct {
		f    field.Field
		want bool
	}{
		{field.Field{}, false},
		{num(1, 0), true}, {num(1000, 7), true}, {num(500, math.MaxUint64), true},
		{num(0, 5), false}, {num(-1, 5), false}, {num(1001, 5), false},
		{num(math.MaxInt, 5), false}, {num(math.MinInt, 5), false},
		{num(1<<32+1, 5), false}, {num(-math.MaxInt, 5), false},
		{text(1, ""), true}, {text(1, "a"), true}, {text(1000, "ab"), true},
		{text(0, "a"), false}, {text(1001, "a"), false}, {text(-5, "a"), false},
		{field.Field{Num: 1, Text: true}, true},
		{field.Field{Num: 1, Text: true, V: 1}, false},
		{field.Field{Num: 1, Text: true, V: math.MaxUint64, B: []byte("a")}, false},
		{field.Field{Num: 1, B: []byte{}}, true},
		{field.Field{Num: 1, V: 3, B: []byte{}}, true},
		{field.Field{Num: 1, B: []byte{0}}, false},
		{field.Field{Num: 1, V: 3, B: []byte("a")}, false},
	} {
		if got := field.Good(c.f); got != c.want {
			t.Errorf("Good(%v): %v, want %v", c.f, got, c.want)
		}
	}
}

func TestWrite(t *testing.T) {
	long := string(run(300, 'x'))
	for _, c := range []struct {
		l    []field.Field
		want []byte
	}{
		{nil, nil},
		{[]field.Field{}, nil},
		{[]field.Field{num(1, 5), text(2, "a")}, []byte{2, 5, 5, 1, 97}},
		{[]field.Field{text(2, "a"), num(1, 5)}, []byte{5, 1, 97, 2, 5}},
		{[]field.Field{num(3, 0), num(3, 0)}, []byte{6, 0, 6, 0}},
		{[]field.Field{text(1, "")}, []byte{3, 0}},
		{[]field.Field{num(63, 300), num(64, 1)}, []byte{126, 172, 2, 128, 1, 1}},
		{[]field.Field{num(1000, 1), text(1000, "z")}, []byte{208, 15, 1, 209, 15, 1, 'z'}},
		{[]field.Field{num(1, math.MaxUint64)}, append([]byte{2}, run(9, 255, 1)...)},
		{[]field.Field{text(1, long)}, append([]byte{3, 172, 2}, long...)},
		{[]field.Field{text(1, string(run(128, 0)))}, append([]byte{3, 128, 1}, run(128, 0)...)},
	} {
		if got := field.Write(c.l); !bytes.Equal(got, c.want) {
			t.Errorf("Write(%v): %v, want %v", c.l, got, c.want)
		}
	}
}

func TestWriteLeavesOutWhatIsNotGood(t *testing.T) {
	bad := []field.Field{
		{}, num(0, 5), num(1001, 5), num(-1, 5), num(math.MinInt, 5), num(1<<32+1, 5),
		{Num: 1, B: []byte("a")}, {Num: 1, Text: true, V: 5}, {Num: 1, Text: true, V: 5, B: []byte("a")},
	}
	if got := field.Write(bad); len(got) != 0 {
		t.Errorf("Write of fields that are not Good: %v, want nothing", got)
	}
	want := []byte{2, 5, 5, 1, 97}
	for i, f := range bad {
		for at := 0; at <= 2; at++ {
			l := slices.Insert([]field.Field{num(1, 5), text(2, "a")}, at, f)
			if got := field.Write(l); !bytes.Equal(got, want) {
				t.Errorf("Write with bad field %d at place %d: %v, want %v", i, at, got, want)
			}
		}
	}
}

func TestRead(t *testing.T) {
	for _, c := range []struct {
		b    []byte
		want []field.Field
	}{
		{nil, nil},
		{[]byte{}, nil},
		{[]byte{2, 5, 5, 1, 97}, []field.Field{num(1, 5), text(2, "a")}},
		{[]byte{5, 1, 97, 2, 5}, []field.Field{text(2, "a"), num(1, 5)}},
		{[]byte{3, 0}, []field.Field{text(1, "")}},
		{[]byte{3, 0, 3, 0, 2, 0}, []field.Field{text(1, ""), text(1, ""), num(1, 0)}},
		{[]byte{6, 1, 6, 1}, []field.Field{num(3, 1), num(3, 1)}},
		{[]byte{208, 15, 172, 2}, []field.Field{num(1000, 300)}},
		{[]byte{209, 15, 2, 0, 255}, []field.Field{text(1000, "\x00\xff")}},
		{append([]byte{2}, run(9, 255, 1)...), []field.Field{num(1, math.MaxUint64)}},
		{append([]byte{3, 128, 1}, run(128, 200)...), []field.Field{text(1, string(run(128, 200)))}},
	} {
		got, err := field.Read(c.b)
		if err != api.OK || !sameFields(got, c.want) {
			t.Errorf("Read(%v): %v, %v, want %v", c.b, got, err, c.want)
		}
	}
}

// wrong: bytes that are no record, and what Read tells of them.
func wrong() []struct {
	b    []byte
	want api.Errno
} {
	return []struct {
		b    []byte
		want api.Errno
	}{
		// It ends within the number of Num, or of V, or of how many bytes there are.
		{[]byte{128}, api.ErrShort},
		{run(9, 255), api.ErrShort},
		{[]byte{2}, api.ErrShort},
		{[]byte{208, 15}, api.ErrShort},
		{[]byte{2, 128}, api.ErrShort},
		{append([]byte{2}, run(9, 255)...), api.ErrShort},
		{[]byte{3}, api.ErrShort},
		{append([]byte{3}, run(9, 128)...), api.ErrShort},
		// It ends within the bytes, also of such counts as no int has.
		{[]byte{3, 1}, api.ErrShort},
		{[]byte{3, 3, 97, 97}, api.ErrShort},
		{append([]byte{3, 129, 1}, run(128, 0)...), api.ErrShort},
		{append(field.Uint([]byte{3}, 1<<32), 97), api.ErrShort},
		{append(field.Uint([]byte{3}, 1<<32+1), 97), api.ErrShort},
		{append(field.Uint([]byte{3}, math.MaxInt64), 97), api.ErrShort},
		{append(field.Uint([]byte{3}, 1<<63), 97), api.ErrShort},
		{append(field.Uint([]byte{3}, math.MaxUint64), 97), api.ErrShort},
		// The number of Num is none, or Num is not 1 to 1000; what stands behind may end.
		{[]byte{0}, api.ErrBad},
		{[]byte{1}, api.ErrBad},
		{[]byte{0, 5}, api.ErrBad},
		{[]byte{1, 1, 97}, api.ErrBad},
		{[]byte{0, 128}, api.ErrBad},
		{[]byte{1, 5, 97}, api.ErrBad},
		{[]byte{210, 15}, api.ErrBad},
		{[]byte{210, 15, 1}, api.ErrBad},
		{[]byte{211, 15}, api.ErrBad},
		{[]byte{211, 15, 1, 97}, api.ErrBad},
		{field.Uint(nil, 1<<32+2), api.ErrBad},
		{append(field.Uint(nil, 1<<33+2), 5), api.ErrBad},
		{append(field.Uint(nil, math.MaxUint64), 1, 97), api.ErrBad},
		{[]byte{130, 0}, api.ErrBad},
		{[]byte{130, 0, 5}, api.ErrBad},
		{run(10, 128), api.ErrBad},
		{run(10, 255), api.ErrBad},
		{run(9, 128, 0), api.ErrBad},
		{run(9, 128, 2), api.ErrBad},
		{run(9, 255, 2, 5), api.ErrBad},
		// Such a number behind it.
		{[]byte{2, 133, 0}, api.ErrBad},
		{append([]byte{2}, run(10, 255)...), api.ErrBad},
		{append([]byte{2}, run(10, 128)...), api.ErrBad},
		{append([]byte{2}, run(9, 255, 2)...), api.ErrBad},
		{append([]byte{2}, run(9, 128, 0)...), api.ErrBad},
		{[]byte{3, 129, 0, 97}, api.ErrBad},
		{[]byte{3, 129, 0}, api.ErrBad},
		{append([]byte{3}, run(9, 128, 2)...), api.ErrBad},
		{append([]byte{3}, run(10, 128)...), api.ErrBad},
	}
}

func TestReadErrors(t *testing.T) {
	for _, c := range wrong() {
		if l, err := field.Read(c.b); err != c.want || len(l) != 0 {
			t.Errorf("Read(%v): %v, %v, want nothing, %v", c.b, l, err, c.want)
		}
		behind := append([]byte{2, 5, 5, 1, 97}, c.b...)
		if l, err := field.Read(behind); err != c.want || len(l) != 0 {
			t.Errorf("Read(%v): %v, %v, want nothing, %v", behind, l, err, c.want)
		}
	}
}

func TestReadTellsTheFirstFieldsError(t *testing.T) {
	for _, c := range []struct {
		b    []byte
		want api.Errno
	}{
		{[]byte{0, 5, 2}, api.ErrBad},           // a bad Num, then an end
		{[]byte{2, 133, 0, 2}, api.ErrBad},      // a bad V, then an end
		{[]byte{2, 5, 0, 3, 9}, api.ErrBad},     // a good one, a bad one, an end
		{[]byte{3, 9, 0, 0, 133}, api.ErrShort}, // an end, and bytes that would be bad on their own
		{[]byte{2, 5, 3, 2, 0}, api.ErrShort},
	} {
		if l, err := field.Read(c.b); err != c.want || len(l) != 0 {
			t.Errorf("Read(%v): %v, %v, want nothing, %v", c.b, l, err, c.want)
		}
	}
}

func TestFind(t *testing.T) {
	l := []field.Field{num(1, 5), text(2, "a"), num(1, 6), text(2, "b"), num(3, 7), text(3, ""), num(4, 8)}
	for _, c := range []struct {
		n    int
		want field.Field
		ok   bool
	}{
		{1, num(1, 6), true}, {2, text(2, "b"), true}, {3, text(3, ""), true}, {4, num(4, 8), true},
		{5, field.Field{}, false}, {0, field.Field{}, false}, {-1, field.Field{}, false},
		{1000, field.Field{}, false}, {math.MaxInt, field.Field{}, false}, {math.MinInt, field.Field{}, false},
	} {
		if got, ok := field.Find(l, c.n); ok != c.ok || !sameField(got, c.want) {
			t.Errorf("Find %d: %v, %v, want %v, %v", c.n, got, ok, c.want, c.ok)
		}
	}
	for _, none := range [][]field.Field{nil, {}} {
		if got, ok := field.Find(none, 1); ok || !sameField(got, field.Field{}) {
			t.Errorf("Find in nothing: %v, %v", got, ok)
		}
	}
	first := []field.Field{text(9, "only"), num(1, 1)}
	if got, ok := field.Find(first, 9); !ok || !sameField(got, text(9, "only")) {
		t.Errorf("Find of the field at place 0: %v, %v", got, ok)
	}
	if _, ok := field.Find([]field.Field{{}}, 0); !ok {
		t.Error("Find asks for more of a field than its Num")
	}
}

// P1.3

// records: lists of good fields, made by a short rule.
func records() [][]field.Field {
	var out [][]field.Field
	nums := []int{1, 2, 63, 64, 999, 1000}
	var all []field.Field
	for i, v := range edges() {
		all = append(all, num(nums[i%len(nums)], v))
		all = append(all, text(nums[i%5], string(run(i, byte(i*37)))))
		out = append(out, slices.Clone(all[max(0, len(all)-1-i%4):]))
	}
	return append(out, nil, all)
}

func TestReadOfWrite(t *testing.T) {
	for _, l := range records() {
		got, err := field.Read(field.Write(l))
		if err != api.OK || !sameFields(got, l) {
			t.Fatalf("Read of Write of %v: %v, %v", l, got, err)
		}
	}
}

// modelNumber tells a number as the chapter's words do, by sums without an end.
func modelNumber(b []byte) (uint64, int, api.Errno) {
	end := slices.IndexFunc(b, func(c byte) bool { return c <= 127 })
	switch {
	case end < 0 && len(b) <= 9:
		return 0, 0, api.ErrShort
	case end < 0, end > 0 && b[end] == 0:
		return 0, 0, api.ErrBad
	}
	sum := new(big.Int)
	for i := end; i >= 0; i-- {
		sum.Lsh(sum, 7).Or(sum, big.NewInt(int64(b[i]%128)))
	}
	if !sum.IsUint64() {
		return 0, 0, api.ErrBad
	}
	return sum.Uint64(), end + 1, api.OK
}

func modelRead(b []byte) ([]field.Field, api.Errno) {
	var l []field.Field
	for len(b) > 0 {
		key, n, err := modelNumber(b)
		if err != api.OK {
			return nil, err
		}
		if key/2 < 1 || key/2 > 1000 {
			return nil, api.ErrBad
		}
		v, m, err := modelNumber(b[n:])
		if err != api.OK {
			return nil, err
		}
		b = b[n+m:]
		if key%2 == 0 {
			l = append(l, num(int(key/2), v))
			continue
		}
		if uint64(len(b)) < v {
			return nil, api.ErrShort
		}
		l = append(l, text(int(key/2), string(b[:v])))
		b = b[v:]
	}
	return l, api.OK
}

func checkBytes(t *testing.T, b []byte) {
	t.Helper()
	got, err := field.Read(b)
	want, wantErr := modelRead(b)
	if err != wantErr || !sameFields(got, want) {
		t.Fatalf("Read(%v): %v, %v, want %v, %v", b, got, err, want, wantErr)
	}
	for _, f := range got {
		if !field.Good(f) {
			t.Fatalf("Read(%v) told %v, which is not Good", b, f)
		}
	}
	if back := field.Write(got); err == api.OK && !bytes.Equal(back, b) {
		t.Fatalf("Write of Read(%v): %v", b, back)
	}
	v, n := field.GetUint(b)
	if wantV, wantN, _ := modelNumber(b); v != wantV || n != wantN {
		t.Fatalf("GetUint(%v): %d, %d, want %d, %d", b, v, n, wantV, wantN)
	}
}

func TestWriteOfReadOfAllShortBytes(t *testing.T) {
	letters := []byte{0, 1, 2, 3, 4, 5, 15, 97, 127, 128, 129, 208, 209, 210, 255}
	var visit func(b []byte)
	visit = func(b []byte) {
		checkBytes(t, b)
		if len(b) == 4 {
			return
		}
		for _, c := range letters {
			visit(append(slices.Clone(b), c))
		}
	}
	visit(nil)
}

func TestWriteOfReadOfLongNumbers(t *testing.T) {
	for _, head := range [][]byte{nil, {2}, {3}, {2, 5}, {3, 1, 97}} {
		for _, c := range []byte{128, 129, 255} {
			for n := 0; n <= 12; n++ {
				for _, tail := range [][]byte{nil, {0}, {1}, {2}, {3}, {127}, {128}, {1, 5}, {0, 5}, {2, 5}} {
					checkBytes(t, slices.Concat(head, run(n, c, tail...)))
				}
			}
		}
	}
}
