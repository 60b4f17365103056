package envelope_test

import (
	"bytes"
	"encoding/binary"
	"hash/crc32"
	"math"
	"slices"
	"testing"

	"drover/api"
	"drover/envelope"
)

// The signatures that the chapter lists.
var (
	_ func([]byte) uint32                     = envelope.Sum
	_ func([]byte) []byte                     = envelope.Seal
	_ func([]byte) ([]byte, int, api.Errno)   = envelope.Open
	_ func([][]byte) []byte                   = envelope.All
	_ func([]byte) ([][]byte, int, api.Errno) = envelope.Split
	_ [envelope.Version]byte                  = [3]byte{}
)

const maxFrame = 65536

// run: n bytes c, and tail behind them.
func run(n int, c byte, tail ...byte) []byte {
	return append(bytes.Repeat([]byte{c}, n), tail...)
}

// mixed: n bytes by a short rule, in which all values come.
func mixed(n int) []byte {
	b := make([]byte, n)
	x := uint32(n)*2654435761 + 1
	for i := range b {
		x ^= x << 13
		x ^= x >> 17
		x ^= x << 5
		b[i] = byte(x >> 11)
	}
	return b
}

// summed: b, and its sum behind it.
func summed(b ...byte) []byte {
	return binary.LittleEndian.AppendUint32(slices.Clone(b), crc32.ChecksumIEEE(b))
}

// head: what stands ahead of a content of n bytes.
func head(n uint64) []byte { return binary.AppendUvarint([]byte{3}, n) }

// sealed: the envelope of b, as the chapter's words make it.
func sealed(b []byte) []byte {
	return summed(append(head(uint64(len(b))), b...)...)
}

// sizes: counts at which the count's own bytes come to their end, and those that a content may have at all.
func sizes() []int {
	return []int{0, 1, 2, 3, 4, 5, 63, 64, 126, 127, 128, 129, 255, 256, 300, 16382, 16383, 16384, 16385, 65534, 65535, 65536}
}

func contents() [][]byte {
	l := [][]byte{nil, {}, {0}, {3}, {255}, []byte("a"), []byte("123456789"), {3, 0, 60, 65, 244, 106}, run(4, 0), run(127, 255), run(128, 128), run(200, 0)}
	for _, n := range sizes() {
		l = append(l, mixed(n))
	}
	return l
}

// P2.1

func TestSum(t *testing.T) {
	rising := make([]byte, 32)
	for i := range rising {
		rising[i] = byte(i)
	}
	for _, c := range []struct {
		b    []byte
		want uint32
	}{
		{[]byte("123456789"), 0xcbf43926},
		{nil, 0},
		{[]byte{}, 0},
		{[]byte{0}, 0xd202ef8d},
		{[]byte("a"), 0xe8b7be43},
		{[]byte("The quick brown fox jumps over the lazy dog"), 0x414fa339},
		{run(32, 0), 0x190a55ad},
		{run(32, 255), 0xff6cab0b},
		{run(4, 255), 0xffffffff},
		{rising, 0x91267e8a},
	} {
		if got := envelope.Sum(c.b); got != c.want {
			t.Errorf("Sum(%v): %#x, want %#x", c.b, got, c.want)
		}
	}
}

// divided: the remainder that the chapter's polynomial leaves, bit by bit.
func divided(b []byte) uint32 {
	poly := uint32(0)
	for _, e := range []int{26, 23, 22, 16, 12, 11, 10, 8, 7, 5, 4, 2, 1, 0} {
		poly |= 1 << (31 - e)
	}
	r := uint32(math.MaxUint32)
	for _, c := range b {
		for i := range 8 {
			turn := (r ^ uint32(c>>i)) & 1
			r >>= 1
			if turn == 1 {
				r ^= poly
			}
		}
	}
	return ^r
}

func TestSumIsTheRemainder(t *testing.T) {
	for a := range 256 {
		for b := range 256 {
			p := []byte{byte(a), byte(b)}
			for _, p := range [][]byte{p[:1], p} {
				if got, want := envelope.Sum(p), divided(p); got != want {
					t.Fatalf("Sum(%v): %#x, want %#x", p, got, want)
				}
			}
		}
	}
	for n := range 300 {
		p := mixed(n)
		if got, want := envelope.Sum(p), divided(p); got != want || got != crc32.ChecksumIEEE(p) {
			t.Fatalf("Sum of %d bytes: %#x, want %#x", n, got, want)
		}
	}
	for _, p := range contents() {
		if got, want := envelope.Sum(p), divided(p); got != want {
			t.Errorf("Sum of %d bytes: %#x, want %#x", len(p), got, want)
		}
	}
}

func TestSumTakesMoreThanAFrame(t *testing.T) {
	for _, n := range []int{maxFrame, maxFrame + 1, maxFrame + 2, 1 << 20} {
		b := mixed(n)
		if got, want := envelope.Sum(b), crc32.ChecksumIEEE(b); got != want {
			t.Errorf("Sum of %d bytes: %#x, want %#x", n, got, want)
		}
	}
}

func TestSeal(t *testing.T) {
	for _, c := range []struct {
		b, want []byte
	}{
		{nil, []byte{3, 0, 60, 65, 244, 106}},
		{[]byte{}, []byte{3, 0, 60, 65, 244, 106}},
		{[]byte("a"), []byte{3, 1, 'a', 196, 7, 169, 222}},
		{[]byte("123456789"), summed(3, 9, '1', '2', '3', '4', '5', '6', '7', '8', '9')},
		{run(127, 7), summed(slices.Concat([]byte{3, 127}, run(127, 7))...)},
		{run(128, 7), summed(slices.Concat([]byte{3, 128, 1}, run(128, 7))...)},
		{run(300, 7), summed(slices.Concat([]byte{3, 172, 2}, run(300, 7))...)},
		{run(16383, 7), summed(slices.Concat([]byte{3, 255, 127}, run(16383, 7))...)},
		{run(16384, 7), summed(slices.Concat([]byte{3, 128, 128, 1}, run(16384, 7))...)},
		{run(65535, 7), summed(slices.Concat([]byte{3, 255, 255, 3}, run(65535, 7))...)},
		{run(65536, 7), summed(slices.Concat([]byte{3, 128, 128, 4}, run(65536, 7))...)},
	} {
		if got := envelope.Seal(c.b); !bytes.Equal(got, c.want) {
			t.Errorf("Seal of %d bytes: %v .., want %v ..", len(c.b), got[:min(9, len(got))], c.want[:6])
		}
	}
	for _, b := range contents() {
		if got := envelope.Seal(b); !bytes.Equal(got, sealed(b)) {
			t.Errorf("Seal of %d bytes is another", len(b))
		}
	}
}

func TestSealOfTooMuch(t *testing.T) {
	for _, n := range []int{maxFrame + 1, maxFrame + 2, 2 * maxFrame, 1 << 20} {
		if got := envelope.Seal(make([]byte, n)); len(got) != 0 {
			t.Errorf("Seal of %d bytes has %d, want nothing", n, len(got))
		}
	}
}

// P2.2

func TestOpen(t *testing.T) {
	for _, b := range contents() {
		p := sealed(b)
		for _, tail := range [][]byte{nil, {0}, {3}, {255}, {3, 0}, run(9, 255), p[:min(len(p), 20)]} {
			got, n, err := envelope.Open(append(slices.Clone(p), tail...))
			if err != api.OK || n != len(p) || !bytes.Equal(got, b) {
				t.Errorf("Open of an envelope of %d bytes, and %v: %d bytes, %d, %v, want %d", len(b), tail, len(got), n, err, len(p))
			}
		}
	}
	if got, n, err := envelope.Open([]byte{3, 0, 60, 65, 244, 106}); len(got) != 0 || n != 6 || err != api.OK {
		t.Errorf("Open of the envelope of nothing: %v, %d, %v", got, n, err)
	}
	if got, n, err := envelope.Open([]byte{3, 1, 'a', 196, 7, 169, 222, 3}); string(got) != "a" || n != 7 || err != api.OK {
		t.Errorf("Open of the envelope of a: %v, %d, %v", got, n, err)
	}
}

type fault struct {
	b    []byte
	want api.Errno
}

// faults: bytes that begin with no envelope, and what Open tells of them.
func faults() []fault {
	return slices.Concat(oldOnes(), countsThatEnd(), countsThatAreNone(), endsWithin(), otherSums())
}

func oldOnes() []fault {
	l := []fault{}
	for v := range 256 {
		if v != 3 {
			l = append(l,
				fault{[]byte{byte(v)}, api.ErrOld},
				fault{[]byte{byte(v), 128}, api.ErrOld},                    // ahead of a count that ends
				fault{[]byte{byte(v), 128, 0}, api.ErrOld},                 // of one that is none
				fault{[]byte{byte(v), 5, 1}, api.ErrOld},                   // of an end
				fault{[]byte{byte(v), 0, 60, 65, 244, 106}, api.ErrOld},    // of another sum
				fault{summed(byte(v), 2, 'a', 'b'), api.ErrOld},            // and if all else is right
				fault{append([]byte{byte(v)}, sealed(nil)...), api.ErrOld}, // also ahead of an envelope
			)
		}
	}
	return l
}

func countsThatEnd() []fault {
	l := []fault{{nil, api.ErrShort}, {[]byte{}, api.ErrShort}, {[]byte{3}, api.ErrShort}}
	for n := 1; n <= 9; n++ {
		for _, c := range []byte{128, 129, 200, 255} {
			l = append(l, fault{append([]byte{3}, run(n, c)...), api.ErrShort})
		}
	}
	return append(l, fault{[]byte{3, 128, 255}, api.ErrShort}, fault{[]byte{3, 255, 128}, api.ErrShort})
}

func countsThatAreNone() []fault {
	l := []fault{}
	for _, count := range [][]byte{
		run(10, 128), run(10, 255), run(11, 255), run(30, 128), // ten bytes and more that go on
		{128, 0}, {255, 0}, {129, 0}, {128, 128, 0}, run(8, 255, 0), run(9, 128, 0), run(9, 255, 0), run(12, 128, 0), // a last byte 0
		run(9, 128, 2), run(9, 255, 2), run(9, 255, 127), run(10, 128, 1), // above 2^64 - 1
		{129, 128, 4}, {255, 255, 127}, run(9, 255, 1), run(9, 128, 1), // above MaxFrame
		binary.AppendUvarint(nil, maxFrame+1), binary.AppendUvarint(nil, 1<<31), binary.AppendUvarint(nil, 1<<32), binary.AppendUvarint(nil, 1<<32+1),
		binary.AppendUvarint(nil, 1<<63-1), binary.AppendUvarint(nil, 1<<63), binary.AppendUvarint(nil, 1<<63+1), binary.AppendUvarint(nil, math.MaxUint64-1),
	} {
		p := append([]byte{3}, count...)
		l = append(l,
			fault{p, api.ErrBad},
			fault{append(slices.Clone(p), 'a'), api.ErrBad},
			fault{summed(append(slices.Clone(p), 'a')...), api.ErrBad},
		)
	}
	return append(l,
		fault{summed(append(head(maxFrame+1), run(maxFrame+1, 'a')...)...), api.ErrBad},
		fault{append(head(maxFrame+1), run(maxFrame+1, 'a', 1, 2, 3, 4)...), api.ErrBad}, // ahead of another sum
		fault{summed(3, 129, 0, 'a'), api.ErrBad},                                        // a count that is 1, in more bytes than there must be
		fault{summed(3, 128, 0), api.ErrBad},
	)
}

func endsWithin() []fault {
	l := []fault{
		{[]byte{3, 0}, api.ErrShort},
		{[]byte{3, 0, 9, 9, 9}, api.ErrShort},
		{[]byte{3, 1, 'a', 0, 0, 0}, api.ErrShort}, // ahead of another sum
		{head(maxFrame), api.ErrShort},
		{append(head(maxFrame), run(maxFrame, 'a')...), api.ErrShort},
		{append(head(maxFrame), run(maxFrame, 'a', 1, 2, 3)...), api.ErrShort},
	}
	for _, b := range [][]byte{nil, []byte("a"), mixed(5), mixed(127), mixed(128), mixed(300), mixed(16384)} {
		p := sealed(b)
		for n := range min(len(p), 200) {
			l = append(l, fault{p[:n], api.ErrShort})
		}
		for n := max(0, len(p)-10); n < len(p); n++ {
			l = append(l, fault{p[:n], api.ErrShort})
		}
	}
	return l
}

func otherSums() []fault {
	l := []fault{
		{[]byte{3, 0, 0, 0, 0, 0}, api.ErrSum},
		{[]byte{3, 0, 106, 244, 65, 60}, api.ErrSum},               // the highest byte first
		{[]byte{3, 1, 'a', 67, 190, 183, 232}, api.ErrSum},         // of the content alone
		{append([]byte{3}, summed(1, 'a')...), api.ErrSum},         // without the version
		{append([]byte{3, 1}, summed('a')...), api.ErrSum},         // of what is ahead of nothing
		{append([]byte{3, 0, 60, 65, 244, 107}, 'a'), api.ErrSum},  // its last bit
		{append([]byte{3, 0, 61, 65, 244, 106}, 'a'), api.ErrSum},  // its first bit
		{append([]byte{3, 1, 'b'}, 196, 7, 169, 222), api.ErrSum},  // another content
		{append([]byte{3, 0, 65, 60, 244, 106}, 1, 2), api.ErrSum}, // two of its bytes changed about
		{append(head(maxFrame), run(maxFrame+4, 'a')...), api.ErrSum},
	}
	for _, b := range [][]byte{nil, []byte("a"), mixed(128), mixed(300)} {
		for i := range 4 {
			p := sealed(b)
			p[len(p)-1-i]++
			l = append(l, fault{p, api.ErrSum}, fault{append(p, sealed(b)...), api.ErrSum})
		}
	}
	return l
}

func TestOpenErrors(t *testing.T) {
	for _, c := range faults() {
		if got, n, err := envelope.Open(c.b); err != c.want || len(got) != 0 || n != 0 {
			t.Errorf("Open(%v), of %d bytes: %v, %d, %v, want nothing, 0, %v", c.b[:min(len(c.b), 20)], len(c.b), got, n, err, c.want)
		}
	}
}

func TestAll(t *testing.T) {
	big := mixed(maxFrame)
	for _, c := range []struct {
		l    [][]byte
		want []byte
	}{
		{nil, nil},
		{[][]byte{}, nil},
		{[][]byte{nil}, []byte{3, 0, 60, 65, 244, 106}},
		{[][]byte{{}, nil}, []byte{3, 0, 60, 65, 244, 106, 3, 0, 60, 65, 244, 106}},
		{[][]byte{{'a'}, nil, {'a'}}, []byte{3, 1, 'a', 196, 7, 169, 222, 3, 0, 60, 65, 244, 106, 3, 1, 'a', 196, 7, 169, 222}},
		{[][]byte{{'a'}, {'b', 'c'}, mixed(300), big, {'d'}}, slices.Concat(sealed([]byte("a")), sealed([]byte("bc")), sealed(mixed(300)), sealed(big), sealed([]byte("d")))},
		{[][]byte{make([]byte, maxFrame+1)}, nil},
		{[][]byte{{'a'}, make([]byte, maxFrame+1), {'b'}, make([]byte, 1<<18), nil}, slices.Concat(sealed([]byte("a")), sealed([]byte("b")), sealed(nil))},
	} {
		if got := envelope.All(c.l); !bytes.Equal(got, c.want) {
			t.Errorf("All of %d lists: %d bytes, want %d, or others", len(c.l), len(got), len(c.want))
		}
	}
	l := contents()
	var want []byte
	for _, b := range l {
		want = append(want, sealed(b)...)
	}
	if got := envelope.All(l); !bytes.Equal(got, want) {
		t.Error("All of many is another than Seal of each")
	}
}

func sameLists(a, b [][]byte) bool { return slices.EqualFunc(a, b, bytes.Equal) }

func TestSplit(t *testing.T) {
	for _, l := range [][][]byte{
		nil, {}, {nil}, {nil, nil, nil}, {{'a'}}, {{'a'}, {'a'}}, {nil, {'a'}, nil, {'b', 'c'}},
		{mixed(127), mixed(128), nil, mixed(maxFrame), {3}, sealed([]byte("within"))}, contents(),
	} {
		var b []byte
		for _, p := range l {
			b = append(b, sealed(p)...)
		}
		got, _, err := envelope.Split(b)
		if err != api.OK || !sameLists(got, l) {
			t.Errorf("Split of %d envelopes: %d of them, or others, %v", len(l), len(got), err)
		}
	}
}

// The count is named with an error alone: it tells where the fault stands.
func TestSplitTellsNoPlaceWithoutAFault(t *testing.T) {
	for _, b := range [][]byte{nil, sealed(nil), append(sealed([]byte("a")), sealed([]byte("bc"))...)} {
		if _, n, err := envelope.Split(b); n != 0 || err != api.OK {
			t.Errorf("Split(%v): %d, %v, want 0, %v", b, n, err, api.OK)
		}
	}
}

func TestSplitErrors(t *testing.T) {
	for _, ahead := range [][][]byte{nil, {nil}, {{'a'}}, {{'a'}, nil, mixed(130)}} {
		var good []byte
		for _, p := range ahead {
			good = append(good, sealed(p)...)
		}
		for _, c := range faults() {
			if len(c.b) == 0 {
				continue // that is the end
			}
			b := append(slices.Clone(good), c.b...)
			got, n, err := envelope.Split(b)
			if err != c.want || n != len(good) || !sameLists(got, ahead) {
				t.Fatalf("Split of %d good bytes and %v: %d contents, %d, %v, want %d, %d, %v", len(good), c.b[:min(len(c.b), 20)], len(got), n, err, len(ahead), len(good), c.want)
			}
		}
	}
}

func TestSplitStopsAtTheFirstFault(t *testing.T) {
	a, b := sealed([]byte("a")), sealed([]byte("b"))
	wrong := sealed([]byte("c"))
	wrong[2]++
	got, n, err := envelope.Split(slices.Concat(a, wrong, b, []byte{9}))
	if err != api.ErrSum || n != len(a) || !sameLists(got, [][]byte{{'a'}}) {
		t.Errorf("Split of a good one, a wrong one, and others: %v, %d, %v", got, n, err)
	}
	got, n, err = envelope.Split(slices.Concat(a, b, []byte{9}, wrong, a))
	if err != api.ErrOld || n != len(a)+len(b) || !sameLists(got, [][]byte{{'a'}, {'b'}}) {
		t.Errorf("Split of two good ones, an old one, and others: %v, %d, %v", got, n, err)
	}
}

// P2.3

func TestOpenOfSeal(t *testing.T) {
	for _, b := range contents() {
		p := envelope.Seal(b)
		got, n, err := envelope.Open(p)
		if err != api.OK || n != len(p) || !bytes.Equal(got, b) {
			t.Errorf("Open of Seal of %d bytes: %d bytes, %d, %v", len(b), len(got), n, err)
		}
	}
}

func TestSplitOfAll(t *testing.T) {
	if got, _, err := envelope.Split(envelope.All(contents())); err != api.OK || !sameLists(got, contents()) {
		t.Errorf("Split of All: %d contents, %v", len(got), err)
	}
}

func TestATurnedBitIsFound(t *testing.T) {
	for _, b := range [][]byte{nil, {0}, []byte("a"), mixed(5), run(43, 0), mixed(127), mixed(128), mixed(300)} {
		whole := envelope.Seal(b)
		for _, tail := range [][]byte{nil, whole, run(400, 0), run(400, 1), mixed(1000)} {
			p := append(slices.Clone(whole), tail...)
			for bit := 8; bit < 8*len(whole); bit++ {
				p[bit/8] ^= 1 << (bit % 8)
				if got, n, err := envelope.Open(p); err == api.OK && n == len(whole) {
					t.Fatalf("of an envelope of %d bytes bit %d is turned, and Open tells %v", len(b), bit, got)
				}
				p[bit/8] ^= 1 << (bit % 8)
			}
		}
	}
}

func TestATurnedBitOfAContentOrASumIsAnotherSum(t *testing.T) {
	for _, b := range [][]byte{nil, {0}, mixed(5), mixed(300), mixed(2000)} {
		whole := envelope.Seal(b)
		for bit := 8 * (len(whole) - len(b) - 4); bit < 8*len(whole); bit++ {
			p := slices.Clone(whole)
			p[bit/8] ^= 1 << (bit % 8)
			if got, n, err := envelope.Open(p); err != api.ErrSum || n != 0 || len(got) != 0 {
				t.Fatalf("of an envelope of %d bytes bit %d is turned: %v, %d, %v", len(b), bit, got, n, err)
			}
		}
	}
}

// modelOpen tells what b begins with in the order of the chapter's words.
func modelOpen(b []byte) ([]byte, int, api.Errno) {
	if len(b) == 0 {
		return nil, 0, api.ErrShort
	}
	if b[0] != 3 {
		return nil, 0, api.ErrOld
	}
	last := slices.IndexFunc(b[1:], func(c byte) bool { return c <= 127 })
	if last < 0 && len(b)-1 <= 9 {
		return nil, 0, api.ErrShort
	}
	if last < 0 || last > 2 || last > 0 && b[1+last] == 0 { // a count up to MaxFrame has three bytes at most
		return nil, 0, api.ErrBad
	}
	count := 0
	for i := last; i >= 0; i-- {
		count = count*128 + int(b[1+i]%128)
	}
	if count > maxFrame {
		return nil, 0, api.ErrBad
	}
	from := 2 + last
	if len(b) < from+count+4 {
		return nil, 0, api.ErrShort
	}
	if binary.LittleEndian.Uint32(b[from+count:]) != crc32.ChecksumIEEE(b[:from+count]) {
		return nil, 0, api.ErrSum
	}
	return b[from : from+count], from + count + 4, api.OK
}

func checkOpen(t *testing.T, b []byte) {
	t.Helper()
	got, n, err := envelope.Open(b)
	if want, wantN, wantErr := modelOpen(b); err != wantErr || n != wantN || !bytes.Equal(got, want) {
		t.Fatalf("Open(%v): %v, %d, %v, want %v, %d, %v", b, got, n, err, want, wantN, wantErr)
	}
}

func TestOpenOfAllShortBytes(t *testing.T) {
	letters := []byte{0, 1, 2, 3, 4, 5, 127, 128, 129, 255}
	var visit func(b []byte)
	visit = func(b []byte) {
		checkOpen(t, b)
		checkOpen(t, append([]byte{3}, b...))
		checkOpen(t, summed(append([]byte{3}, b...)...))
		if len(b) == 4 {
			return
		}
		for _, c := range letters {
			visit(append(slices.Clone(b), c))
		}
	}
	visit(nil)
}

func TestOpenOfLongCounts(t *testing.T) {
	for _, c := range []byte{128, 129, 255} {
		for n := range 13 {
			for last := range 256 {
				b := append([]byte{3}, run(n, c, byte(last))...)
				checkOpen(t, b)
				checkOpen(t, append(b, 0, 1, 2, 3, 4, 5))
				checkOpen(t, summed(append(b, run(300, 5)...)...))
			}
		}
	}
}
