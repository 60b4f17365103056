package envelope_test

import (
	"bytes"
	"slices"
	"testing"

	"drover/api"
	"drover/envelope"
)

// The rules that hold everywhere, P1 and the bound, for this package. (R5 speaks of objects: there are none here.)

const spare = 40

// roomy: the bytes of b, with filled room behind their end; the second answer is all of it.
func roomy(b ...byte) ([]byte, []byte) {
	all := append(slices.Clone(b), run(spare, 77)...)
	return all[:len(b)], all
}

// scribble writes over all of b, the room behind its end too.
func scribble(b []byte, c byte) {
	b = b[:cap(b)]
	for i := range b {
		b[i] = c
	}
}

// R1, P1

func TestEveryCallEnds(t *testing.T) {
	lists := [][]byte{nil, {}, {0}, {3}, {255}, run(9, 255), run(10, 255), run(200, 128), run(300, 3), make([]byte, maxFrame+1)}
	for _, c := range faults() {
		lists = append(lists, c.b)
	}
	for _, b := range lists {
		envelope.Sum(b)
		envelope.Seal(b)
		envelope.Open(b)
		envelope.Split(b)
		envelope.All([][]byte{b, nil, b})
	}
	if got, _, err := envelope.Split(envelope.All(lists)); err != api.OK || len(got) != len(slices.DeleteFunc(lists, func(b []byte) bool { return len(b) > maxFrame })) {
		t.Errorf("of lists short and long %d came back, %v", len(got), err)
	}
}

// R2, R7

func TestNothingStandsBesideAnError(t *testing.T) {
	for _, c := range faults() {
		if got, n, err := envelope.Open(c.b); err != c.want || len(got) != 0 || n != 0 {
			t.Errorf("beside an error: %v, %d, %v", got, n, err)
		}
	}
}

func TestNilAndEmptyListsAreTheSame(t *testing.T) {
	if envelope.Sum(nil) != envelope.Sum([]byte{}) {
		t.Error("Sum of nil and of an empty list are two")
	}
	if a, b := envelope.Seal(nil), envelope.Seal([]byte{}); !bytes.Equal(a, b) || len(a) != 6 {
		t.Errorf("Seal: %v of nil, %v of an empty list", a, b)
	}
	if a, b := envelope.All([][]byte{nil, {}}), envelope.All([][]byte{{}, nil}); !bytes.Equal(a, b) || len(a) != 12 {
		t.Errorf("All: %v and %v", a, b)
	}
	for _, b := range [][]byte{nil, {}} {
		if got, n, err := envelope.Open(b); len(got) != 0 || n != 0 || err != api.ErrShort {
			t.Errorf("Open of nothing: %v, %d, %v", got, n, err)
		}
		if got, n, err := envelope.Split(b); len(got) != 0 || n != 0 || err != api.OK {
			t.Errorf("Split of nothing: %v, %d, %v", got, n, err)
		}
	}
}

// R3

func TestSumChangesNothing(t *testing.T) {
	b, all := roomy([]byte("123456789")...)
	before := bytes.Clone(all)
	if got := envelope.Sum(b); got != 0xcbf43926 || !bytes.Equal(all, before) {
		t.Errorf("Sum looked behind the list's end, or changed it: %#x, %v", got, all)
	}
}

func TestSealAnswersNewMemory(t *testing.T) {
	for _, n := range []int{0, 1, 5, 128, 300, maxFrame} {
		b, all := roomy(mixed(n)...)
		before := bytes.Clone(all)
		got := envelope.Seal(b)
		want := sealed(before[:n])
		if !bytes.Equal(got, want) || !bytes.Equal(all, before) {
			t.Fatalf("Seal of %d bytes is another, or changed what it was handed", n)
		}
		scribble(all, 88)
		if !bytes.Equal(got, want) {
			t.Errorf("Seal of %d bytes answers memory that it was handed", n)
		}
		copy(all, before)
		scribble(got, 99)
		if !bytes.Equal(all, before) || !bytes.Equal(envelope.Seal(b), want) {
			t.Errorf("Seal of %d bytes answers room that it was handed, or keeps what it answered", n)
		}
	}
}

func TestOpenAnswersNewMemory(t *testing.T) {
	for _, n := range []int{0, 1, 5, 128, 300, maxFrame} {
		want := mixed(n)
		p, all := roomy(sealed(want)...)
		before := bytes.Clone(all)
		got, _, err := envelope.Open(p)
		if err != api.OK || !bytes.Equal(got, want) || !bytes.Equal(all, before) {
			t.Fatalf("Open of an envelope of %d bytes tells others, or changed what it was handed: %v", n, err)
		}
		scribble(all, 88)
		if !bytes.Equal(got, want) {
			t.Errorf("Open of an envelope of %d bytes answers memory that it was handed", n)
		}
		copy(all, before)
		scribble(got, 99)
		if !bytes.Equal(all, before) {
			t.Errorf("Open of an envelope of %d bytes answers room that it was handed", n)
		}
		if again, _, _ := envelope.Open(p); !bytes.Equal(again, want) {
			t.Errorf("Open of an envelope of %d bytes keeps what it answered", n)
		}
	}
}

func TestOpenAndSplitDoNotLookBehindTheEnd(t *testing.T) {
	whole := sealed([]byte("abc"))
	two := append(sealed(nil), whole...)
	before := bytes.Clone(two)
	for n := 1; n < len(whole); n++ {
		if _, _, err := envelope.Open(two[6 : 6+n]); err != api.ErrShort {
			t.Errorf("Open of an envelope's first %d bytes, behind which the others stand: %v", n, err)
		}
		if got, at, err := envelope.Split(two[:6+n]); err != api.ErrShort || at != 6 || !sameLists(got, [][]byte{nil}) {
			t.Errorf("Split of an envelope and the next one's first %d bytes: %v, %d, %v", n, got, at, err)
		}
	}
	if got, _, err := envelope.Split(two[:6]); err != api.OK || !sameLists(got, [][]byte{nil}) || !bytes.Equal(two, before) {
		t.Errorf("Split of an envelope, behind which another stands: %v, %v", got, err)
	}
}

func TestAllAnswersNewMemory(t *testing.T) {
	a, allA := roomy('a', 'b')
	b, allB := roomy(mixed(300)...)
	room := [][]byte{a, b, nil, make([]byte, maxFrame+1), a, {'b', 'e', 'h', 'i', 'n', 'd'}}
	l := room[:5]
	beforeA, beforeB := bytes.Clone(allA), bytes.Clone(allB)
	got := envelope.All(l)
	want := slices.Concat(sealed([]byte("ab")), sealed(beforeB[:300]), sealed(nil), sealed([]byte("ab")))
	if !bytes.Equal(got, want) {
		t.Fatalf("All looked behind the list's end, or tells others: %d bytes, want %d", len(got), len(want))
	}
	if !bytes.Equal(allA, beforeA) || !bytes.Equal(allB, beforeB) || len(l[2]) != 0 || len(l[3]) != maxFrame+1 || string(room[5]) != "behind" {
		t.Error("All changed what it was handed")
	}
	scribble(allA, 88)
	scribble(allB, 88)
	if !bytes.Equal(got, want) {
		t.Error("All answers memory that it was handed")
	}
	copy(allA, beforeA)
	copy(allB, beforeB)
	scribble(got, 99)
	if !bytes.Equal(allA, beforeA) || !bytes.Equal(allB, beforeB) || !bytes.Equal(envelope.All(l), want) {
		t.Error("All answers room that it was handed, or keeps what it answered")
	}
	one, all := roomy('x')
	alone := envelope.All([][]byte{one})
	scribble(alone, 99)
	if !bytes.Equal(all, append([]byte{'x'}, run(spare, 77)...)) {
		t.Error("All of one answers memory that it was handed")
	}
}

func TestSplitAnswersNewMemory(t *testing.T) {
	want := [][]byte{[]byte("ab"), []byte("c"), nil, mixed(3), mixed(300), []byte("d"), []byte("efg")}
	var b []byte
	for _, p := range want {
		b = append(b, sealed(p)...)
	}
	good := len(b)
	for _, tail := range [][]byte{nil, {9, 9}, {3}} {
		p, all := roomy(append(slices.Clone(b), tail...)...)
		before := bytes.Clone(all)
		got, n, err := envelope.Split(p)
		if (err == api.OK) != (len(tail) == 0) || !sameLists(got, want) || !bytes.Equal(all, before) {
			t.Fatalf("Split tells others, or changed what it was handed: %v, %d, %v", got, n, err)
		}
		if len(tail) != 0 && n != good {
			t.Errorf("Split: %d good bytes, want %d", n, good)
		}
		scribble(all, 88)
		if !sameLists(got, want) {
			t.Error("Split answers memory that it was handed")
		}
		copy(all, before)
		for i := range got {
			scribble(got[i], 99)
			if !sameLists(got[i+1:], want[i+1:]) {
				t.Errorf("content %d and those behind it share memory", i)
			}
		}
		for i := len(got) - 1; i >= 0; i-- {
			copy(got[i], want[i])
			scribble(got[i][len(got[i]):], 99)
		}
		if !sameLists(got, want) || !bytes.Equal(all, before) {
			t.Error("the contents of an answer share room with one another, or with what was handed in")
		}
	}
}

// R4

func TestAnswersHangOnArgumentsAlone(t *testing.T) {
	whole := sealed([]byte("abc"))
	for range 3 {
		envelope.Seal(mixed(300))
		envelope.Seal(make([]byte, maxFrame+1))
		for _, c := range faults()[:50] {
			envelope.Open(c.b)
			envelope.Split(append(sealed([]byte("other")), c.b...))
		}
		if got := envelope.Sum([]byte("123456789")); got != 0xcbf43926 {
			t.Fatalf("Sum answers %#x behind other calls", got)
		}
		if got := envelope.Seal([]byte("abc")); !bytes.Equal(got, whole) {
			t.Fatalf("Seal answers %v behind other calls", got)
		}
		if got, n, err := envelope.Open(whole); string(got) != "abc" || n != len(whole) || err != api.OK {
			t.Fatalf("Open answers %v, %d, %v behind other calls", got, n, err)
		}
		if got := envelope.All([][]byte{{'a', 'b', 'c'}}); !bytes.Equal(got, whole) {
			t.Fatalf("All answers %v behind other calls", got)
		}
		if got, _, err := envelope.Split(append(slices.Clone(whole), whole...)); !sameLists(got, [][]byte{[]byte("abc"), []byte("abc")}) || err != api.OK {
			t.Fatalf("Split answers %v, %v behind other calls", got, err)
		}
	}
}

// R6

func TestCountsAtTheEndsOfInts(t *testing.T) {
	for _, at := range []uint64{1 << 17, 1 << 31, 1 << 32, 1 << 63, 0} {
		for d := range uint64(12) {
			for _, count := range []uint64{at - d - 1, at + d + 1<<17} {
				b := append(head(count), run(20, 0)...)
				if got, n, err := envelope.Open(b); err != api.ErrBad || len(got) != 0 || n != 0 {
					t.Fatalf("Open of an envelope said to have %d bytes: %v, %d, %v", count, got, n, err)
				}
			}
		}
	}
}

// The bound

func TestMuchIsTaken(t *testing.T) {
	const many = 20000
	var l [][]byte
	for i := range many {
		l = append(l, mixed(i%200))
	}
	l = append(l, mixed(maxFrame), mixed(maxFrame), nil)
	p := envelope.All(l)
	got, _, err := envelope.Split(p)
	if err != api.OK || !sameLists(got, l) {
		t.Fatalf("of %d envelopes in %d bytes %d came back, %v", len(l), len(p), len(got), err)
	}
	got, n, err := envelope.Split(p[:len(p)-1])
	if err != api.ErrShort || n != len(p)-6 || !sameLists(got, l[:len(l)-1]) {
		t.Errorf("of them less one byte %d came back, %d, %v", len(got), n, err)
	}
	if b, n, err := envelope.Open(p); err != api.OK || n != 6 || len(b) != 0 {
		t.Errorf("Open of many: %v, %d, %v", b, n, err)
	}
}
