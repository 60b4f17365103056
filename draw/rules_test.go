package draw_test

import (
	"math"
	"slices"
	"testing"

	"drover/draw"
)

// The rules that hold everywhere, P1 and the bound, for this package. (R2 speaks of errors: no call here answers one. R5 stands behind P3.2: a Draw that no call made is as of New(0).)

const spare = 40

// roomy: the items of l, with filled room behind their end; the second answer is all of it.
func roomy(l ...int) ([]int, []int) {
	all := slices.Concat(l, slices.Repeat([]int{77}, spare))
	return all[:len(l)], all
}

// scribble writes over all of l, the room behind its end too.
func scribble(l []int, v int) {
	l = l[:cap(l)]
	for i := range l {
		l[i] = v
	}
}

// R1, P1

func TestEveryCallEnds(t *testing.T) {
	var zero draw.Draw
	for _, d := range []*draw.Draw{nil, &zero, new(draw.Draw), draw.New(0), draw.New(math.MaxUint64)} {
		for _, n := range append(limits(), 0, -1, math.MinInt, math.MaxInt) {
			if got := d.Below(n); got < 0 || got > 0 && got >= n {
				t.Errorf("Below(%d): %d", n, got)
			}
			if got := d.Nonce(); got < 1 || got > 1<<32 {
				t.Errorf("Nonce: %d", got)
			}
		}
		for _, l := range [][]int{nil, {}, {math.MinInt}, {math.MaxInt, math.MinInt, 0, -1}, make([]int, 1000)} {
			if got := draw.Shuffle(d, l); len(got) != len(l) {
				t.Errorf("Shuffle of %d items has %d", len(l), len(got))
			}
		}
		if d.Count() < 0 {
			t.Errorf("Count: %d", d.Count())
		}
	}
}

// R3, R7

func TestNilAndEmptyListsAreTheSame(t *testing.T) {
	d := draw.New(3)
	if a, b := draw.Shuffle(d, nil), draw.Shuffle(d, []int{}); len(a) != 0 || len(b) != 0 || d.Count() != 0 {
		t.Errorf("Shuffle of nothing: %v and %v, Count %d", a, b, d.Count())
	}
}

func TestShuffleAnswersNewMemory(t *testing.T) {
	for _, n := range []int{0, 1, 2, 3, 10, 300} {
		l, all := roomy(counted(n)...)
		before := slices.Clone(all)
		got := draw.Shuffle(draw.New(42), l)
		want := shuffled(42, 0, before[:n])
		if !slices.Equal(got, want) || !slices.Equal(all, before) {
			t.Fatalf("Shuffle of %d items is another, or changed what it was handed: %v, %v", n, got, all)
		}
		scribble(all, 88)
		if !slices.Equal(got, want) {
			t.Errorf("Shuffle of %d items answers memory that it was handed", n)
		}
		copy(all, before)
		scribble(got, 99)
		if !slices.Equal(all, before) {
			t.Errorf("Shuffle of %d items answers room that it was handed", n)
		}
		if again := draw.Shuffle(draw.New(42), l); !slices.Equal(again, want) {
			t.Errorf("Shuffle of %d items keeps what it answered", n)
		}
	}
}

func TestAnswersOfOneDrawShareNothing(t *testing.T) {
	d := draw.New(9)
	l := counted(20)
	a := draw.Shuffle(d, l)
	b := draw.Shuffle(d, l)
	want := slices.Clone(b)
	scribble(a, 99)
	if !slices.Equal(b, want) || !slices.Equal(l, counted(20)) {
		t.Error("two answers share memory")
	}
}

// R4

func TestDrawsKnowNothingOfEachOther(t *testing.T) {
	a, b, c := draw.New(5), draw.New(5), draw.New(6)
	for i := range 200 {
		x := a.Nonce()
		c.Nonce()
		c.Below(i)
		draw.Shuffle(c, counted(i%5))
		draw.Shuffle(nil, counted(5))
		draw.New(5).Nonce()
		if y := b.Nonce(); x != y || a.Count() != i+1 || b.Count() != i+1 {
			t.Fatalf("nonce %d of one seed is %d and %d, Count %d and %d", i+1, x, y, a.Count(), b.Count())
		}
	}
}

func TestADrawThatIsCopiedGoesOnAlone(t *testing.T) {
	d := draw.New(11)
	d.Nonce()
	e := *d
	for n := uint64(2); n < 50; n++ {
		if got, want := d.Nonce(), nonce(11, n); got != want {
			t.Fatalf("nonce %d: %d, want %d", n, got, want)
		}
	}
	if got, want := e.Nonce(), nonce(11, 2); got != want || e.Count() != 2 {
		t.Errorf("the copy's second nonce: %d, Count %d, want %d", got, e.Count(), want)
	}
}

// R6

func TestLimitsAtTheEndsOfInts(t *testing.T) {
	for d := range 5 {
		for _, n := range []int{math.MaxInt - d, 1<<32 - 2 + d, 1<<31 - 2 + d} {
			for _, mix := range []uint32{0, 1, math.MaxInt32, 1 << 31, math.MaxUint32 - 1, math.MaxUint32} {
				high := uint64(draw.Unmix(mix) ^ 1)
				if got, want := draw.New(high<<32).Below(n), int(uint64(mix)%uint64(n)); got != want {
					t.Errorf("a draw of %d below %d: %d, want %d", mix, n, got, want)
				}
			}
		}
		if got := draw.New(1).Below(math.MinInt + d); got != 0 {
			t.Errorf("a draw below %d: %d", math.MinInt+d, got)
		}
	}
}

// The bound

func TestMuchIsTaken(t *testing.T) {
	const many = 1 << 20
	l := counted(many)
	d := draw.New(42)
	got := draw.Shuffle(d, l)
	if want := shuffled(42, 0, l); !slices.Equal(got, want) || d.Count() != many-1 {
		t.Fatalf("Shuffle of %d items is another, Count %d", many, d.Count())
	}
	if slices.Sort(got); !slices.Equal(got, l) {
		t.Errorf("Shuffle of %d items has others", many)
	}
}
