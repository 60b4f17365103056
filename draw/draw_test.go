package draw_test

import (
	"math"
	"slices"
	"testing"

	"drover/draw"
)

// The signatures that the chapter lists.
var (
	_ func(uint64) *draw.Draw       = draw.New
	_ func(*draw.Draw) int          = (*draw.Draw).Nonce
	_ func(*draw.Draw, int) int     = (*draw.Draw).Below
	_ func(*draw.Draw) int          = (*draw.Draw).Count
	_ func(uint32) uint32           = draw.Mix
	_ func(uint32) uint32           = draw.Unmix
	_ func(*draw.Draw, []int) []int = draw.Shuffle
)

// mixed is what the chapter says of Mix, in numbers that have room for the products.
func mixed(x uint64) uint64 {
	const all = 1 << 32
	x = x ^ x/(1<<15)
	x = x * 0x2c1b3c6d % all
	x = x ^ x/(1<<12)
	x = x * 0x297a2d39 % all
	return x ^ x/(1<<15)
}

// nonce is what the chapter says of the n-th one of a seed.
func nonce(seed, n uint64) int {
	key := mixed(seed%(1<<32)) ^ seed/(1<<32)
	return int(mixed(n%(1<<32)^key)) + 1
}

// words: numbers of 32 bits at which a shift, a sign or a product comes to its end, and many between.
func words() []uint32 {
	l := []uint32{0, math.MaxUint32, 0x2c1b3c6d, 0x297a2d39, 0x55555555, 0xaaaaaaaa, 0xdeadbeef}
	for i := range 32 {
		p := uint32(1) << i
		l = append(l, p, p-1, p+1, ^p, -p)
	}
	for i := range uint32(20000) {
		l = append(l, i, i*2654435761, math.MaxUint32-i*7919)
	}
	return l
}

func seeds() []uint64 {
	return []uint64{0, 1, 2, 42, 1<<31 - 1, 1 << 31, math.MaxUint32, 1 << 32, 1<<32 + 1, 42 << 32, 1 << 63, math.MaxInt64, math.MaxUint64, 0x0123456789abcdef}
}

// P3.1

func TestMix(t *testing.T) {
	for _, c := range []struct{ x, want uint32 }{
		{0, 0},
		{1, 0xed345605},
		{2, 0x03e541df},
		{3, 0x8f1fae41},
		{5, 0xa8085159},
		{0x7fffffff, 0x92980e82},
		{0x80000000, 0x12f4f1b9},
		{0xffffffff, 0x25321d04},
		{0xdeadbeef, 0xb19c7922},
		{123456789, 0xf86872bd},
	} {
		if got := draw.Mix(c.x); got != c.want {
			t.Errorf("Mix(%#x): %#x, want %#x", c.x, got, c.want)
		}
		if got := draw.Unmix(c.want); got != c.x {
			t.Errorf("Unmix(%#x): %#x, want %#x", c.want, got, c.x)
		}
	}
	for _, x := range words() {
		if got, want := draw.Mix(x), uint32(mixed(uint64(x))); got != want {
			t.Fatalf("Mix(%#x): %#x, want %#x", x, got, want)
		}
	}
}

func TestUnmixUndoesMix(t *testing.T) {
	for _, x := range words() {
		if got := draw.Unmix(draw.Mix(x)); got != x {
			t.Fatalf("Unmix(Mix(%#x)): %#x", x, got)
		}
		if got := draw.Mix(draw.Unmix(x)); got != x {
			t.Fatalf("Mix(Unmix(%#x)): %#x", x, got)
		}
	}
}

// P3.2

func TestNonce(t *testing.T) {
	for _, c := range []struct {
		seed uint64
		want []int
	}{
		{0, []int{3979630086, 65356256, 2401218114, 826596331, 2819117402}},
		{1, []int{1006563913, 1111509063, 3088921504, 175263424, 2164700230}},
		{42, []int{1363382073, 1208209476, 3109558975, 2366383031, 185441727}},
		{1 << 32, []int{1, 2401218114, 65356256, 2819117402, 826596331}},
		{math.MaxUint64, []int{1791045906, 2219178578, 2075457218, 2096046194, 3600170025}},
		{0x0123456789abcdef, []int{3557522235, 2424457587, 3303631837, 850407564, 2404408601}},
	} {
		d := draw.New(c.seed)
		for i, want := range c.want {
			if got := d.Nonce(); got != want || d.Count() != i+1 {
				t.Errorf("nonce %d of seed %#x: %d, Count %d, want %d", i+1, c.seed, got, d.Count(), want)
			}
		}
	}
	for _, seed := range seeds() {
		d := draw.New(seed)
		for n := range uint64(3000) {
			if got, want := d.Nonce(), nonce(seed, n+1); got != want || got < 1 || got > 1<<32 {
				t.Fatalf("nonce %d of seed %#x: %d, want %d", n+1, seed, got, want)
			}
		}
	}
}

// The greatest number that is drawn has a 33rd bit.
func TestNonceAtItsEnds(t *testing.T) {
	for _, c := range []struct {
		mix  uint32
		want int
	}{{0, 1}, {1, 2}, {math.MaxInt32, 1 << 31}, {math.MaxUint32 - 1, 1<<32 - 1}, {math.MaxUint32, 1 << 32}} {
		high := uint64(draw.Unmix(c.mix) ^ 1) // with a low half 0 this is the key, and the first nonce is that of 1 xor it
		if got := draw.New(high << 32).Nonce(); got != c.want {
			t.Errorf("the first nonce, of Mix %#x: %d, want %d", c.mix, got, c.want)
		}
	}
}

func TestNothingWasDrawnAtFirst(t *testing.T) {
	for _, seed := range seeds() {
		d := draw.New(seed)
		if d == nil || d.Count() != 0 || d.Count() != 0 {
			t.Errorf("of seed %#x something was drawn at first: %v", seed, d)
		}
	}
}

// limits: what Below may be asked, of which some leave a draw as it is.
func limits() []int {
	return []int{1, 2, 3, 7, 10, 16, 100, 65536, 1 << 20, math.MaxInt32, 1 << 31, math.MaxUint32, 1 << 32, 1<<32 + 1, 1 << 40, math.MaxInt64}
}

func TestBelow(t *testing.T) {
	d := draw.New(0)
	for i, want := range []int{5, 5, 3, 0, 1, 4, 4, 8} {
		if got := d.Below(10); got != want || d.Count() != i+1 {
			t.Errorf("draw %d below 10: %d, Count %d, want %d", i+1, got, d.Count(), want)
		}
	}
	for _, seed := range seeds() {
		for _, n := range limits() {
			d := draw.New(seed)
			for i := range uint64(50) {
				if got, want := d.Below(n), (nonce(seed, i+1)-1)%n; got != want || got < 0 || got >= n {
					t.Fatalf("draw %d of seed %#x below %d: %d, want %d", i+1, seed, n, got, want)
				}
			}
			if d.Count() != 50 {
				t.Errorf("of 50 draws below %d %d count", n, d.Count())
			}
		}
	}
}

func TestBelowOfNothingDrawsNothing(t *testing.T) {
	d := draw.New(7)
	for i, n := range []int{0, -1, -10, math.MinInt32, math.MinInt, -math.MaxInt} {
		if got := d.Below(n); got != 0 || d.Count() != i {
			t.Errorf("Below(%d): %d, Count %d, want 0, %d", n, got, d.Count(), i)
		}
		if got, want := d.Nonce(), nonce(7, uint64(i+1)); got != want {
			t.Errorf("the nonce behind Below(%d): %d, want %d", n, got, want)
		}
	}
}

func TestNoncesAndDrawsAreOneRow(t *testing.T) {
	for _, seed := range seeds() {
		d := draw.New(seed)
		for n := uint64(1); n < 500; n++ {
			want := nonce(seed, n)
			var got int
			switch n % 3 {
			case 0:
				got = d.Nonce()
			case 1:
				got = d.Below(1<<32) + 1
			case 2:
				want = (want - 1) % 6
				got = d.Below(6)
			}
			if got != want || d.Count() != int(n) {
				t.Fatalf("draw %d of seed %#x: %d, Count %d, want %d", n, seed, got, d.Count(), want)
			}
		}
	}
}

// shuffled is what the chapter says of Shuffle, of a Draw from which drawn numbers were drawn.
func shuffled(seed, drawn uint64, l []int) []int {
	l = slices.Clone(l)
	for i := len(l) - 1; i >= 1; i-- {
		drawn++
		j := (nonce(seed, drawn) - 1) % (i + 1)
		l[i], l[j] = l[j], l[i]
	}
	return l
}

func counted(n int) []int {
	l := make([]int, n)
	for i := range l {
		l[i] = i
	}
	return l
}

func TestShuffle(t *testing.T) {
	for _, c := range []struct {
		seed    uint64
		l, want []int
	}{
		{0, nil, nil},
		{0, []int{}, nil},
		{0, []int{9}, []int{9}},
		{0, []int{5, 6}, []int{5, 6}},
		{1, []int{5, 6}, []int{6, 5}},
		{1, []int{7, 7, 3}, []int{7, 3, 7}},
		{42, []int{math.MaxInt, math.MinInt}, []int{math.MinInt, math.MaxInt}},
		{0, counted(10), []int{6, 9, 3, 2, 4, 7, 0, 8, 1, 5}},
		{1, counted(10), []int{4, 0, 9, 1, 5, 3, 6, 7, 8, 2}},
		{42, counted(10), []int{5, 0, 3, 7, 1, 8, 4, 6, 9, 2}},
	} {
		d := draw.New(c.seed)
		if got := draw.Shuffle(d, c.l); !slices.Equal(got, c.want) || d.Count() != max(0, len(c.l)-1) {
			t.Errorf("Shuffle of seed %d and %v: %v, Count %d, want %v", c.seed, c.l, got, d.Count(), c.want)
		}
	}
}

func TestShuffleDrawsForEachItemButOne(t *testing.T) {
	for _, seed := range seeds() {
		d := draw.New(seed)
		drawn := 0
		for _, n := range []int{0, 1, 2, 3, 4, 5, 17, 64, 300, 1, 0, 2} {
			l := counted(n)
			got := draw.Shuffle(d, l)
			if want := shuffled(seed, uint64(drawn), l); !slices.Equal(got, want) {
				t.Fatalf("Shuffle of %d items of seed %#x: %v, want %v", n, seed, got, want)
			}
			drawn += max(0, n-1)
			if d.Count() != drawn {
				t.Fatalf("behind Shuffle of %d items Count is %d, want %d", n, d.Count(), drawn)
			}
			if slices.Sort(got); !slices.Equal(got, l) {
				t.Fatalf("Shuffle of %d items of seed %#x has others: %v", n, seed, got)
			}
		}
		if got, want := d.Nonce(), nonce(seed, uint64(drawn+1)); got != want {
			t.Errorf("the nonce behind them: %d, want %d", got, want)
		}
	}
}

// Of a Draw that no call made: as of New(0).

func TestNilIsAsNew(t *testing.T) {
	var d *draw.Draw
	for range 3 { // it keeps nothing
		if got, want := d.Nonce(), draw.New(0).Nonce(); got != want {
			t.Errorf("Nonce of nil: %d, want %d", got, want)
		}
		if got := d.Count(); got != 0 {
			t.Errorf("Count of nil: %d", got)
		}
		for _, n := range append(limits(), 0, -1, math.MinInt) {
			if got, want := d.Below(n), draw.New(0).Below(n); got != want {
				t.Errorf("Below(%d) of nil: %d, want %d", n, got, want)
			}
		}
		for _, n := range []int{0, 1, 2, 3, 10, 100} {
			l := counted(n)
			if got, want := draw.Shuffle(nil, l), draw.Shuffle(draw.New(0), l); !slices.Equal(got, want) {
				t.Errorf("Shuffle of nil and %d items: %v, want %v", n, got, want)
			}
		}
	}
}

func TestZeroValueIsAsNew(t *testing.T) {
	var d draw.Draw
	made := draw.New(0)
	for i := range 200 {
		if d.Count() != made.Count() {
			t.Fatalf("step %d: Count of a zero value: %d, want %d", i, d.Count(), made.Count())
		}
		if got, want := d.Nonce(), made.Nonce(); got != want {
			t.Fatalf("step %d: Nonce of a zero value: %d, want %d", i, got, want)
		}
		if got, want := d.Below(i-3), made.Below(i-3); got != want {
			t.Fatalf("step %d: Below of a zero value: %d, want %d", i, got, want)
		}
		if got, want := draw.Shuffle(&d, counted(i%7)), draw.Shuffle(made, counted(i%7)); !slices.Equal(got, want) {
			t.Fatalf("step %d: Shuffle of a zero value: %v, want %v", i, got, want)
		}
	}
}

// P3.3

// Of nonces that are alike Mix would have made one of two numbers, or the key would have; so each tells which one it was.
func TestEachNonceTellsItsNumber(t *testing.T) {
	for _, seed := range seeds() {
		d := draw.New(seed)
		key := draw.Mix(uint32(seed)) ^ uint32(seed>>32)
		for n := uint32(1); n <= 20000; n++ {
			if got := draw.Unmix(uint32(d.Nonce()-1)) ^ key; got != n {
				t.Fatalf("nonce %d of seed %#x says that it is %d", n, seed, got)
			}
		}
	}
}

func TestNoncesAreNeverAlike(t *testing.T) {
	for _, seed := range []uint64{0, 42, math.MaxUint64} {
		d := draw.New(seed)
		drawn := make([]int, 1<<19)
		for i := range drawn {
			drawn[i] = d.Nonce()
		}
		slices.Sort(drawn)
		if different := len(slices.Compact(drawn)); different != 1<<19 {
			t.Errorf("of %d nonces of seed %d %d are different", 1<<19, seed, different)
		}
	}
}
