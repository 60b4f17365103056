package draw

import "testing"

// P3.2: the n of a nonce is modulo 2^32, Count is not. (Too many draws for a test lie between: it begins right ahead of them.)
func TestNumbersOfNoncesAreCut(t *testing.T) {
	const all = 1 << 32
	for _, seed := range []uint64{0, 1, 42 << 32, 1<<64 - 1} {
		for _, at := range []int{all - 2, 2*all - 2, 5*all - 2} {
			d := New(seed)
			d.count = at
			for n := at + 1; n < at+6; n++ {
				want := int(Mix(uint32(n%all)^d.key)) + 1
				if got := d.Nonce(); got != want || d.Count() != n {
					t.Errorf("nonce %d of seed %#x: %d, Count %d, want %d", n, seed, got, d.Count(), want)
				}
			}
			again := New(seed)
			for range 3 {
				again.Nonce()
			}
			if got, want := d.Nonce(), again.Nonce(); got != want { // six behind at, and at is two short: the fourth
				t.Errorf("nonce %d of seed %#x: %d, want %d, as the fourth", d.Count(), seed, got, want)
			}
		}
	}
}
