/- The bits' operations that the code takes, as sums and remainders. -/
import Derived.Test.YtjbnilippcdgeaaDoorMath
import Derived.Laws.BitsAllLaws
import Derived.Laws.BitsLemmas
namespace Go.Proofs.YtjbnilippcdgeaaDoor

theorem u64_low7 (v : Nat) (h : v < 18446744073709551616) : bits .and .u64 (v : Int) 127 = ((v % 128 : Nat) : Int) := by
  have := u64_and_nat v 127 h (by omega)
  rw [nat_mask7] at this
  exact this
theorem u8_low7 (c : Nat) (h : c < 256) : bits .and .u8 (c : Int) 127 = ((c % 128 : Nat) : Int) := by
  have := u8_and_nat c 127 h (by omega)
  rw [nat_mask7] at this
  exact this
theorem u8_more (c : Nat) (h : c < 128) : bits .or .u8 (c : Int) 128 = ((c + 128 : Nat) : Int) := by
  have h1 := u8_or_nat c 128 (by omega) (by omega)
  have h2 := nat_join 7 128 c (by decide) (by simpa using h)
  rw [Nat.or_comm, h2] at h1
  rw [show c + 128 = 128 + c from by omega]
  exact h1
theorem u64_low1 (v : Nat) (h : v < 18446744073709551616) : bits .and .u64 (v : Int) 1 = ((v % 2 : Nat) : Int) := by
  have := u64_and_nat v 1 h (by omega)
  rw [nat_mask1] at this
  exact this
theorem u64_odd (v : Nat) (h : v < 9223372036854775808) : bits .or .u64 ((2 * v : Nat) : Int) 1 = ((2 * v + 1 : Nat) : Int) := by
  have h1 := u64_or_nat (2 * v) 1 (by omega) (by omega)
  rw [nat_join 1 (2 * v) 1 (by omega) (by omega)] at h1
  exact h1

/-- A group laid behind the lower ones. -/
theorem u64_lay (a c i : Nat) (ha : a < 2 ^ (7 * i)) (hb : c * 2 ^ (7 * i) < 18446744073709551616) (ha2 : a < 18446744073709551616) :
    bits .or .u64 (a : Int) ((c * 2 ^ (7 * i) : Nat) : Int) = ((a + c * 2 ^ (7 * i) : Nat) : Int) := by
  have h1 := u64_or_nat a (c * 2 ^ (7 * i)) ha2 hb
  rw [Nat.or_comm, nat_join (7 * i) (c * 2 ^ (7 * i)) a (by simp) ha, Nat.add_comm] at h1
  exact h1

/-- All bits of an int turned. -/
theorem i64_turned (n : Int) (h1 : -9223372036854775808 ≤ n) (h2 : n < 9223372036854775808) : bits .xor .i64 (-1) n = -n - 1 := by
  show IntKind.i64.wrap ((BitVec.ofInt 64 (-1) ^^^ BitVec.ofInt 64 n).toNat : Int) = _
  have e1 : BitVec.ofInt 64 (-1) = BitVec.allOnes 64 := by decide
  rw [e1, BitVec.allOnes_xor, BitVec.toNat_not, BitVec.toNat_ofInt, IntKind.wrap_i64]
  omega

/-- An int below 0, zigzag: what the code reckons. -/
theorem zig_low (n : Int) (h1 : -9223372036854775808 ≤ n) (h2 : n < 0) :
    bits .or .u64 (IntKind.u64.wrap (IntKind.u64.wrap (bits .xor .i64 (-1) n) * 2)) 1 = ((2 * (-n - 1).toNat + 1 : Nat) : Int) := by
  rw [i64_turned n h1 (by omega)]
  have e : IntKind.u64.wrap (IntKind.u64.wrap (-n - 1) * 2) = ((2 * (-n - 1).toNat : Nat) : Int) := by
    rw [IntKind.wrap_u64, IntKind.wrap_u64]
    omega
  rw [e, u64_odd _ (by omega)]
theorem zig_high (n : Int) (h1 : 0 ≤ n) (h2 : n < 9223372036854775808) : IntKind.u64.wrap (IntKind.u64.wrap n * 2) = ((2 * n.toNat : Nat) : Int) := by
  rw [IntKind.wrap_u64, IntKind.wrap_u64]
  omega
theorem half (v : Nat) (h : v < 18446744073709551616) : RowKit.wrap64 ((v : Int) / 2) = ((v / 2 : Nat) : Int) := by
  unfold RowKit.wrap64
  omega

theorem u64_odd_int (n : Int) (h0 : 0 ≤ n) (h : n < 9223372036854775808) : bits .or .u64 (n * 2) 1 = n * 2 + 1 := by
  have e := u64_odd n.toNat (by omega)
  rw [show ((2 * n.toNat : Nat) : Int) = n * 2 from by omega, show ((2 * n.toNat + 1 : Nat) : Int) = n * 2 + 1 from by omega] at e
  exact e

end Go.Proofs.YtjbnilippcdgeaaDoor
