/- Plain facts on numbers that are stirred: xored with themselves shifted right, multiplied by an odd number, and back. -/
import Derived.WalkKit
namespace Go.Proofs.Ytccneonplpmiaaa

/-- A number xored with itself shifted right. -/
def xs (n x : Nat) : Nat := x ^^^ x >>> n
/-- What undoes it, as long as three shifts are as many bits as there are. -/
def un (n y : Nat) : Nat := y ^^^ (y >>> n ^^^ y >>> (n + n))
def mulm (x a : Nat) : Nat := x * a % 4294967296
def mix (x : Nat) : Nat := xs 15 (mulm (xs 12 (mulm (xs 15 x) 739982445)) 695872825)
def unmix (y : Nat) : Nat := un 15 (mulm (un 12 (mulm (un 15 y) 217100553)) 1693068645)

theorem shr_lt {x : Nat} (n : Nat) (h : x < 4294967296) : x >>> n < 4294967296 := by
  rw [Nat.shiftRight_eq_div_pow]
  exact Nat.lt_of_le_of_lt (Nat.div_le_self _ _) h
theorem xor_lt {x y : Nat} (hx : x < 4294967296) (hy : y < 4294967296) : x ^^^ y < 4294967296 := Nat.xor_lt_two_pow (n := 32) hx hy
theorem shr_none {x n : Nat} (hn : 32 ≤ n) (h : x < 4294967296) : x >>> n = 0 := by
  rw [Nat.shiftRight_eq_div_pow]
  apply Nat.div_eq_of_lt
  exact Nat.lt_of_lt_of_le h (Nat.pow_le_pow_right (n := 2) (i := 32) (by decide) hn)
theorem xs_lt {n x : Nat} (h : x < 4294967296) : xs n x < 4294967296 := xor_lt h (shr_lt n h)
theorem un_lt {n x : Nat} (h : x < 4294967296) : un n x < 4294967296 := xor_lt h (xor_lt (shr_lt n h) (shr_lt _ h))
theorem mulm_lt (x a : Nat) : mulm x a < 4294967296 := Nat.mod_lt _ (by decide)
theorem mix_lt (x : Nat) : mix x < 4294967296 := xs_lt (mulm_lt _ _)
theorem unmix_lt (x : Nat) : unmix x < 4294967296 := un_lt (mulm_lt _ _)

theorem shr_add (x a b : Nat) : x >>> a >>> b = x >>> (a + b) := (Nat.shiftRight_add x a b).symm
theorem xor_two (a b : Nat) : a ^^^ (a ^^^ b) = b := by rw [← Nat.xor_assoc, Nat.xor_self, Nat.zero_xor]
theorem un_xs {n x : Nat} (hn : 32 ≤ n + n + n) (h : x < 4294967296) : un n (xs n x) = x := by
  unfold un xs
  have h3 : x >>> (n + (n + n)) = 0 := shr_none (by omega) h
  simp only [Nat.shiftRight_xor_distrib, shr_add]
  rw [h3, Nat.xor_zero]
  rw [show x >>> n ^^^ x >>> (n + n) ^^^ x >>> (n + n) = x >>> n by rw [Nat.xor_assoc, Nat.xor_self, Nat.xor_zero]]
  rw [Nat.xor_assoc, Nat.xor_self, Nat.xor_zero]
theorem xs_un {n y : Nat} (hn : 32 ≤ n + n + n) (h : y < 4294967296) : xs n (un n y) = y := by
  unfold un xs
  have h3 : y >>> (n + n + n) = 0 := shr_none hn h
  simp only [Nat.shiftRight_xor_distrib, shr_add]
  rw [h3, Nat.xor_zero, Nat.xor_assoc, Nat.xor_self, Nat.xor_zero]
theorem mulm_back {x a b : Nat} (h : x < 4294967296) (hab : a * b % 4294967296 = 1) : mulm (mulm x a) b = x := by
  unfold mulm
  rw [Nat.mod_mul_mod, Nat.mul_assoc, Nat.mul_mod, hab, Nat.mul_one, Nat.mod_mod, Nat.mod_eq_of_lt h]
theorem unmix_mix {x : Nat} (h : x < 4294967296) : unmix (mix x) = x := by
  unfold unmix mix
  rw [un_xs (by decide) (mulm_lt _ _), mulm_back (xs_lt (mulm_lt _ _)) (by decide), un_xs (by decide) (mulm_lt _ _), mulm_back (xs_lt h) (by decide), un_xs (by decide) h]
theorem mix_unmix {y : Nat} (h : y < 4294967296) : mix (unmix y) = y := by
  unfold unmix mix
  rw [xs_un (by decide) (mulm_lt _ _), mulm_back (un_lt (mulm_lt _ _)) (by decide), xs_un (by decide) (mulm_lt _ _), mulm_back (un_lt h) (by decide), xs_un (by decide) h]
theorem mix_inj {a b : Nat} (ha : a < 4294967296) (hb : b < 4294967296) (h : mix a = mix b) : a = b := by
  rw [← unmix_mix ha, ← unmix_mix hb, h]

/-- One step of the way back: what was found so far is shifted and xored again. -/
def half1 (n y x : Nat) : Nat := y ^^^ x >>> n
theorem half1_lt {n y x : Nat} (hy : y < 4294967296) (hx : x < 4294967296) : half1 n y x < 4294967296 := xor_lt hy (shr_lt n hx)
theorem half_two (n y : Nat) : half1 n y (half1 n y y) = un n y := by
  unfold half1 un
  rw [Nat.shiftRight_xor_distrib, shr_add]
theorem half_un {n y : Nat} (hn : 32 ≤ n + n + n) (h : y < 4294967296) : half1 n y (un n y) = un n y := by
  unfold half1 un
  simp only [Nat.shiftRight_xor_distrib, shr_add]
  rw [show y >>> (n + n + n) = 0 from shr_none hn h, Nat.xor_zero]
/-- Behind k steps. -/
def halves (n y : Nat) : Nat → Nat
  | 0 => y
  | k + 1 => half1 n y (halves n y k)
theorem halves_lt {n y : Nat} (h : y < 4294967296) : ∀ k, halves n y k < 4294967296
  | 0 => h
  | k + 1 => half1_lt h (halves_lt h k)
theorem halves_end {n y : Nat} (hn : 32 ≤ n + n + n) (h : y < 4294967296) : ∀ k, halves n y (k + 2) = un n y
  | 0 => half_two n y
  | k + 1 => by
    show half1 n y (halves n y (k + 2)) = _
    rw [halves_end hn h k, half_un hn h]

/-- One step towards the number that multiplied by a is 1. -/
def over1 (a x : Nat) : Nat := x * ((2 + 4294967296 - a * x % 4294967296) % 4294967296) % 4294967296
def overs (a : Nat) : Nat → Nat
  | 0 => a
  | k + 1 => over1 a (overs a k)
theorem overs_lt {a : Nat} (h : a < 4294967296) : ∀ k, overs a k < 4294967296
  | 0 => h
  | _ + 1 => Nat.mod_lt _ (by decide)
theorem overs_first : overs 739982445 6 = 1693068645 := by decide
theorem overs_second : overs 695872825 6 = 217100553 := by decide
end Go.Proofs.Ytccneonplpmiaaa
