/- Plain facts on numbers in groups of seven bits, on lists of naturals alone: the bytes of a number, and the number that bytes begin with. -/
import Derived.WalkKit
namespace Go.Proofs.Ytaimnhlpdkpobaa

/-- The groups of a number, the lowest first; 'f' groups more may follow the first one. -/
def encF : Nat → Nat → List Nat
  | 0, v => [v % 128]
  | f + 1, v => if v / 128 = 0 then [v % 128] else (v % 128 + 128) :: encF f (v / 128)

def enc (v : Nat) : List Nat := encF 9 v

/-- The number that a list of bytes begins with: behind 'i' groups that came to 'a': the number, how many bytes, and the error's number. -/
def num : List Nat → Nat → Nat → Nat × Nat × Nat
  | [], _, _ => (0, 0, 3)
  | c :: r, i, a =>
    if (i = 9 ∧ 1 < c) ∨ (0 < i ∧ c = 0) then (0, 0, 4)
    else if c < 128 then (a + c % 128 * 2 ^ (7 * i), i + 1, 0)
    else num r (i + 1) (a + c % 128 * 2 ^ (7 * i))

theorem encF_len : ∀ f v, 1 ≤ (encF f v).length ∧ (encF f v).length ≤ f + 1
  | 0, v => by simp [encF]
  | f + 1, v => by
    have := encF_len f (v / 128)
    unfold encF
    split <;> simp <;> omega

theorem enc_len (v : Nat) : 1 ≤ (enc v).length ∧ (enc v).length ≤ 10 := encF_len 9 v

theorem encF_small : ∀ f v, ∀ x ∈ encF f v, x < 256
  | 0, v => by simp [encF]; omega
  | f + 1, v => by
    have := encF_small f (v / 128)
    unfold encF
    split
    · simp; omega
    · intro x hx
      rcases List.mem_cons.1 hx with rfl | h
      · omega
      · exact this x h

theorem enc_small (v : Nat) : ∀ x ∈ enc v, x < 256 := encF_small 9 v

theorem pow_step (i : Nat) : 2 ^ (7 * (i + 1)) = 128 * 2 ^ (7 * i) := by
  rw [show 7 * (i + 1) = 7 + 7 * i from by omega, Nat.pow_add]

theorem acc_step (v a p : Nat) : a + (v % 128) * p + (v / 128) * (128 * p) = a + v * p := by
  have h : v = v % 128 + 128 * (v / 128) := by omega
  have h2 : v * p = (v % 128) * p + (v / 128) * (128 * p) := by
    conv => lhs; rw [h]
    rw [Nat.add_mul, Nat.mul_comm 128 (v / 128), Nat.mul_assoc]
  omega

/-- A number comes back from its groups, whatever stands behind. -/
theorem num_encF (rest : List Nat) : ∀ f v i a, i + f = 9 → v < 2 * 128 ^ f → (0 < i → 0 < v) →
    num (encF f v ++ rest) i a = (a + v * 2 ^ (7 * i), i + (encF f v).length, 0)
  | 0, v, i, a, hi, hv, hp => by
    have hv2 : v < 2 := by simpa using hv
    have h1 : v % 128 = v := by omega
    unfold encF
    simp only [List.cons_append, List.nil_append, num, h1]
    rw [if_neg (by omega), if_pos (by omega)]
    simp
  | f + 1, v, i, a, hi, hv, hp => by
    unfold encF
    by_cases h : v / 128 = 0
    · have h1 : v % 128 = v := by omega
      simp only [h, if_true, List.cons_append, List.nil_append, num, h1]
      rw [if_neg (by omega), if_pos (by omega)]
      simp
    · have ih := num_encF rest f (v / 128) (i + 1) (a + v % 128 * 2 ^ (7 * i)) (by omega) (by rw [Nat.pow_succ] at hv; omega) (by omega)
      have h1 : (v % 128 + 128) % 128 = v % 128 := by omega
      rw [if_neg h]
      simp only [List.cons_append, num, h1]
      rw [if_neg (by omega), if_neg (by omega), ih, pow_step, acc_step]
      simp
      omega

/-- Cut off, it is none, and only short. -/
theorem num_cut : ∀ f v i a k, i + f = 9 → v < 2 * 128 ^ f → (0 < i → 0 < v) → k < (encF f v).length →
    num ((encF f v).take k) i a = (0, 0, 3)
  | 0, v, i, a, k, hi, hv, hp, hk => by
    have hk0 : k = 0 := by simpa [encF] using hk
    subst hk0
    simp [num]
  | f + 1, v, i, a, k, hi, hv, hp, hk => by
    rcases Nat.eq_zero_or_pos k with rfl | hk0
    · simp [num]
    · obtain ⟨m, rfl⟩ : ∃ m, k = m + 1 := ⟨k - 1, by omega⟩
      unfold encF at hk ⊢
      by_cases h : v / 128 = 0
      · simp [h] at hk
      · rw [if_neg h] at hk ⊢
        have ih := num_cut f (v / 128) (i + 1) (a + v % 128 * 2 ^ (7 * i)) m (by omega) (by rw [Nat.pow_succ] at hv; omega) (by omega) (by simpa using hk)
        have h1 : (v % 128 + 128) % 128 = v % 128 := by omega
        simp only [List.take_succ_cons, num, h1]
        rw [if_neg (by omega), if_neg (by omega), ih]

theorem u64_groups {v : Nat} (h : v < 18446744073709551616) : v < 2 * 128 ^ 9 := by
  have : (2 * 128 ^ 9 : Nat) = 18446744073709551616 := by decide
  omega

theorem num_enc (rest : List Nat) (v : Nat) (h : v < 18446744073709551616) : num (enc v ++ rest) 0 0 = (v, (enc v).length, 0) := by
  have := num_encF rest 9 v 0 0 rfl (u64_groups h) (by omega)
  simpa [enc] using this

theorem num_enc_cut (v k : Nat) (h : v < 18446744073709551616) (hk : k < (enc v).length) : num ((enc v).take k) 0 0 = (0, 0, 3) :=
  num_cut 9 v 0 0 k rfl (u64_groups h) (by omega) hk

theorem num_bound : ∀ (l : List Nat) (i a : Nat), (num l i a).2.1 ≤ i + l.length ∧ ((num l i a).2.2 ≠ 0 → (num l i a).1 = 0 ∧ (num l i a).2.1 = 0)
  | [], i, a => by simp [num]
  | c :: r, i, a => by
    have := num_bound r (i + 1) (a + c % 128 * 2 ^ (7 * i))
    unfold num
    split
    · simp
    · split
      · simp
      · simp only [List.length_cons]
        omega

end Go.Proofs.Ytaimnhlpdkpobaa
