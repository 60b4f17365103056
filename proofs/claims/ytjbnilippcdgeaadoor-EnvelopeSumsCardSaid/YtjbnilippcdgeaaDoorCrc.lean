/- CRC-32 as numbers: one step, a byte, a list; it is linear, and no step forgets. -/
import Derived.WalkKit
namespace Go.Proofs.YtjbnilippcdgeaaDoor

/-- One step of the sum: its lowest bit leaves. -/
def st (s : Nat) : Nat := if s % 2 = 1 then s / 2 ^^^ 3988292384 else s / 2
def st4 (s : Nat) : Nat := st (st (st (st s)))
def st8 (s : Nat) : Nat := st4 (st4 s)
def crc (s : Nat) (l : List Nat) : Nat := l.foldl (fun s x => st8 (s ^^^ x)) s
def sum (l : List Nat) : Nat := crc 4294967295 l ^^^ 4294967295

theorem st_bit (s i : Nat) : (st s).testBit i = (s.testBit (i + 1) ^^ (s.testBit 0 && Nat.testBit 3988292384 i)) := by
  have h0 : s.testBit 0 = decide (s % 2 = 1) := Nat.testBit_zero s
  unfold st
  by_cases h : s % 2 = 1
  · rw [if_pos h, Nat.testBit_xor, h0, Nat.testBit_succ]; simp [h]
  · rw [if_neg h, h0, Nat.testBit_succ]; simp [h]

theorem st_xor (a b : Nat) : st (a ^^^ b) = st a ^^^ st b := by
  apply Nat.eq_of_testBit_eq
  intro i
  simp only [st_bit, Nat.testBit_xor]
  cases a.testBit (i + 1) <;> cases b.testBit (i + 1) <;> cases a.testBit 0 <;> cases b.testBit 0 <;> cases Nat.testBit 3988292384 i <;> rfl
theorem st4_xor (a b : Nat) : st4 (a ^^^ b) = st4 a ^^^ st4 b := by simp only [st4, st_xor]
theorem st8_xor (a b : Nat) : st8 (a ^^^ b) = st8 a ^^^ st8 b := by simp only [st8, st4_xor]

theorem st_lt {s : Nat} (h : s < 4294967296) : st s < 4294967296 := by
  unfold st
  split
  · exact Nat.xor_lt_two_pow (n := 32) (by omega) (by omega)
  · omega
theorem st4_lt {s : Nat} (h : s < 4294967296) : st4 s < 4294967296 := st_lt (st_lt (st_lt (st_lt h)))
theorem st8_lt {s : Nat} (h : s < 4294967296) : st8 s < 4294967296 := st4_lt (st4_lt h)

theorem st_zero {s : Nat} (h : s < 4294967296) (hz : st s = 0) : s = 0 := by
  unfold st at hz
  split at hz
  · have : s / 2 = 3988292384 := by
      have e : s / 2 ^^^ 3988292384 ^^^ 3988292384 = 0 ^^^ 3988292384 := by rw [hz]
      rwa [Nat.xor_assoc, Nat.xor_self, Nat.xor_zero, Nat.zero_xor] at e
    omega
  · omega
theorem xor_zero_eq {a b : Nat} (h : a ^^^ b = 0) : a = b := by
  have e : a ^^^ b ^^^ b = 0 ^^^ b := by rw [h]
  rwa [Nat.xor_assoc, Nat.xor_self, Nat.xor_zero, Nat.zero_xor] at e
theorem st_inj {a b : Nat} (ha : a < 4294967296) (hb : b < 4294967296) (h : st a = st b) : a = b := by
  apply xor_zero_eq
  apply st_zero (Nat.xor_lt_two_pow (n := 32) ha hb)
  rw [st_xor, h, Nat.xor_self]
theorem st4_inj {a b : Nat} (ha : a < 4294967296) (hb : b < 4294967296) (h : st4 a = st4 b) : a = b :=
  st_inj ha hb (st_inj (st_lt ha) (st_lt hb) (st_inj (st_lt (st_lt ha)) (st_lt (st_lt hb)) (st_inj (st_lt (st_lt (st_lt ha))) (st_lt (st_lt (st_lt hb))) h)))
theorem st8_inj {a b : Nat} (ha : a < 4294967296) (hb : b < 4294967296) (h : st8 a = st8 b) : a = b := st4_inj ha hb (st4_inj (st4_lt ha) (st4_lt hb) h)

/-- A byte more, a sum below 2^32 still. -/
theorem step_lt {s x : Nat} (h : s < 4294967296) (hx : x < 256) : st8 (s ^^^ x) < 4294967296 := st8_lt (Nat.xor_lt_two_pow (n := 32) h (by omega))
theorem crc_lt : ∀ (l : List Nat) {s : Nat}, s < 4294967296 → (∀ x ∈ l, x < 256) → crc s l < 4294967296
  | [], _, h, _ => h
  | x :: l, _, h, hs => crc_lt l (step_lt h (hs x (by simp))) (fun y hy => hs y (by simp [hy]))
theorem sum_lt {l : List Nat} (hs : ∀ x ∈ l, x < 256) : sum l < 4294967296 := Nat.xor_lt_two_pow (n := 32) (crc_lt l (by omega) hs) (by omega)
theorem crc_append (a b : List Nat) (s : Nat) : crc s (a ++ b) = crc (crc s a) b := by simp [crc]
theorem crc_snoc (a : List Nat) (x s : Nat) : crc s (a ++ [x]) = st8 (crc s a ^^^ x) := by simp [crc]

/-- What goes in apart stays apart. -/
theorem crc_inj : ∀ (l : List Nat) {s t : Nat}, s < 4294967296 → t < 4294967296 → (∀ x ∈ l, x < 256) → crc s l = crc t l → s = t
  | [], _, _, _, _, _, h => h
  | x :: l, s, t, h1, h2, hs, h => by
    have hx : x < 256 := hs x (by simp)
    have e := crc_inj l (step_lt h1 hx) (step_lt h2 hx) (fun y hy => hs y (by simp [hy])) h
    have := st8_inj (Nat.xor_lt_two_pow (n := 32) h1 (by omega)) (Nat.xor_lt_two_pow (n := 32) h2 (by omega)) e
    have e2 : s ^^^ x ^^^ x = t ^^^ x ^^^ x := by rw [this]
    rwa [Nat.xor_assoc, Nat.xor_self, Nat.xor_zero, Nat.xor_assoc, Nat.xor_self, Nat.xor_zero] at e2

theorem sum_inj {a b : List Nat} (h : sum a = sum b) : crc 4294967295 a = crc 4294967295 b := by
  have e : sum a ^^^ 4294967295 = sum b ^^^ 4294967295 := by rw [h]
  unfold sum at e
  rwa [Nat.xor_assoc, Nat.xor_self, Nat.xor_zero, Nat.xor_assoc, Nat.xor_self, Nat.xor_zero] at e

theorem xor_cancel_left {s x y : Nat} (h : s ^^^ x = s ^^^ y) : x = y := by
  have e : s ^^^ (s ^^^ x) = s ^^^ (s ^^^ y) := by rw [h]
  rwa [← Nat.xor_assoc, Nat.xor_self, Nat.zero_xor, ← Nat.xor_assoc, Nat.xor_self, Nat.zero_xor] at e

/-- One byte turned is another sum. -/
theorem sum_turned (p q : List Nat) {x y : Nat} (hp : ∀ z ∈ p, z < 256) (hq : ∀ z ∈ q, z < 256) (hx : x < 256) (hy : y < 256) (hne : x ≠ y) : sum (p ++ x :: q) ≠ sum (p ++ y :: q) := by
  intro h
  have e := sum_inj h
  rw [crc_append, crc_append] at e
  have hs : crc 4294967295 p < 4294967296 := crc_lt p (by omega) hp
  have e2 := crc_inj q (step_lt hs hx) (step_lt hs hy) hq e
  exact hne (xor_cancel_left (st8_inj (Nat.xor_lt_two_pow (n := 32) hs (by omega)) (Nat.xor_lt_two_pow (n := 32) hs (by omega)) e2))

/-- The sum is linear. -/
theorem crc_zip : ∀ (a b : List Nat) (s t : Nat), a.length = b.length → crc (s ^^^ t) (List.zipWith (· ^^^ ·) a b) = crc s a ^^^ crc t b
  | [], [], _, _, _ => rfl
  | x :: a, y :: b, s, t, h => by
    have e : s ^^^ t ^^^ (x ^^^ y) = (s ^^^ x) ^^^ (t ^^^ y) := by
      apply Nat.eq_of_testBit_eq
      intro i
      simp only [Nat.testBit_xor]
      cases s.testBit i <;> cases t.testBit i <;> cases x.testBit i <;> cases y.testBit i <;> rfl
    show crc (st8 (s ^^^ t ^^^ (x ^^^ y))) (List.zipWith (· ^^^ ·) a b) = crc (st8 (s ^^^ x)) a ^^^ crc (st8 (t ^^^ y)) b
    rw [e, st8_xor]
    exact crc_zip a b _ _ (by simpa using h)
theorem zip_zero : ∀ (b : List Nat), List.zipWith (· ^^^ ·) b (List.replicate b.length 0) = b
  | [] => rfl
  | x :: b => by rw [List.length_cons, List.replicate_succ, List.zipWith_cons_cons, zip_zero b, Nat.xor_zero]
theorem sum_zip {a b : List Nat} (h : a.length = b.length) : sum (List.zipWith (· ^^^ ·) a b) = sum a ^^^ sum b ^^^ sum (List.replicate a.length 0) := by
  have e1 := crc_zip (List.zipWith (· ^^^ ·) a b) (List.replicate a.length 0) (4294967295 ^^^ 4294967295) 4294967295 (by simp [h])
  have e2 := crc_zip a b 4294967295 4294967295 h
  have e3 := zip_zero (List.zipWith (· ^^^ ·) a b)
  rw [show (List.zipWith (· ^^^ ·) a b).length = a.length by simp [h]] at e3
  rw [e3, Nat.xor_self, Nat.zero_xor] at e1
  rw [Nat.xor_self] at e2
  unfold sum
  rw [e1, e2]
  generalize crc 4294967295 a = p
  generalize crc 4294967295 b = q
  generalize crc 4294967295 (List.replicate a.length 0) = r
  apply Nat.eq_of_testBit_eq
  intro i
  simp only [Nat.testBit_xor]
  cases p.testBit i <;> cases q.testBit i <;> cases r.testBit i <;> cases Nat.testBit 4294967295 i <;> rfl

/-- Half a byte at a time: by a table. -/
def tab : List Nat := [0, 498536548, 997073096, 651767980, 1994146192, 1802195444, 1303535960, 1342533948, 3988292384, 4027552580, 3604390888, 3412177804, 2607071920, 2262029012, 2685067896, 3183342108]
theorem tab_is : ∀ n, n < 16 → tab.getD n 0 = st4 n := by decide
theorem tab_lt (n : Nat) (h : n < 16) : tab.getD n 0 < 4294967296 := by rw [tab_is n h]; exact st4_lt (by omega)
theorem st4_high (q : Nat) : st4 (16 * q) = q := by
  have h (k : Nat) : st (2 * k) = k := by unfold st; rw [if_neg (by omega)]; omega
  rw [show 16 * q = 2 * (2 * (2 * (2 * q))) by omega]
  simp only [st4, h]
theorem split16 (s : Nat) : s = 16 * (s / 16) ^^^ s % 16 := by
  have := Nat.two_pow_add_eq_or_of_lt (i := 4) (b := s % 16) (by omega) (s / 16)
  have e2 : s = 16 * (s / 16) + s % 16 := by omega
  apply Nat.eq_of_testBit_eq
  intro i
  rw [Nat.testBit_xor]
  by_cases hi : i < 4
  · have h1 : (16 * (s / 16)).testBit i = false := by rw [show 16 * (s / 16) = 2 ^ 4 * (s / 16) by omega, Nat.testBit_two_pow_mul]; simp; omega
    rw [h1, Bool.false_xor, show 16 = 2 ^ 4 by rfl, Nat.testBit_mod_two_pow]
    simp [hi]
  · have h1 : (s % 16).testBit i = false := Nat.testBit_lt_two_pow (Nat.lt_of_lt_of_le (Nat.mod_lt _ (by omega)) (by exact Nat.pow_le_pow_right (n := 2) (by omega) (show 4 ≤ i by omega)))
    rw [h1, Bool.xor_false, show 16 * (s / 16) = 2 ^ 4 * (s / 16) by omega, Nat.testBit_two_pow_mul, show s / 16 = s / 2 ^ 4 by rfl, Nat.testBit_div_two_pow]
    simp
    rw [show i - 4 + 4 = i by omega, decide_eq_true (show 4 ≤ i by omega), Bool.true_and]
theorem st4_half (s : Nat) : st4 s = s / 16 ^^^ tab.getD (s % 16) 0 := by
  have e := split16 s
  conv => lhs; rw [e, st4_xor, st4_high]
  rw [tab_is _ (by omega)]

/-- The four bytes of a number, the lowest first. -/
def four (s : Nat) : List Nat := [s % 256, s / 256 % 256, s / 65536 % 256, s / 16777216 % 256]
theorem four_len (s : Nat) : (four s).length = 4 := rfl
theorem four_small (s : Nat) : ∀ x ∈ four s, x < 256 := by
  intro x hx
  simp [four] at hx
  omega
theorem four_inj {s t : Nat} (hs : s < 4294967296) (ht : t < 4294967296) (h : four s = four t) : s = t := by
  simp [four] at h
  omega
end Go.Proofs.YtjbnilippcdgeaaDoor
