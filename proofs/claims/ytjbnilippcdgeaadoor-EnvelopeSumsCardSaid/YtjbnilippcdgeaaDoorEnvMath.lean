/- Envelopes as lists: seal, and what bytes begin with. -/
import Derived.Test.YtjbnilippcdgeaaDoorCrc
import Derived.Test.YtjbnilippcdgeaaDoorMath
namespace Go.Proofs.YtjbnilippcdgeaaDoor

def high (l : List Nat) : Bool := decide (l.length ≤ 9) && l.all fun x => decide (128 ≤ x)

/-- The count that bytes begin with: count, bytes, error. -/
def cnt (l : List Nat) : Nat × Nat × Nat :=
  if (num l 0 0).2.1 = 0 ∧ high l = true then (0, 0, 3) else if (num l 0 0).2.1 = 0 ∨ 65536 < (num l 0 0).1 then (0, 0, 4) else ((num l 0 0).1, (num l 0 0).2.1, 0)

/-- Where the content begins and ends, and the error. -/
def bnd (l : List Nat) : Nat × Nat × Nat :=
  if l.length = 0 then (0, 0, 3) else if l.getD 0 0 ≠ 3 then (0, 0, 5) else
    if (cnt (l.drop 1)).2.2 ≠ 0 then (0, 0, (cnt (l.drop 1)).2.2) else
      if l.length < 1 + (cnt (l.drop 1)).2.1 + ((cnt (l.drop 1)).1 + 4) then (0, 0, 3) else (1 + (cnt (l.drop 1)).2.1, 1 + (cnt (l.drop 1)).2.1 + (cnt (l.drop 1)).1, 0)

/-- The content, how many bytes, the error. -/
def opn (l : List Nat) : List Nat × Nat × Nat :=
  if (bnd l).2.2 ≠ 0 then ([], 0, (bnd l).2.2) else
    if (l.drop (bnd l).2.1).take 4 ≠ four (sum (l.take (bnd l).2.1)) then ([], 0, 6) else ((l.drop (bnd l).1).take ((bnd l).2.1 - (bnd l).1), (bnd l).2.1 + 4, 0)

def sealP (l : List Nat) : List Nat := 3 :: (enc l.length ++ l)
def sealed (l : List Nat) : List Nat := if l.length > 65536 then [] else sealP l ++ four (sum (sealP l))

theorem cnt_fits (l : List Nat) : (cnt l).1 ≤ 65536 ∧ (cnt l).2.1 ≤ l.length ∧ (cnt l).2.2 ≤ 4 := by
  have h := (num_bound l 0 0).1
  unfold cnt
  split
  · exact ⟨by simp, by simp, by simp⟩
  · split
    · exact ⟨by simp, by simp, by simp⟩
    · rename_i h2
      refine ⟨by simp; omega, by simp; omega, by simp⟩
theorem bnd_fits (l : List Nat) (h : (bnd l).2.2 = 0) : 1 ≤ (bnd l).1 ∧ (bnd l).1 ≤ (bnd l).2.1 ∧ (bnd l).2.1 + 4 ≤ l.length := by
  unfold bnd at h ⊢
  split at h
  · simp at h
  · rename_i h1
    rw [if_neg h1]
    split at h
    · simp at h
    · rename_i h2
      rw [if_neg h2]
      split at h
      · rename_i h3
        exact absurd h h3
      · rename_i h3
        rw [if_neg h3]
        split at h
        · simp at h
        · rename_i h4
          rw [if_neg h4]
          exact ⟨Nat.le_add_right _ _, Nat.le_add_right _ _, by show 1 + (cnt (l.drop 1)).2.1 + (cnt (l.drop 1)).1 + 4 ≤ l.length; omega⟩

theorem sealP_small {l : List Nat} (h : ∀ x ∈ l, x < 256) : ∀ x ∈ sealP l, x < 256 := by
  intro x hx
  simp only [sealP, List.mem_cons, List.mem_append] at hx
  rcases hx with rfl | hx | hx
  · decide
  · exact enc_small _ x hx
  · exact h x hx
theorem sealed_small {l : List Nat} (h : ∀ x ∈ l, x < 256) : ∀ x ∈ sealed l, x < 256 := by
  intro x hx
  unfold sealed at hx
  split at hx
  · simp at hx
  · rcases List.mem_append.1 hx with hx | hx
    · exact sealP_small h x hx
    · exact four_small _ x hx
theorem sealed_len {l : List Nat} (h : l.length ≤ 65536) : (sealed l).length = 1 + (enc l.length).length + l.length + 4 := by
  unfold sealed
  rw [if_neg (by omega), List.length_append, four_len]
  simp [sealP]
  omega

/-- All but the last byte of a number in groups are high. -/
theorem encF_high : ∀ (f v k : Nat), k < (encF f v).length → ∀ x ∈ (encF f v).take k, 128 ≤ x
  | 0, v, k, hk, x, hx => by
    simp [encF] at hk
    subst hk
    simp at hx
  | f + 1, v, k, hk, x, hx => by
    unfold encF at hk hx
    split at hk
    · rename_i h
      simp at hk
      subst hk
      simp at hx
    · rename_i h
      rw [if_neg h] at hx
      cases k with
      | zero => simp at hx
      | succ k =>
        simp only [List.take_succ_cons, List.mem_cons] at hx
        rcases hx with rfl | hx
        · omega
        · exact encF_high f _ k (by simpa using hk) x hx

theorem cnt_enc {v : Nat} (rest : List Nat) (h : v ≤ 65536) : cnt (enc v ++ rest) = (v, (enc v).length, 0) := by
  have e := num_enc rest v (by omega)
  have hl := (enc_len v).1
  unfold cnt
  rw [e]
  rw [if_neg (fun hh => by have := hh.1; simp only at this; omega), if_neg (fun hh => by simp only at hh; omega)]
theorem cnt_cut {v k : Nat} (h : v ≤ 65536) (hk : k < (enc v).length) : cnt ((enc v).take k) = (0, 0, 3) := by
  have e := num_enc_cut v k (by omega) hk
  have hl := (enc_len v).2
  unfold cnt
  rw [e]
  have hh : high ((enc v).take k) = true := by
    unfold high
    simp only [Bool.and_eq_true, decide_eq_true_eq, List.all_eq_true]
    exact ⟨by rw [List.length_take]; omega, fun x hx => encF_high 9 v k hk x hx⟩
  rw [if_pos ⟨rfl, hh⟩]

theorem sealed_is {l : List Nat} (h : l.length ≤ 65536) : sealed l = 3 :: (enc l.length ++ (l ++ four (sum (sealP l)))) := by
  unfold sealed
  rw [if_neg (by omega)]
  show (3 :: (enc l.length ++ l)) ++ four (sum (sealP l)) = _
  simp

theorem bnd_sealed {l : List Nat} (rest : List Nat) (h : l.length ≤ 65536) : bnd (sealed l ++ rest) = (1 + (enc l.length).length, 1 + (enc l.length).length + l.length, 0) := by
  rw [sealed_is h]
  have e : (3 :: (enc l.length ++ (l ++ four (sum (sealP l)))) ++ rest).drop 1 = enc l.length ++ (l ++ four (sum (sealP l)) ++ rest) := by simp
  unfold bnd
  rw [e, cnt_enc _ h]
  rw [if_neg (by simp), if_neg (by simp), if_neg (by simp), if_neg (by simp [four_len]; omega)]

theorem opn_sealed {l : List Nat} (rest : List Nat) (h : l.length ≤ 65536) : opn (sealed l ++ rest) = (l, (sealed l).length, 0) := by
  have hb := bnd_sealed rest h
  have hlen := sealed_len h
  have e1 : (sealed l ++ rest).take (1 + (enc l.length).length + l.length) = sealP l := by
    unfold sealed
    rw [if_neg (by omega), List.append_assoc]
    exact List.take_left' (by simp [sealP]; omega)
  have e2 : (sealed l ++ rest).drop (1 + (enc l.length).length + l.length) = four (sum (sealP l)) ++ rest := by
    unfold sealed
    rw [if_neg (by omega), List.append_assoc]
    exact List.drop_left' (by simp [sealP]; omega)
  have e3 : (sealed l ++ rest).drop (1 + (enc l.length).length) = l ++ (four (sum (sealP l)) ++ rest) := by
    rw [sealed_is h]
    rw [show 3 :: (enc l.length ++ (l ++ four (sum (sealP l)))) ++ rest = (3 :: enc l.length) ++ (l ++ (four (sum (sealP l)) ++ rest)) by simp]
    exact List.drop_left' (by simp; omega)
  unfold opn
  rw [hb]
  rw [if_neg (by simp)]
  simp only
  rw [e1, e2, if_neg (by rw [List.take_left' (four_len _)]; simp), e3, hlen]
  rw [show 1 + (enc l.length).length + l.length - (1 + (enc l.length).length) = l.length by omega]
  simp

/-- Cut off anywhere it is too short. -/
theorem opn_cut {l : List Nat} {k : Nat} (h : l.length ≤ 65536) (hk : k < (sealed l).length) : opn ((sealed l).take k) = ([], 0, 3) := by
  have hlen := sealed_len h
  have hb : (bnd ((sealed l).take k)).2.2 = 3 := by
    unfold bnd
    by_cases h0 : k = 0
    · subst h0
      simp
    · have e0 : ((sealed l).take k).length = k := by rw [List.length_take]; omega
      rw [e0, if_neg h0]
      obtain ⟨j, rfl⟩ : ∃ j, k = j + 1 := ⟨k - 1, by omega⟩
      have e1 : (sealed l).take (j + 1) = 3 :: (enc l.length ++ (l ++ four (sum (sealP l)))).take j := by rw [sealed_is h]; rfl
      rw [e1, if_neg (by simp)]
      simp only [List.drop_succ_cons, List.drop_zero]
      by_cases hj : j < (enc l.length).length
      · rw [List.take_append_of_le_length (by omega), cnt_cut h hj]
        rw [if_pos (by simp)]
      · rw [List.take_append, List.take_of_length_le (by omega : (enc l.length).length ≤ j), cnt_enc _ h]
        rw [if_neg (by simp), if_pos (by simp; omega)]
  unfold opn
  rw [hb, if_pos (by decide)]

/-- What is told whole has its sum behind it. -/
theorem opn_whole {l : List Nat} (h : (opn l).2.2 = 0) : ∃ t, (opn l).2.1 = t + 4 ∧ t + 4 ≤ l.length ∧ (l.drop t).take 4 = four (sum (l.take t)) := by
  unfold opn at h ⊢
  split at h
  · rename_i h1
    exact absurd h h1
  · rename_i h1
    rw [if_neg h1]
    split at h
    · simp at h
    · rename_i h2
      rw [if_neg h2]
      have hb := bnd_fits l (by omega)
      exact ⟨(bnd l).2.1, rfl, hb.2.2, by simpa using h2⟩
theorem opn_err {l : List Nat} (h : (opn l).2.2 ≠ 0) : (opn l).1 = [] ∧ (opn l).2.1 = 0 := by
  unfold opn at h ⊢
  split at h
  · rename_i h1
    rw [if_pos h1]
    exact ⟨rfl, rfl⟩
  · rename_i h1
    rw [if_neg h1]
    split at h
    · rename_i h2
      rw [if_pos h2]
      exact ⟨rfl, rfl⟩
    · simp at h
theorem opn_old {l : List Nat} (h : 0 < l.length) (h3 : l.getD 0 0 ≠ 3) : opn l = ([], 0, 5) := by
  have hb : bnd l = (0, 0, 5) := by
    unfold bnd
    rw [if_neg (by omega), if_pos h3]
  unfold opn
  rw [hb]
  rw [if_pos (by decide)]
theorem opn_small {l : List Nat} (h : ∀ x ∈ l, x < 256) : ∀ x ∈ (opn l).1, x < 256 := by
  intro x hx
  unfold opn at hx
  split at hx
  · simp at hx
  · split at hx
    · simp at hx
    · exact h x (List.mem_of_mem_drop (List.mem_of_mem_take hx))
end Go.Proofs.YtjbnilippcdgeaaDoor
