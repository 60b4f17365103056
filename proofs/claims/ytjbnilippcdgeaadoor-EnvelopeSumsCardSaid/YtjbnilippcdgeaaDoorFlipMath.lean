/- One byte turned: an envelope is not told whole. -/
import Derived.Test.YtjbnilippcdgeaaDoorEnvMath
namespace Go.Proofs.YtjbnilippcdgeaaDoor

theorem set_split {l : List Nat} {i x : Nat} (hi : i < l.length) : l = l.take i ++ l.getD i 0 :: l.drop (i + 1) ∧ l.set i x = l.take i ++ x :: l.drop (i + 1) := by
  refine ⟨?_, List.set_eq_take_append_cons_drop.trans (by rw [if_pos hi])⟩
  have h : l.getD i 0 = l[i] := by simp [List.getD, hi]
  rw [h]
  simp
theorem sum_set {l : List Nat} {i x : Nat} (hi : i < l.length) (hl : ∀ y ∈ l, y < 256) (hx : x < 256) (hne : x ≠ l.getD i 0) : sum (l.set i x) ≠ sum l := by
  obtain ⟨e1, e2⟩ := set_split (x := x) hi
  have hb : l.getD i 0 < 256 := by
    have h : l.getD i 0 = l[i] := by simp [List.getD, hi]
    rw [h]
    exact hl _ (List.getElem_mem hi)
  intro h
  rw [e2] at h
  conv at h => rhs; rw [e1]
  exact sum_turned _ _ (fun z hz => hl z (List.mem_of_mem_take hz)) (fun z hz => hl z (List.mem_of_mem_drop hz)) hx hb hne h
theorem set_ne {l : List Nat} {i x : Nat} (hi : i < l.length) (hne : x ≠ l.getD i 0) : l.set i x ≠ l := by
  intro h
  have h1 : (l.set i x).getD i 0 = x := by simp [List.getD, hi]
  rw [h] at h1
  exact hne h1.symm
theorem set_small {l : List Nat} {i x : Nat} (hl : ∀ y ∈ l, y < 256) (hx : x < 256) : ∀ y ∈ l.set i x, y < 256 := by
  intro y hy
  rcases List.mem_or_eq_of_mem_set hy with h | h
  · exact hl y h
  · omega

/-- A text with its sum behind it, and a byte turned: not whole, or of another length. -/
theorem opn_turned {p : List Nat} {i x : Nat} (hp : ∀ y ∈ p, y < 256) (hi : i < (p ++ four (sum p)).length) (hx : x < 256) (hne : x ≠ (p ++ four (sum p)).getD i 0)
    (h : (opn ((p ++ four (sum p)).set i x)).2.2 = 0) : (opn ((p ++ four (sum p)).set i x)).2.1 ≠ (p ++ four (sum p)).length := by
  intro hlen
  obtain ⟨t, h1, h2, h3⟩ := opn_whole h
  have ht : t = p.length := by rw [hlen, List.length_append, four_len] at h1; omega
  subst ht
  by_cases hip : i < p.length
  · rw [List.set_append_left _ _ hip, List.drop_left' (by simp), List.take_left' (by simp), List.take_of_length_le (by rw [four_len]; omega)] at h3
    have hne' : x ≠ p.getD i 0 := by
      intro e
      apply hne
      rw [e]
      simp [List.getD, List.getElem?_append_left hip]
    exact sum_set hip hp hx hne' (four_inj (sum_lt (set_small hp hx)) (sum_lt hp) h3.symm)
  · rw [List.set_append_right _ _ (by omega), List.drop_left' rfl, List.take_left' rfl, List.take_of_length_le (by rw [List.length_set, four_len]; omega)] at h3
    have hj : i - p.length < (four (sum p)).length := by rw [List.length_append] at hi; omega
    refine set_ne hj ?_ h3
    intro e
    apply hne
    rw [e]
    simp [List.getD, List.getElem?_append_right (by omega : p.length ≤ i)]

/-- A bit turned is another byte. -/
theorem bit_turned {x j : Nat} (hx : x < 256) (hj : j < 8) : x ^^^ 2 ^ j < 256 ∧ x ^^^ 2 ^ j ≠ x := by
  have hp : (2 : Nat) ^ j < 2 ^ 8 := Nat.pow_lt_pow_right (by omega) hj
  refine ⟨Nat.xor_lt_two_pow (n := 8) hx hp, fun h => ?_⟩
  have h1 : (x ^^^ 2 ^ j).testBit j = x.testBit j := by rw [h]
  rw [Nat.testBit_xor, Nat.testBit_two_pow_self] at h1
  cases hb : x.testBit j <;> simp [hb] at h1
end Go.Proofs.YtjbnilippcdgeaaDoor
