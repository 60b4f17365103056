/- Plain facts on lists whose items change places, the last one first. -/
import Derived.Test.YtccneonplpmiaaaObj
import Derived.Test.YtccneonplpmiaaaInts
namespace Go.Proofs.Ytccneonplpmiaaa

/-- Two items change places. -/
def swp (l : List Int) (i j : Nat) : List Int := (l.set i (l.getD j 0)).set j (l.getD i 0)
theorem swp_len (l : List Int) (i j : Nat) : (swp l i j).length = l.length := by simp [swp]
theorem swp_fit {l : List Int} (h : Fit l) (i j : Nat) : Fit (swp l i j) := by
  intro x hx
  rcases List.mem_or_eq_of_mem_set hx with h1 | h1
  · rcases List.mem_or_eq_of_mem_set h1 with h2 | h2
    · exact h x h2
    · rw [h2]; exact h.get j
  · rw [h1]; exact h.get i
theorem count_set {l : List Int} {i : Nat} (hi : i < l.length) (y x : Int) : (l.set i y).count x + (if l[i] = x then 1 else 0) = l.count x + (if y = x then 1 else 0) := by
  rw [List.count_set hi]
  by_cases h1 : l[i] = x
  · have hp : 0 < l.count x := List.count_pos_iff.2 (h1 ▸ List.getElem_mem hi)
    by_cases h2 : y = x <;> simp [h1, h2] <;> omega
  · by_cases h2 : y = x <;> simp [h1, h2]
theorem swp_count {l : List Int} {i j : Nat} (hi : i < l.length) (hj : j < l.length) (x : Int) : (swp l i j).count x = l.count x := by
  have e1 : l.getD i 0 = l[i] := by simp [List.getD, hi]
  have e2 : l.getD j 0 = l[j] := by simp [List.getD, hj]
  unfold swp
  rw [e1, e2]
  have h1 := count_set hi l[j] x
  have h2 := count_set (l := l.set i l[j]) (i := j) (by simpa using hj) l[i] x
  by_cases hij : i = j
  · subst hij
    have e3 : (l.set i l[i])[i]'(by simpa using hj) = l[i] := by simp
    rw [e3] at h2
    omega
  · have e3 : (l.set i l[j])[j]'(by simpa using hj) = l[j] := by rw [List.getElem_set_ne hij]
    rw [e3] at h2
    omega

/-- The m first items are still to change places; c numbers were drawn. -/
def shuf (k : Nat) : Nat → Nat → List Int → List Int
  | 0, _, l => l
  | 1, _, l => l
  | p + 2, c, l => shuf k (p + 1) (c + 1) (swp l (p + 1) (raw k c % (p + 2)))
theorem shuf_small {k m c : Nat} {l : List Int} (h : m ≤ 1) : shuf k m c l = l := by
  match m, h with
  | 0, _ => rfl
  | 1, _ => rfl
theorem shuf_step {k q c : Nat} {l : List Int} (h : 1 ≤ q) : shuf k (q + 1) c l = shuf k q (c + 1) (swp l q (raw k c % (q + 1))) := by
  obtain ⟨p, rfl⟩ : ∃ p, q = p + 1 := ⟨q - 1, by omega⟩
  rfl
theorem shuf_len (k : Nat) : ∀ m c l, (shuf k m c l).length = l.length
  | 0, _, _ => rfl
  | 1, _, _ => rfl
  | p + 2, c, l => by
    show (shuf k (p + 1) (c + 1) _).length = _
    rw [shuf_len k (p + 1), swp_len]
theorem shuf_fit (k : Nat) : ∀ m c l, Fit l → Fit (shuf k m c l)
  | 0, _, _, h => h
  | 1, _, _, h => h
  | p + 2, c, _, h => shuf_fit k (p + 1) (c + 1) _ (swp_fit h _ _)
theorem shuf_count (k : Nat) (x : Int) : ∀ m c l, m ≤ l.length → (shuf k m c l).count x = l.count x
  | 0, _, _, _ => rfl
  | 1, _, _, _ => rfl
  | p + 2, c, l, h => by
    show (shuf k (p + 1) (c + 1) _).count x = _
    rw [shuf_count k x (p + 1) (c + 1) _ (by rw [swp_len]; omega)]
    exact swp_count (by omega) (by have := Nat.mod_lt (raw k c) (show 0 < p + 2 by omega); omega) x
end Go.Proofs.Ytccneonplpmiaaa
