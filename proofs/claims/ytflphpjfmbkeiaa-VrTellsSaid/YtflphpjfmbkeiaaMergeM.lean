/- Merged incarnations, as lists. -/
import Derived.Test.YtflphpjfmbkeiaaSl
namespace Go.Proofs.Ytflphpjfmbkeiaa

def mergeUp (a b : List Int) (k : Nat) : List Int := (List.range a.length).map fun i => if i < k then max (a.getD i 0) (b.getD i 0) else a.getD i 0
/-- Of each place of a the greater one of both. -/
def mergeL (a b : List Int) : List Int := mergeUp a b a.length
theorem merge_len (a b : List Int) (k : Nat) : (mergeUp a b k).length = a.length := by simp [mergeUp]
theorem merge_zero (a b : List Int) : mergeUp a b 0 = a := by
  apply List.ext_getElem (by simp [mergeUp])
  intro i h1 h2
  simp [mergeUp, List.getD, h2]
theorem merge_get (a b : List Int) {k i : Nat} (hi : i < a.length) : (mergeUp a b k).getD i 0 = if i < k then max (a.getD i 0) (b.getD i 0) else a.getD i 0 := by
  simp [mergeUp, List.getD, hi]
theorem merge_set (a b : List Int) (k : Nat) : (mergeUp a b k).set k (max (a.getD k 0) (b.getD k 0)) = mergeUp a b (k + 1) := by
  apply List.ext_getElem (by simp [mergeUp])
  intro i h1 h2
  have hi : i < a.length := by simpa [mergeUp] using h2
  by_cases hk : i = k
  · subst hk
    simp [mergeUp]
  · rw [List.getElem_set_ne (by omega)]
    simp only [mergeUp, List.getElem_map, List.getElem_range]
    by_cases h : i < k
    · rw [if_pos h, if_pos (by omega)]
    · rw [if_neg h, if_neg (by omega)]
theorem mergeL_len (a b : List Int) : (mergeL a b).length = a.length := merge_len a b _
theorem mergeL_get (a b : List Int) {i : Nat} (hi : i < a.length) : (mergeL a b).getD i 0 = max (a.getD i 0) (b.getD i 0) := by rw [mergeL, merge_get a b hi, if_pos hi]
theorem merge_fit {a b : List Int} (ha : Fit a) (hb : Fit b) (k : Nat) : Fit (mergeUp a b k) := by
  intro x hx
  obtain ⟨i, _, rfl⟩ := List.mem_map.1 hx
  have h1 := ha.get i
  have h2 := hb.get i
  split
  · constructor <;> omega
  · exact h1
/-- Merged again, nothing changes. -/
theorem merge_twice (a b : List Int) : mergeL (mergeL a b) b = mergeL a b := by
  apply List.ext_getElem (by simp [mergeL_len])
  intro i h1 h2
  have hi : i < a.length := by simpa [mergeL_len] using h2
  have e1 : (mergeL (mergeL a b) b)[i] = (mergeL (mergeL a b) b).getD i 0 := by simp [List.getD, h1]
  have e2 : (mergeL a b)[i] = (mergeL a b).getD i 0 := by simp [List.getD, h2]
  rw [e1, e2, mergeL_get _ _ (by rw [mergeL_len]; exact hi), mergeL_get _ _ hi]
  omega
end Go.Proofs.Ytflphpjfmbkeiaa
