/- What a quorum has reached, as numbers: the acks falling, the quorum's one of them. -/
import Derived.Test.YtflphpjfmbkeiaaLead
import Derived.Test.YtflphpjfmbkeiaaSl
namespace Go.Proofs.Ytflphpjfmbkeiaa
open Go.RowKit

def falling (l : List Int) : List Int := l.mergeSort fun x y => decide (y ≤ x)
theorem falling_perm (l : List Int) : (falling l).Perm l := List.mergeSort_perm _ _
theorem falling_len (l : List Int) : (falling l).length = l.length := (falling_perm l).length_eq
theorem falling_sorted (l : List Int) : (falling l).Pairwise fun x y => y ≤ x := by
  have h := List.pairwise_mergeSort (le := fun x y : Int => decide (y ≤ x)) (by intro a b c h1 h2; simp at *; omega) (by intro a b; simp; omega) l
  exact h.imp (by intro a b h; simpa using h)
theorem falling_fit {l : List Int} (h : Fit l) : Fit (falling l) := fun x hx => h x ((falling_perm l).mem_iff.1 hx)
/-- What is reached of these acks. -/
def reachI (l : List Int) (last n : Int) : Int := if quorI n = 0 ∨ (l.length : Int) < quorI n then 0 else max 0 (min last ((falling l).getD ((quorI n).toNat - 1) 0))
theorem quor_cases (n : Int) : quorI n = 0 ∨ quorI n = 2 ∨ quorI n = 3 := by
  unfold quorI okN
  by_cases h : 2 ≤ n ∧ n ≤ 5
  · have h2 : (decide (2 ≤ n) && decide (n ≤ 5)) = true := by simpa using h
    rw [if_pos h2]
    omega
  · left
    rw [if_neg (by simpa using h)]
/-- The item at k of a falling list: so many are as great, and not so many are greater. -/
theorem count_ge {s : List Int} (hs : s.Pairwise fun x y => y ≤ x) {k : Nat} (hk : k < s.length) : k + 1 ≤ s.countP (fun x => decide (s[k] ≤ x)) := by
  have h1 : (s.take (k + 1)).countP (fun x => decide (s[k] ≤ x)) = (s.take (k + 1)).length := by
    rw [List.countP_eq_length]
    intro x hx
    obtain ⟨i, hi, rfl⟩ := List.getElem_of_mem hx
    rw [List.length_take] at hi
    rw [List.getElem_take]
    simp only [decide_eq_true_eq]
    by_cases e : i = k
    · subst e; exact Int.le_refl _
    · exact List.pairwise_iff_getElem.1 hs i k (by omega) hk (by omega)
  have h2 : (s.take (k + 1)).length = k + 1 := by rw [List.length_take]; omega
  have h3 := (List.take_sublist (k + 1) s).countP_le (p := fun x => decide (s[k] ≤ x))
  omega
theorem count_gt {s : List Int} (hs : s.Pairwise fun x y => y ≤ x) {k : Nat} (hk : k < s.length) : s.countP (fun x => decide (s[k] < x)) ≤ k := by
  have e : s = s.take k ++ s.drop k := (List.take_append_drop k s).symm
  have h1 : (s.drop k).countP (fun x => decide (s[k] < x)) = 0 := by
    rw [List.countP_eq_zero]
    intro x hx
    obtain ⟨i, hi, rfl⟩ := List.getElem_of_mem hx
    rw [List.getElem_drop]
    simp only [decide_eq_true_eq]
    rw [List.length_drop] at hi
    by_cases e : i = 0
    · subst e; simp
    · have := List.pairwise_iff_getElem.1 hs k (k + i) hk (by omega) (by omega)
      omega
  have h2 : (s.take k).countP (fun x => decide (s[k] < x)) ≤ k := by
    have := List.countP_le_length (p := fun x => decide (s[k] < x)) (l := s.take k)
    rw [List.length_take] at this
    omega
  have h3 : s.countP (fun x => decide (s[k] < x)) = (s.take k ++ s.drop k).countP (fun x => decide (s[k] < x)) := by rw [List.take_append_drop]
  rw [h3, List.countP_append]
  omega
theorem reach_ex : reachI [5, 3, 4] 5 3 = 4 := by
  have h : falling [5, 3, 4] = [5, 4, 3] := by
    refine List.Perm.eq_of_pairwise (le := fun x y : Int => y ≤ x) (fun a b _ _ h1 h2 => by omega) (falling_sorted _) (by simp) ((falling_perm _).trans ?_)
    decide
  rw [reachI, h]
  decide
end Go.Proofs.Ytflphpjfmbkeiaa
