/- Slices of slices: what a[lo:hi:hi] holds, cell by cell, and operation by operation. -/
import Derived.Test.YtaimnhlpdkpobaaMsgs
import Derived.Laws.Slices
namespace Go.Proofs.Ytaimnhlpdkpobaa
open Go.RowKit

theorem flat_take {α : Type} (f : α → List Value) (k : Nat) : ∀ (l : List α) (i : Nat), (∀ y ∈ l, (f y).length = k) → (l.take i).flatMap f = (l.flatMap f).take (i * k)
  | [], i, _ => by simp
  | y :: r, 0, _ => by simp
  | y :: r, i + 1, hk => by
    have h1 := hk y (by simp)
    have ih := flat_take f k r i (fun z hz => hk z (by simp [hz]))
    rw [List.take_succ_cons, List.flatMap_cons, ih, List.flatMap_cons, show (i + 1) * k = (f y).length + i * k from by rw [h1, Nat.add_mul]; omega, List.take_append]
    simp [List.take_of_length_le]
theorem flat_drop {α : Type} (f : α → List Value) (k : Nat) : ∀ (l : List α) (i : Nat), (∀ y ∈ l, (f y).length = k) → (l.drop i).flatMap f = (l.flatMap f).drop (i * k)
  | [], i, _ => by simp
  | y :: r, 0, _ => by simp
  | y :: r, i + 1, hk => by
    have h1 := hk y (by simp)
    have ih := flat_drop f k r i (fun z hz => hk z (by simp [hz]))
    rw [List.drop_succ_cons, ih, List.flatMap_cons, show (i + 1) * k = (f y).length + i * k from by rw [h1, Nat.add_mul]; omega, List.drop_append]
    simp

section
variable {F : Nat → Prop} {w : World} {k n c : Nat} {A : Option Addr} {xs : List Value}
theorem FlatAt.cut (h : FlatAt F w k (.slice A n c) n xs) {lo hi : Nat} (h1 : lo ≤ hi) (h2 : hi ≤ n) : FlatAt F w k (sliced A lo hi hi k) (hi - lo) ((xs.take (hi * k)).drop (lo * k)) := by
  obtain ⟨hl, ho, A', c', hv, hc, hm, hn, hr⟩ := h
  obtain ⟨rfl, rfl⟩ : A = A' ∧ c = c' := by injection hv with e1 _ e3; exact ⟨e1, e3⟩
  unfold sliced
  have hk : hi * k ≤ n * k := Nat.mul_le_mul_right _ h2
  refine ⟨?_, fun u hu => ho u (List.mem_of_mem_take (List.mem_of_mem_drop hu)), _, _, rfl, Nat.le_refl _, by omega, ?_, fun h0 => ?_⟩
  · rw [List.length_drop, List.length_take, hl, Nat.min_eq_left hk, Nat.sub_mul]
  · intro h0
    by_cases he : hi = lo
    · omega
    · rw [if_neg he] at h0
      have : A = none := by cases A with
        | none => rfl
        | some a => cases h0
      have := hn this
      omega
  · rw [if_neg (by omega)]
    obtain ⟨b, off, rfl, hF, hb, hr⟩ := hr (by omega)
    refine ⟨b, off + lo * k, ?_, hF, hb, fun j u hj => ?_⟩
    · simp [Addr.add_lit]
    · rw [List.getElem?_drop] at hj
      have hlt : lo * k + j < hi * k := by
        have := (List.getElem?_eq_some_iff.1 hj).1
        rw [List.length_take] at this
        omega
      rw [List.getElem?_take_of_lt hlt] at hj
      rw [Nat.add_assoc]
      exact hr _ _ hj
theorem OpsIn.cut {ps : List (OpD × Value)} (h : OpsIn F w (.slice A n c) ps) {lo hi : Nat} (h1 : lo ≤ hi) (h2 : hi ≤ ps.length) : OpsIn F w (sliced A lo hi hi 10) ((ps.take hi).drop lo) := by
  have e : ps.length = n := by
    obtain ⟨_, _, hv, _⟩ := FlatAt.shape h.1
    injection hv with _ e2 _
    exact e2.symm
  refine ⟨?_, fun p hp => h.2 p (List.mem_of_mem_take (List.mem_of_mem_drop hp))⟩
  have := FlatAt.cut (e ▸ h.1 : FlatAt F w 10 (.slice A n c) n _) h1 (by omega)
  rw [flat_drop (fun p : OpD × Value => p.1.cells p.2) 10 _ _ (fun p _ => p.1.len p.2), flat_take (fun p : OpD × Value => p.1.cells p.2) 10 _ _ (fun p _ => p.1.len p.2), show ((ps.take hi).drop lo).length = hi - lo from by simp; omega]
  exact this
theorem FlatAt.tail (h : FlatAt F w k (.slice A n c) n xs) {lo : Nat} (h1 : lo ≤ n) : FlatAt F w k (sliced A lo n c k) (n - lo) (xs.drop (lo * k)) := by
  obtain ⟨hl, ho, A', c', hv, hc, hm, hn, hr⟩ := h
  obtain ⟨rfl, rfl⟩ : A = A' ∧ c = c' := by injection hv with e1 _ e3; exact ⟨e1, e3⟩
  unfold sliced
  refine ⟨?_, fun u hu => ho u (List.mem_of_mem_drop hu), _, _, rfl, by omega, by omega, ?_, fun h0 => ?_⟩
  · rw [List.length_drop, hl, Nat.sub_mul]
  · intro h0
    by_cases he : c = lo
    · omega
    · rw [if_neg he] at h0
      have : A = none := by cases A with
        | none => rfl
        | some a => cases h0
      have := hn this
      omega
  · rw [if_neg (by omega)]
    obtain ⟨b, off, rfl, hF, hb, hr⟩ := hr (by omega)
    refine ⟨b, off + lo * k, ?_, hF, hb, fun j u hj => ?_⟩
    · simp [Addr.add_lit]
    · rw [List.getElem?_drop] at hj
      rw [Nat.add_assoc]
      exact hr _ _ hj
theorem OpsIn.tail {ps : List (OpD × Value)} (h : OpsIn F w (.slice A n c) ps) {lo : Nat} (h1 : lo ≤ ps.length) : OpsIn F w (sliced A lo n c 10) (ps.drop lo) := by
  have e : ps.length = n := by
    obtain ⟨_, _, hv, _⟩ := FlatAt.shape h.1
    injection hv with _ e2 _
    exact e2.symm
  refine ⟨?_, fun p hp => h.2 p (List.mem_of_mem_drop hp)⟩
  have := FlatAt.tail (e ▸ h.1 : FlatAt F w 10 (.slice A n c) n _) (lo := lo) (by omega)
  rw [flat_drop (fun p : OpD × Value => p.1.cells p.2) 10 _ _ (fun p _ => p.1.len p.2), show (ps.drop lo).length = n - lo from by simp; omega]
  exact this
end
end Go.Proofs.Ytaimnhlpdkpobaa
