/- Slices of ints that fit: between the two ways in which they are said; literals; rows of the call's own. -/
import Derived.Test.YtflphpjfmbkeiaaMsgs
import Derived.Test.YtflphpjfmbkeiaaInts
namespace Go.Proofs.Ytflphpjfmbkeiaa
open Go.RowKit

/-- The slice v holds these integers, and they fit. -/
def SlI (F : Nat → Prop) (w : World) (v : Value) (l : List Int) : Prop := IncsAt F w v l ∧ Fit l
section
variable {F G : Nat → Prop} {w w' : World} {v : Value} {l : List Int}
theorem SlI.kept (h : SlI F w v l) (hk : Kept F w w') : SlI F w' v l := ⟨h.1.kept hk, h.2⟩
theorem SlI.mono (h : SlI F w v l) (hg : ∀ i, i < w.heap.size → F i → G i) : SlI G w v l := ⟨h.1.mono hg, h.2⟩
theorem SlI.shape (h : SlI F w v l) : ∃ A c, v = .slice A l.length c ∧ l.length ≤ c ∧ c ≤ maxLen := by
  obtain ⟨A, c, e, h1, h2, _⟩ := FlatAt.shape h.1
  exact ⟨A, c, e, h1, h2⟩
theorem SlI.holds {A : Option Addr} {n c : Nat} (h : SlI F w (.slice A n c) l) : IHolds w w.heap.size A n l := by
  obtain ⟨A', c', e, _⟩ := FlatAt.shape h.1
  obtain ⟨rfl, rfl, rfl⟩ : A = A' ∧ n = l.length ∧ c = c' := by injection e with a b c; exact ⟨a, b, c⟩
  refine ⟨rfl, h.2, fun hn => ?_⟩
  obtain ⟨x, b, off, c2, hx, hv, _, _, hb, _⟩ := IncsAt.at_ h.1 (i := 0) hn
  obtain rfl : A = some ⟨b, off, none⟩ := by injection hv
  refine ⟨b, off, rfl, hb, fun i hi => ?_⟩
  obtain ⟨y, b', off', c3, hy, hv', _, _, _, hc⟩ := IncsAt.at_ h.1 (i := i) hi
  obtain ⟨rfl, rfl⟩ : b = b' ∧ off = off' := by injection hv' with e1; injection e1 with e1; injection e1 with e2 e3; exact ⟨e2, e3⟩
  rw [hc]
  simp [List.getD, hy]
/-- The cell at i. -/
theorem SlI.cell {A : Option Addr} {n c : Nat} (h : SlI F w (.slice A n c) l) {i : Nat} (hi : i < n) : ∃ b off, A = some ⟨b, off, none⟩ ∧ b < w.heap.size ∧ w.cell? ⟨b, off + i, none⟩ = some (.int .i64 (l.getD i 0)) := h.holds.at_ hi
theorem SlI.nil_ (F : Nat → Prop) (w : World) : SlI F w (.slice none 0 0) [] := ⟨IncsAt.nil_ F w, by simp [Fit]⟩
theorem SlI.of_own {base e n : Nat} (h : w.ownsRow base e 1 v n (ivs l)) (hs : Fit l) : SlI (base ≤ ·) w v l := by
  have hl : n = l.length := by have := h.1; rw [ivs_len] at this; omega
  subst hl
  exact ⟨FlatAt.of_own h (ivs_cell l), hs⟩
end
/-- A literal. -/
theorem sli_lit (w : World) (T : TypeId) (l : List Int) (hs : Fit l) (hl : l.length ≤ 1000) (h0 : 0 < l.length) : SlI (w.heap.size ≤ ·) (w.alloc (.cells (ivs l).toArray T (0, 0))) (.slice (some ⟨w.heap.size, 0, none⟩) l.length l.length) l := by
  refine SlI.of_own (e := T) (n := l.length) ?_ hs
  exact own_of_whole (heap_alloc_new w _) (ivs_len l) (Nat.le_refl _) (by unfold maxLen; omega)
theorem Fit.mk1 {a : Int} (h : I64 a) : Fit [a] := by
  intro x hx
  obtain rfl : x = a := by simpa using hx
  exact h
end Go.Proofs.Ytflphpjfmbkeiaa
