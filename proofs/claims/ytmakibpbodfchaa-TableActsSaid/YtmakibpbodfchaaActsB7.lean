/- The code's table and the document's side by side: what is done to both. -/
import Derived.Test.YtmakibpbodfchaaActsK7
namespace Go.Proofs.Ytmakibpbodfchaa
open Go.RowKit

/-- The one says T, the other U; they lie apart. -/
def Half (w0 w : World) (g r : Nat) (T U : Tab) : Prop := Own w0 w g T ∧ RAt w r U ∧ w0.heap.size ≤ r ∧ r ≠ g
def Both (w0 w : World) (g r : Nat) (T : Tab) : Prop := Half w0 w g r T T
section
variable {w0 w w' : World} {g r : Nat} {T U T' : Tab}
theorem Half.later (h : Half w0 w g r T U) (hb : Below w.heap.size w w') : Half w0 w' g r T U := ⟨h.1.later hb, h.2.1.later hb, h.2.2⟩
theorem Both.later (h : Both w0 w g r T) (hb : Below w.heap.size w w') : Both w0 w' g r T := Half.later h hb
theorem Both.start (h : Own w0 w g .zero) : Both w0 (w.alloc (.cells RTab.zero.cells.toArray 34 (0, 0))) g w.heap.size .zero :=
  ⟨h.later ((Below.refl _ _).alloc (Nat.le_refl _) _), ⟨.zero, by rfl, ⟨by decide, by decide, by decide, by decide⟩, heap_alloc_new w _⟩, h.2.2.size, by have := h.at_.lt; omega⟩
theorem Half.first (h : Half w0 w g r T U) (ho : Own w0 w' g T') (hg : w.grownBy w' (some g)) : Half w0 w' g r T' U :=
  ⟨ho, h.2.1.other hg (fun e => h.2.2.2 (Option.some.inj e)), h.2.2⟩
theorem Half.second (h : Half w0 w g r T U) (ho : RAt w' r T) (hg : w.grownBy w' (some r)) : Both w0 w' g r T :=
  ⟨h.1.other hg (fun e => h.2.2.2 e.symm) h.2.2.1, ho, h.2.2⟩
theorem both_start (h : Both w0 w g r T) (c q : Int) : Calls Try.prog 10 #[.pointer (some ⟨g, 0, none⟩), .int .i64 c, .int .i64 q] w fun e w' => e = .returned (.int .i64 (startT T c q).1) ∧ Half w0 w' g r (startT T c q).2 T ∧ w.grownBy w' (some g) :=
  (own_start h.1 c q).mono fun _ _ ⟨he, ho, hg⟩ => ⟨he, Half.first h ho hg, hg⟩
theorem both_refstart (c q : Int) (h : Half w0 w g r (startT T c q).2 T) : Calls Try.prog 11 #[.pointer (some ⟨r, 0, none⟩), .int .i64 c, .int .i64 q] w fun e w' => e = .returned (.int .i64 (startT T c q).1) ∧ Both w0 w' g r (startT T c q).2 ∧ w.grownBy w' (some r) :=
  (refstart_any c q w h.2.1).mono fun _ _ ⟨he, ho, hg⟩ => ⟨he, Half.second h ho hg, hg⟩
theorem both_finish (h : Both w0 w g r T) (c q : Int) (x : Rep) : Calls Try.prog 12 #[.pointer (some ⟨g, 0, none⟩), .int .i64 c, .int .i64 q, x.val] w fun e w' => e = .returned (.int .i64 (finishT T c q x).1) ∧ Half w0 w' g r (finishT T c q x).2 T ∧ w.grownBy w' (some g) :=
  (own_finish h.1 c q x).mono fun _ _ ⟨he, ho, hg⟩ => ⟨he, Half.first h ho hg, hg⟩
theorem both_reffinish (c q : Int) (x : Rep) (h : Half w0 w g r (finishT T c q x).2 T) : Calls Try.prog 13 #[.pointer (some ⟨r, 0, none⟩), .int .i64 c, .int .i64 q, x.val] w fun e w' => e = .returned (.int .i64 (finishT T c q x).1) ∧ Both w0 w' g r (finishT T c q x).2 ∧ w.grownBy w' (some r) :=
  (reffinish_any c q x w h.2.1).mono fun _ _ ⟨he, ho, hg⟩ => ⟨he, Half.second h ho hg, hg⟩
theorem exec_neq_rep {op : Oper} {a : Act} {w : World} {v u : Rep} {b : Bool} (x y : Operand) (t : TypeId) (ho : op.op = .binOp .neq 29 x y t) (hx : a.eval x = v.val) (hy : a.eval y = u.val) (hb : (!decide (v = u)) = b) :
    (execOp a.eval op).run Try.prog w = .ok (.value (.bool b)) w := by
  have q := neq_rep v u w
  rw [hb] at q
  have q2 : (eqGuard .neq 29 x y v.val u.val).run Try.prog w = .ok () w := by kernel_rfl
  unfold execOp
  simp only [ho, hx, hy, Sem.run_bind, q2, q, Result.andThen_ok, Sem.run_pure]
theorem both_forget (h : Both w0 w g r T) : Calls Try.prog 14 #[.pointer (some ⟨g, 0, none⟩)] w fun e w' => e = .returned (.tuple #[]) ∧ Half w0 w' g r T.forgotten T ∧ w.grownBy w' (some g) :=
  (own_forget h.1).mono fun _ _ ⟨he, ho, hg⟩ => ⟨he, Half.first h ho hg, hg⟩
theorem both_refforget (h : Half w0 w g r T.forgotten T) : Calls Try.prog 15 #[.pointer (some ⟨r, 0, none⟩)] w fun e w' => e = .returned (.tuple #[]) ∧ Both w0 w' g r T.forgotten ∧ w.grownBy w' (some r) :=
  (refforget_any w h.2.1).mono fun _ _ ⟨he, ho, hg⟩ => ⟨he, Half.second h ho hg, hg⟩
theorem both_ask (h : Both w0 w g r T) (c q : Int) : Calls Try.prog 16 #[.pointer (some ⟨g, 0, none⟩), .int .i64 c, .int .i64 q] w fun e w' => e = .returned (.tuple #[.int .i64 (askT T c q).1, (askT T c q).2.val]) ∧ Both w0 w' g r T ∧ Below w.heap.size w w' :=
  (ask_any c q w h.1.at_).mono fun _ _ ⟨he, hb⟩ => ⟨he, h.later hb, hb⟩
theorem both_refask (h : Both w0 w g r T) (c q : Int) : Calls Try.prog 17 #[.pointer (some ⟨r, 0, none⟩), .int .i64 c, .int .i64 q] w fun e w' => e = .returned (.tuple #[.int .i64 (askT T c q).1, (askT T c q).2.val]) ∧ Both w0 w' g r T ∧ Below w.heap.size w w' :=
  (refask_any c q w h.2.1).mono fun _ _ ⟨he, hb⟩ => ⟨he, h.later hb, hb⟩
theorem both_last (h : Both w0 w g r T) (c : Int) : Calls Try.prog 18 #[.pointer (some ⟨g, 0, none⟩), .int .i64 c] w fun e w' => e = .returned (.int .i64 (T.of c).last) ∧ Both w0 w' g r T ∧ Below w.heap.size w w' :=
  (last_any c w (of_any c w h.1.at_)).mono fun _ _ ⟨he, hb⟩ => ⟨he, h.later hb, hb⟩
theorem both_done (h : Both w0 w g r T) (c : Int) : Calls Try.prog 20 #[.pointer (some ⟨g, 0, none⟩), .int .i64 c] w fun e w' => e = .returned (.int .i64 (T.of c).done) ∧ Both w0 w' g r T ∧ Below w.heap.size w w' :=
  (done_any c w (of_any c w h.1.at_)).mono fun _ _ ⟨he, hb⟩ => ⟨he, h.later hb, hb⟩
theorem both_reflast (h : Both w0 w g r T) (c : Int) : Calls Try.prog 19 #[.pointer (some ⟨r, 0, none⟩), .int .i64 c] w fun e w' => e = .returned (.int .i64 (T.of c).last) ∧ Both w0 w' g r T ∧ Below w.heap.size w w' :=
  (reflast_any c w h.2.1).mono fun _ _ ⟨he, hb⟩ => ⟨he, h.later hb, hb⟩
theorem both_refdone (h : Both w0 w g r T) (c : Int) : Calls Try.prog 21 #[.pointer (some ⟨r, 0, none⟩), .int .i64 c] w fun e w' => e = .returned (.int .i64 (T.of c).done) ∧ Both w0 w' g r T ∧ w = w' :=
  (refdone_any c w h.2.1).mono fun _ _ ⟨he, hb⟩ => ⟨he, hb ▸ h, hb⟩
end
end Go.Proofs.Ytmakibpbodfchaa
