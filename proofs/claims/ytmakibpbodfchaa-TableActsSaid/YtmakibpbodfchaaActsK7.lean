/- What the walks over acts of a table share: acts in boxes; the code's table and the document's side by side. -/
import Derived.Test.YtmakibpbodfchaaForgets7
import Derived.Test.YtmakibpbodfchaaAct7
import Derived.Test.YtmakibpbodfchaaOrderS
import Derived.Test.YtmakibpbodfchaaOrderR
namespace Go.Proofs.Ytmakibpbodfchaa
open Go.RowKit

theorem kept_at {B : Nat} {w w' : World} (h : Below B w w') : Kept (· < B) w w' := ⟨h.size, fun i _ hF => h.block i hF⟩
def ActC.zero : ActC := ⟨0, 0, 0, .zero⟩
/-- The block g holds an act. -/
def ActAt (w : World) (g : Nat) (a : ActC) : Prop := w.heap[g]? = some (.cells a.cells.toArray 36 (0, 0))
section
variable {w w' : World} {g : Nat} {a : ActC}
theorem ActAt.lt (h : ActAt w g a) : g < w.heap.size := lt_of_block h
theorem ActAt.later (h : ActAt w g a) (hb : Below w.heap.size w w') : ActAt w' g a := (hb.block g h.lt).trans h
theorem ActAt.other (h : ActAt w g a) {r : Option Nat} (hg : w.grownBy w' r) (hr : some g ≠ r) : ActAt w' g a := (hg.block g h.lt hr).trans h
theorem ActAt.kept (h : ActAt w g a) (hk : Kept (fun i => i = g) w w') : ActAt w' g a := (hk.2 g h.lt rfl).trans h
theorem ActAt.new (w : World) : ActAt (w.alloc (.cells ActC.zero.cells.toArray 36 (0, 0))) w.heap.size .zero := heap_alloc_new w _
theorem ActAt.cell0 (h : ActAt w g a) : w.cell? ⟨g, 0, none⟩ = some (.int .i64 a.kind) := by rw [cell_of_row w g _ _ _ _ h]; rfl
theorem ActAt.cell1 (h : ActAt w g a) : w.cell? ⟨g, 1, none⟩ = some (.int .i64 a.client) := by rw [cell_of_row w g _ _ _ _ h]; rfl
theorem ActAt.cell2 (h : ActAt w g a) : w.cell? ⟨g, 2, none⟩ = some (.int .i64 a.request) := by rw [cell_of_row w g _ _ _ _ h]; rfl
end
theorem put_act (z a : ActC) : putAt z.cells.toArray 0 a.cells = a.cells.toArray := by simp [ActC.cells, putAt]
section
variable {ops : Array Oper} {rest : List Oper} {op : Oper} {b : Act} {w : World} {Q : Exit → Act → World → Prop} {g : Nat} {a z : ActC}
theorem wpList_store_act (hgd : op.guard = none) (x y : Operand) (ho : op.op = .store 36 x y) (hx : b.eval x = .pointer (some ⟨g, 0, none⟩)) (hg : ActAt w g z) (hy : b.eval y = .agg a.cells.toArray)
    (h : ∀ w', ActAt w' g a → w.grownBy w' (some g) → wpList Try.prog ops Q rest (b.put op.dst undef) w') : wpList Try.prog ops Q (op :: rest) b w :=
  wpList_store_box hgd 36 x y ho g 0 a.cells.toArray hx hy 36 _ hg (by kernel_rfl) (by exact Nat.le_of_ble_eq_true rfl) (by exact ActC.one _) (fun w' hb hg' => h w' (by
    rw [show a.cells.toArray.toList = a.cells from rfl, put_act] at hb
    exact hb) hg')
/-- An act's reply, read out of its box. -/
theorem wpList_load_arep (hgd : op.guard = none) (x : Operand) (ho : op.op = .load 29 x) (hx : b.eval x = .pointer (some ⟨g, 3, none⟩)) (hg : ActAt w g a)
    (h : wpList Try.prog ops Q rest (b.put op.dst a.rep.val) w) : wpList Try.prog ops Q (op :: rest) b w :=
  wpList_load_box hgd 29 x ho g 3 hx 36 _ hg 4 _ Try.underlying29 (by rfl) (by kernel_rfl) a.rep.cells (by rfl) (by rfl) h
theorem exec_load_arep (x : Operand) (ho : op.op = .load 29 x) (hx : b.eval x = .pointer (some ⟨g, 3, none⟩)) (hg : ActAt w g a) :
    (execOp b.eval op).run Try.prog w = .ok (.value a.rep.val) w :=
  exec_load_box 29 x ho g 3 hx 36 _ hg 4 _ Try.underlying29 (by rfl) (by kernel_rfl) a.rep.cells (by rfl) (by rfl)
end

theorem pre_kept (F : Nat → Prop) : Pre (fun a b => Kept F a b) := ⟨fun w => Kept.refl F w, fun h k => h.trans k⟩
/-- What one client asks changes nothing of another one's. -/
theorem start_else (T : Tab) {c d : Int} (r : Int) (h : d ≠ c) : (startT T c r).2.of d = T.of d := by
  unfold startT
  split
  · rename_i hk
    split
    · rfl
    · exact put_else T (okC_and hk).1 h _
  · rfl
theorem finish_else (T : Tab) {c d : Int} (r : Int) (x : Rep) (h : d ≠ c) : (finishT T c r x).2.of d = T.of d := by
  unfold finishT
  split
  · rename_i hk
    split
    · rfl
    · split
      · rfl
      · exact put_else T (okC_and hk).1 h _
  · rfl
theorem ask_of {T T' : Tab} {c : Int} (h : T'.of c = T.of c) (r : Int) : askT T' c r = askT T c r := by
  unfold askT
  rw [h]
end Go.Proofs.Ytmakibpbodfchaa
