/- What is remembered of a client, and replies, in blocks of their own: read and written whole, at an operation. -/
import Derived.Test.YtmakibpbodfchaaEqM
import Derived.Test.YtmakibpbodfchaaTabW
namespace Go.Proofs.Ytmakibpbodfchaa
open Go.RowKit

/-- The block g holds it. -/
def MryAt (w : World) (g : Nat) (m : Mry) : Prop := w.heap[g]? = some (.cells m.cells.toArray 49 (0, 0))
section
variable {w w' : World} {g : Nat} {m z : Mry}
theorem MryAt.lt (h : MryAt w g m) : g < w.heap.size := lt_of_block h
theorem MryAt.later (h : MryAt w g m) (hb : Below w.heap.size w w') : MryAt w' g m := (hb.block g h.lt).trans h
theorem MryAt.other (h : MryAt w g m) {r : Option Nat} (hg : w.grownBy w' r) (hr : some g ≠ r) : MryAt w' g m := (hg.block g h.lt hr).trans h
theorem MryAt.new (w : World) : MryAt (w.alloc (.cells Mry.zero.cells.toArray 49 (0, 0))) w.heap.size .zero := heap_alloc_new w _
theorem MryAt.boxed (w : World) (m : Mry) : MryAt (w.alloc (.cells m.cells.toArray 49 (0, 0))) w.heap.size m := heap_alloc_new w _
theorem MryAt.cell0 (h : MryAt w g m) : w.cell? ⟨g, 0, none⟩ = some (.int .i64 m.last) := by
  rw [cell_of_row w g 0 _ _ _ h]
  rfl
theorem MryAt.cell1 (h : MryAt w g m) : w.cell? ⟨g, 1, none⟩ = some (.int .i64 m.done) := by
  rw [cell_of_row w g 1 _ _ _ h]
  rfl
theorem MryAt.cell2 (h : MryAt w g m) : w.cell? ⟨g, 2, none⟩ = some (.int .i64 m.rep.err) := by
  rw [cell_of_row w g 2 _ _ _ h]
  rfl
theorem MryAt.cell3 (h : MryAt w g m) : w.cell? ⟨g, 3, none⟩ = some (.int .i64 m.rep.saga) := by
  rw [cell_of_row w g 3 _ _ _ h]
  rfl
theorem MryAt.cell4 (h : MryAt w g m) : w.cell? ⟨g, 4, none⟩ = some (.int .i64 m.rep.st) := by
  rw [cell_of_row w g 4 _ _ _ h]
  rfl
theorem MryAt.cell5 (h : MryAt w g m) : w.cell? ⟨g, 5, none⟩ = some (.int .i64 m.rep.step) := by
  rw [cell_of_row w g 5 _ _ _ h]
  rfl
end
section
variable {ops : Array Oper} {rest : List Oper} {op : Oper} {a : Act} {w : World} {Q : Exit → Act → World → Prop} {g : Nat} {m z : Mry}
theorem wpList_load_mry (hgd : op.guard = none) (x : Operand) (ho : op.op = .load 49 x) (hx : a.eval x = .pointer (some ⟨g, 0, none⟩)) (hg : MryAt w g m)
    (h : wpList Try.prog ops Q rest (a.put op.dst m.val) w) : wpList Try.prog ops Q (op :: rest) a w :=
  wpList_load_box hgd 49 x ho g 0 hx 49 _ hg 6 _ Try.underlying49 (by rfl) (by kernel_rfl) m.cells (by rfl) (by rfl) h
theorem exec_load_mry (x : Operand) (ho : op.op = .load 49 x) (hx : a.eval x = .pointer (some ⟨g, 0, none⟩)) (hg : MryAt w g m) :
    (execOp a.eval op).run Try.prog w = .ok (.value m.val) w :=
  exec_load_box 49 x ho g 0 hx 49 _ hg 6 _ Try.underlying49 (by rfl) (by kernel_rfl) m.cells (by rfl) (by rfl)
theorem wpList_store_mry (hgd : op.guard = none) (x y : Operand) (ho : op.op = .store 49 x y) (hx : a.eval x = .pointer (some ⟨g, 0, none⟩)) (hg : MryAt w g z) (hy : a.eval y = m.val)
    (h : ∀ w', MryAt w' g m → w.grownBy w' (some g) → wpList Try.prog ops Q rest (a.put op.dst undef) w') : wpList Try.prog ops Q (op :: rest) a w :=
  wpList_store_box hgd 49 x y ho g 0 m.cells.toArray hx hy 49 _ hg (by kernel_rfl) (by exact Nat.le_of_ble_eq_true rfl) (by exact Mry.one _) (fun w' hb hg' => h w' (by exact hb) hg')
theorem wp_store_mry {K : Act → World → Prop} (x y : Operand) (ho : op.op = .store 49 x y) (hx : a.eval x = .pointer (some ⟨g, 0, none⟩)) (hg : MryAt w g z) (hy : a.eval y = m.val)
    (h : ∀ w', MryAt w' g m → w.grownBy w' (some g) → K (a.put op.dst undef) w') : op.wp Try.prog a w K Q :=
  wp_store_box 49 x y ho g 0 m.cells.toArray hx hy 49 _ hg (by kernel_rfl) (by exact Nat.le_of_ble_eq_true rfl) (by exact Mry.one _) (fun w' hb hg' => h w' (by exact hb) hg')
end

/-- The block g holds it. -/
def RepAt (w : World) (g : Nat) (m : Rep) : Prop := w.heap[g]? = some (.cells m.cells.toArray 29 (0, 0))
section
variable {w w' : World} {g : Nat} {m z : Rep}
theorem RepAt.lt (h : RepAt w g m) : g < w.heap.size := lt_of_block h
theorem RepAt.later (h : RepAt w g m) (hb : Below w.heap.size w w') : RepAt w' g m := (hb.block g h.lt).trans h
theorem RepAt.other (h : RepAt w g m) {r : Option Nat} (hg : w.grownBy w' r) (hr : some g ≠ r) : RepAt w' g m := (hg.block g h.lt hr).trans h
theorem RepAt.new (w : World) : RepAt (w.alloc (.cells Rep.zero.cells.toArray 29 (0, 0))) w.heap.size .zero := heap_alloc_new w _
theorem RepAt.boxed (w : World) (m : Rep) : RepAt (w.alloc (.cells m.cells.toArray 29 (0, 0))) w.heap.size m := heap_alloc_new w _
theorem RepAt.cell0 (h : RepAt w g m) : w.cell? ⟨g, 0, none⟩ = some (.int .i64 m.err) := by
  rw [cell_of_row w g 0 _ _ _ h]
  rfl
theorem RepAt.cell1 (h : RepAt w g m) : w.cell? ⟨g, 1, none⟩ = some (.int .i64 m.saga) := by
  rw [cell_of_row w g 1 _ _ _ h]
  rfl
theorem RepAt.cell2 (h : RepAt w g m) : w.cell? ⟨g, 2, none⟩ = some (.int .i64 m.st) := by
  rw [cell_of_row w g 2 _ _ _ h]
  rfl
theorem RepAt.cell3 (h : RepAt w g m) : w.cell? ⟨g, 3, none⟩ = some (.int .i64 m.step) := by
  rw [cell_of_row w g 3 _ _ _ h]
  rfl
end
section
variable {ops : Array Oper} {rest : List Oper} {op : Oper} {a : Act} {w : World} {Q : Exit → Act → World → Prop} {g : Nat} {m z : Rep}
theorem wpList_load_rep (hgd : op.guard = none) (x : Operand) (ho : op.op = .load 29 x) (hx : a.eval x = .pointer (some ⟨g, 0, none⟩)) (hg : RepAt w g m)
    (h : wpList Try.prog ops Q rest (a.put op.dst m.val) w) : wpList Try.prog ops Q (op :: rest) a w :=
  wpList_load_box hgd 29 x ho g 0 hx 29 _ hg 4 _ Try.underlying29 (by rfl) (by kernel_rfl) m.cells (by rfl) (by rfl) h
theorem exec_load_rep (x : Operand) (ho : op.op = .load 29 x) (hx : a.eval x = .pointer (some ⟨g, 0, none⟩)) (hg : RepAt w g m) :
    (execOp a.eval op).run Try.prog w = .ok (.value m.val) w :=
  exec_load_box 29 x ho g 0 hx 29 _ hg 4 _ Try.underlying29 (by rfl) (by kernel_rfl) m.cells (by rfl) (by rfl)
theorem wpList_store_rep (hgd : op.guard = none) (x y : Operand) (ho : op.op = .store 29 x y) (hx : a.eval x = .pointer (some ⟨g, 0, none⟩)) (hg : RepAt w g z) (hy : a.eval y = m.val)
    (h : ∀ w', RepAt w' g m → w.grownBy w' (some g) → wpList Try.prog ops Q rest (a.put op.dst undef) w') : wpList Try.prog ops Q (op :: rest) a w :=
  wpList_store_box hgd 29 x y ho g 0 m.cells.toArray hx hy 29 _ hg (by kernel_rfl) (by exact Nat.le_of_ble_eq_true rfl) (by exact Rep.one _) (fun w' hb hg' => h w' (by exact hb) hg')
theorem wp_store_rep {K : Act → World → Prop} (x y : Operand) (ho : op.op = .store 29 x y) (hx : a.eval x = .pointer (some ⟨g, 0, none⟩)) (hg : RepAt w g z) (hy : a.eval y = m.val)
    (h : ∀ w', RepAt w' g m → w.grownBy w' (some g) → K (a.put op.dst undef) w') : op.wp Try.prog a w K Q :=
  wp_store_box 29 x y ho g 0 m.cells.toArray hx hy 29 _ hg (by kernel_rfl) (by exact Nat.le_of_ble_eq_true rfl) (by exact Rep.one _) (fun w' hb hg' => h w' (by exact hb) hg')
end

/- A client's memory, in the table's block: written. -/
section
variable {op : Oper} {a : Act} {w : World} {Q : Exit → Act → World → Prop} {g : Nat} {T : Tab} {m : Mry} {c : Int}
theorem wp_store_tab {K : Act → World → Prop} (x y : Operand) (ho : op.op = .store 49 x y) (hc : isC c = true) (hx : a.eval x = .pointer (some ⟨g, offC c, none⟩)) (hg : TabAt w g T) (hy : a.eval y = m.val)
    (h : ∀ w', TabAt w' g (T.put c m) → w.grownBy w' (some g) → K (a.put op.dst undef) w') : op.wp Try.prog a w K Q :=
  wp_store_box 49 x y ho g (offC c) m.cells.toArray hx hy 52 _ hg (by kernel_rfl) (by
    rcases isC_cases hc with rfl | rfl | rfl | rfl <;> exact Nat.le_of_ble_eq_true rfl) (by exact Mry.one _) (fun w' hb hg' => h w' (by
    rw [show m.cells.toArray.toList = m.cells from rfl, tab_put T hc m] at hb
    exact hb) hg')
end
end Go.Proofs.Ytmakibpbodfchaa
