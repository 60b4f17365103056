/- The document's log in memory: a block of its list and its number; lists that are made anew, by append to an empty one. -/
import Derived.Test.YtehcaigkohkbnaaStayK
import Derived.Test.YtehcaigkohkbnaaLg
namespace Go.Proofs.Ytehcaigkohkbnaa
open Go.RowKit

/-- The block r holds the document's log of L, the first c committed; its lists lie where F holds. -/
structure RLog (F : Nat → Prop) (w : World) (r : Nat) (L : List OpD) (c : Nat) (v : Value) (ps : List (OpD × Value)) : Prop where
  says : ps.map (·.1) = L
  cell : w.heap[r]? = some (.cells #[v, .int .i64 (c : Int)] 69 (0, 0))
  ops : OpsIn F w v ps
  off : ¬ F r
  new : ∀ i, w.heap.size ≤ i → F i
  len : L.length ≤ 2000
  com : c ≤ L.length
def RAt (F : Nat → Prop) (w : World) (r : Nat) (L : List OpD) (c : Nat) : Prop := ∃ v ps, RLog F w r L c v ps
section
variable {F G : Nat → Prop} {w w' w2 : World} {r : Nat} {L M : List OpD} {c d : Nat} {v v' : Value} {ps qs : List (OpD × Value)}
theorem RLog.lt (h : RLog F w r L c v ps) : r < w.heap.size := lt_of_block h.cell
theorem RLog.later (h : RLog F w r L c v ps) (hb : Below w.heap.size w w') : RLog F w' r L c v ps :=
  ⟨h.says, (hb.block r h.lt).trans h.cell, h.ops.kept (Kept.of_below hb _), h.off, fun i hi => h.new i (Nat.le_trans hb.size hi), h.len, h.com⟩
theorem RLog.shape (h : RLog F w r L c v ps) : ∃ A cp, v = .slice A L.length cp ∧ L.length ≤ cp ∧ cp ≤ maxLen := by
  obtain ⟨A, cp, hv, h1, h2, _⟩ := FlatAt.shape h.ops.1
  rw [← h.says, List.length_map]
  exact ⟨A, cp, hv, h1, h2⟩
theorem RLog.cells (h : RLog F w r L c v ps) : w.cell? ⟨r, 0, none⟩ = some v ∧ w.cell? ⟨r, 1, none⟩ = some (.int .i64 (c : Int)) ∧ w.frozen? ⟨r, 0, none⟩ = false ∧ w.frozen? ⟨r, 1, none⟩ = false :=
  ⟨cell_of_row w r 0 _ _ _ h.cell, cell_of_row w r 1 _ _ _ h.cell, frozen_of_row w r 0 _ _ h.cell, frozen_of_row w r 1 _ _ h.cell⟩
theorem RLog.at_ (h : RLog F w r L c v ps) : OpsAt F w v L := ⟨ps, h.says, h.ops⟩
theorem RAt.later (h : RAt F w r L c) (hb : Below w.heap.size w w') : RAt F w' r L c := by
  obtain ⟨v, ps, h⟩ := h
  exact ⟨v, ps, h.later hb⟩
theorem RAt.len (h : RAt F w r L c) : L.length ≤ 2000 := h.elim fun _ h => h.elim fun _ h => h.len
theorem RAt.com (h : RAt F w r L c) : c ≤ L.length := h.elim fun _ h => h.elim fun _ h => h.com
/-- A row of operations of the call's own, where F holds. -/
theorem own_ops {B : Nat} (ho : w'.ownsRow B 33 10 v' qs.length (opcells qs)) (hB : ∀ i, B ≤ i → F i) (hs : ∀ p ∈ qs, StepsAt F w' p.2 p.1.steps) : OpsIn F w' v' qs :=
  ⟨(FlatAt.of_own ho (ops_one fun p hp => FlatAt.oneCell (hs p hp))).mono fun i _ hi => hB i hi, hs⟩
/-- The list is another one. -/
theorem RLog.put (h : RLog F w r L c v ps) (hb : Below w.heap.size w w2) (ho : OpsIn F w2 v' qs) (hl : qs.length ≤ 2000) (hc : c ≤ qs.length) :
    RLog F (w2.setCell ⟨r, 0, none⟩ v') r (qs.map (·.1)) c v' qs ∧ w.grownBy (w2.setCell ⟨r, 0, none⟩ v') (some r) := by
  have hg : w2.grownBy (w2.setCell ⟨r, 0, none⟩ v') (some r) := grown_set w2 r 0 v'
  have h2 := (h.later hb).cell
  refine ⟨⟨rfl, ?_, ho.kept (Kept.of_grown hg fun g e hf => h.off (by rw [Option.some.inj e]; exact hf)), h.off, fun i hi => h.new i (Nat.le_trans hb.size (Nat.le_trans hg.size hi)), by simpa using hl, by simpa using hc⟩, (grown_later hb _).trans hg⟩
  exact heap_setCell_same w2 r 0 _ _ v' h2
/-- The number is another one. -/
theorem RLog.count (h : RLog F w r L c v ps) (hb : Below w.heap.size w w2) (hd : d ≤ L.length) :
    RLog F (w2.setCell ⟨r, 1, none⟩ (.int .i64 (d : Int))) r L d v ps ∧ w.grownBy (w2.setCell ⟨r, 1, none⟩ (.int .i64 (d : Int))) (some r) := by
  have hg : w2.grownBy (w2.setCell ⟨r, 1, none⟩ (.int .i64 (d : Int))) (some r) := grown_set w2 r 1 _
  have h2 := h.later hb
  refine ⟨⟨h.says, ?_, h2.ops.kept (Kept.of_grown hg fun g e hf => h.off (by rw [Option.some.inj e]; exact hf)), h.off, fun i hi => h.new i (Nat.le_trans hb.size (Nat.le_trans hg.size hi)), h.len, hd⟩, (grown_later hb _).trans hg⟩
  exact heap_setCell_same w2 r 1 _ _ _ h2.cell
end

section
variable {P : Program} {w : World}
theorem run_buildSlice_zero (t e : TypeId) (i : TypeInfo) (ht : P.underlying t = some (.slice e)) (hi : P.info? e = some i) :
    (Instr.buildSlice t 0 #[]).run P w = .ok (.slice (some ⟨w.heap.size, 0, none⟩) 0 0) (w.alloc (.cells #[] e (0, 0))) := by
  simp [Instr.buildSlice, run_underlying ht, sizeOf, typeInfo, hi, Instr.fill, newRow]
  congr 2
  exact Array.ext (by simp) (fun i h1 _ => by simp at h1)
theorem owns_empty (w : World) (e k B : Nat) (hB : B ≤ w.heap.size) : (w.alloc (.cells #[] e (0, 0))).ownsRow B e k (.slice (some ⟨w.heap.size, 0, none⟩) 0 0) 0 [] :=
  ⟨by simp, .inr ⟨w.heap.size, 0, #[], rfl, hB, heap_alloc_new w _, Nat.le_refl _, by unfold maxLen; omega, by simp, by simp⟩⟩
end
/-- An empty list, at an operation: a new block, nothing else. -/
def Emp (w w' : World) : Prop := w'.ownsRow w.heap.size 33 10 (.slice (some ⟨w.heap.size, 0, none⟩) 0 0) ([] : List (OpD × Value)).length (opcells []) ∧ Below w.heap.size w w' ∧ w'.heap.size = w.heap.size + 1
theorem emp_mk (w : World) : Emp w (w.alloc (.cells #[] 33 (0, 0))) := ⟨owns_empty w _ 10 _ (Nat.le_refl _), (Below.refl _ _).alloc (Nat.le_refl _) _, by simp⟩
section
variable {ops : Array Oper} {rest : List Oper} {op : Oper} {a : Act} {w : World} {Q : Exit → Act → World → Prop}
theorem wpList_empty (hgd : op.guard = none) (ho : op.op = .buildSlice 39 0 #[])
    (h : ∀ w', Emp w w' → wpList Try.prog ops Q rest (a.put op.dst (.slice (some ⟨w.heap.size, 0, none⟩) 0 0)) w') : wpList Try.prog ops Q (op :: rest) a w := by
  obtain ⟨i0, hi, _⟩ := info_parts Try.infoOp
  refine wpList_plain hgd fun K hK => ?_
  have hr := run_buildSlice_zero (P := Try.prog) (w := w) 39 33 i0 Try.underlying39 hi
  unfold Oper.wp
  simp only [execOp, ho, List.map_toArray, List.map_nil, Sem.run_bind, Sem.run_pure, hr, Result.andThen_ok]
  exact hK _ _ (h _ (emp_mk w))
theorem wp_empty {K : Act → World → Prop} (ho : op.op = .buildSlice 39 0 #[])
    (h : ∀ w', Emp w w' → K (a.put op.dst (.slice (some ⟨w.heap.size, 0, none⟩) 0 0)) w') : op.wp Try.prog a w K Q := by
  obtain ⟨i0, hi, _⟩ := info_parts Try.infoOp
  have hr := run_buildSlice_zero (P := Try.prog) (w := w) 39 33 i0 Try.underlying39 hi
  unfold Oper.wp
  simp only [execOp, ho, List.map_toArray, List.map_nil, Sem.run_bind, Sem.run_pure, hr, Result.andThen_ok]
  exact h _ (emp_mk w)
/-- append(row, list...): the row the call's own, made behind w0. -/
theorem wp_append_ops {K : Act → World → Prop} {B : Nat} {F G : Nat → Prop} {v : Value} {qs rs : List (OpD × Value)} {x' : Value} (s x : Operand) (ho : op.op = .call { callee := .builtin .append, args := #[s, x], argTypes := #[39, 39] })
    (hs : a.eval s = v) (hown : w.ownsRow B 33 10 v qs.length (opcells qs)) (hq : ∀ p ∈ qs, StepsAt G w p.2 p.1.steps) (hx : a.eval x = x') (hl : OpsIn F w x' rs) (hroom : qs.length + rs.length ≤ 1000000) (hB : B ≤ w.heap.size)
    (h : ∀ ts A cp w', Hid (ts = qs ++ rs) → w'.ownsRow B 33 10 (.slice A ts.length cp) ts.length (opcells ts) → w.grownBy w' v.ownBlock → ts.length ≤ cp → K (a.put op.dst (.slice A ts.length cp)) w') : op.wp Try.prog a w K Q := by
  obtain ⟨i0, hi, hz0, hz1, hz2⟩ := info_parts Try.infoOp
  obtain ⟨A, c, rfl, h1, h2, _⟩ := FlatAt.shape hl.1
  refine wp_append_gen s x 39 ho B 33 i0 _ 10 96 Try.underlying39 hi hz0 hz1 hz2 (by rfl) (by decide) v qs.length (opcells qs) hs hown F A rs.length c _ hx hl.1 (by unfold maxLen; omega) (by omega) hB ?_
  intro v' w' ho' hg _
  have ho2 : w'.ownsRow B 33 10 v' (qs ++ rs).length (opcells (qs ++ rs)) := by rw [List.length_append, opcells_append]; exact ho'
  obtain ⟨A', c', rfl, h3, _⟩ := FlatAt.shape (FlatAt.of_own ho2 (ops_one fun p hp => by
    rcases List.mem_append.1 hp with hp | hp
    · exact FlatAt.oneCell (hq p hp)
    · exact FlatAt.oneCell (hl.2 p hp)))
  exact h _ A' c' w' rfl ho2 hg h3
theorem wpList_append_ops (hgd : op.guard = none) {B : Nat} {F G : Nat → Prop} {v : Value} {qs rs : List (OpD × Value)} {x' : Value} (s x : Operand) (ho : op.op = .call { callee := .builtin .append, args := #[s, x], argTypes := #[39, 39] })
    (hs : a.eval s = v) (hown : w.ownsRow B 33 10 v qs.length (opcells qs)) (hq : ∀ p ∈ qs, StepsAt G w p.2 p.1.steps) (hx : a.eval x = x') (hl : OpsIn F w x' rs) (hroom : qs.length + rs.length ≤ 1000000) (hB : B ≤ w.heap.size)
    (h : ∀ ts A cp w', Hid (ts = qs ++ rs) → w'.ownsRow B 33 10 (.slice A ts.length cp) ts.length (opcells ts) → w.grownBy w' v.ownBlock → ts.length ≤ cp → wpList Try.prog ops Q rest (a.put op.dst (.slice A ts.length cp)) w') : wpList Try.prog ops Q (op :: rest) a w :=
  wpList_plain hgd fun _ hK => wp_append_ops s x ho hs hown hq hx hl hroom hB (fun ts A cp w' h0 h1 h2 h3 => hK _ _ (h ts A cp w' h0 h1 h2 h3))
end
/-- Behind an append to a row of the call's own nothing that was there has turned. -/
theorem own_grown {w0 w w' : World} {v : Value} {n : Nat} {xs : List Value} (hb : Below w0.heap.size w0 w) (ho : w.ownsRow w0.heap.size 33 10 v n xs) (hg : w.grownBy w' v.ownBlock) : Below w0.heap.size w0 w' :=
  hb.grown hg hb.size fun k hk => (ho.lt k hk).1
end Go.Proofs.Ytehcaigkohkbnaa
