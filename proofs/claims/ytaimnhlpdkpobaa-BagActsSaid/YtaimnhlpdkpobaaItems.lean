/- The document's bag in memory: a block of its counts and its list of items; lists of items that are made anew. -/
import Derived.Test.YtaimnhlpdkpobaaFind
import Derived.Test.YtaimnhlpdkpobaaAppendG
namespace Go.Proofs.Ytaimnhlpdkpobaa
open Go.RowKit

/-- An item: its number, its message, the message's lists. -/
structure ItemV where
  id : Int
  m : MsgD
  s : Value
  o : Value
  i : Value
def ItemV.cells (p : ItemV) : List Value := .int .i64 p.id :: p.m.cells p.s p.o p.i
def ItemV.key (p : ItemV) : Int × MsgD := (p.id, p.m)
theorem ItemV.len (p : ItemV) : p.cells.length = 35 := rfl
def icells (ps : List ItemV) : List Value := ps.flatMap ItemV.cells
theorem icells_append (a b : List ItemV) : icells (a ++ b) = icells a ++ icells b := by simp [icells]
/-- The slice v holds these items. -/
def ItemsIn (F : Nat → Prop) (w : World) (v : Value) (ps : List ItemV) : Prop := FlatAt F w 35 v ps.length (icells ps) ∧ ∀ p ∈ ps, Lists F w p.m p.s p.o p.i
section
variable {F G : Nat → Prop} {w w' : World} {v : Value} {ps : List ItemV}
theorem ItemsIn.kept (h : ItemsIn F w v ps) (hk : Kept F w w') : ItemsIn F w' v ps := ⟨h.1.kept hk, fun p hp => (h.2 p hp).kept hk⟩
theorem ItemsIn.mono (h : ItemsIn F w v ps) (hg : ∀ i, i < w.heap.size → F i → G i) : ItemsIn G w v ps := ⟨h.1.mono hg, fun p hp => (h.2 p hp).mono hg⟩
theorem ItemsIn.nil_ (F : Nat → Prop) (w : World) : ItemsIn F w (.slice none 0 0) [] := ⟨FlatAt.nil_ F w 35, by simp⟩
theorem ItemsIn.at_ (h : ItemsIn F w v ps) {k : Nat} (hk : k < ps.length) : ∃ p b off c, ps[k]? = some p ∧ v = .slice (some ⟨b, off, none⟩) ps.length c ∧ ps.length ≤ c ∧ F b ∧ b < w.heap.size ∧ w.rangeAt b (off + k * 35) p.cells ∧ Lists F w p.m p.s p.o p.i := by
  obtain ⟨b, off, c, hv, hc, hf, hb, hr⟩ := FlatAt.elem h.1 hk
  have hs : ps[k]? = some ps[k] := List.getElem?_eq_getElem hk
  refine ⟨ps[k], b, off, c, hs, hv, hc, hf, hb, ?_, h.2 _ (List.getElem_mem hk)⟩
  have e : icells ps = ps.flatMap ItemV.cells := rfl
  rw [e] at hr
  rwa [flat_get ItemV.cells 35 ps k _ (fun y _ => y.len) hs] at hr
theorem item_one (p : ItemV) (h1 : p.s.oneCell' = true) (h2 : p.o.oneCell' = true) (h3 : p.i.oneCell' = true) : ∀ u ∈ p.cells, u.oneCell' = true := by
  intro u hu
  rcases List.mem_cons.1 hu with rfl | hu
  · rfl
  · exact p.m.one h1 h2 h3 u hu
theorem items_one (h : ∀ p ∈ ps, Lists F w p.m p.s p.o p.i) : ∀ u ∈ icells ps, u.oneCell' = true := by
  intro u hu
  obtain ⟨p, hp, hu⟩ := List.mem_flatMap.1 hu
  exact item_one p (h p hp).cell.1 (h p hp).cell.2.1 (h p hp).cell.2.2 u hu
/-- The first k items, in the same room. -/
theorem ItemsIn.first {A : Option Addr} {n c : Nat} (h : ItemsIn F w (.slice A n c) ps) {k : Nat} (hk : k ≤ ps.length) : ItemsIn F w (.slice A k c) (ps.take k) := by
  obtain ⟨⟨h1, h2, A', c', hv, h3, h4, h5, h6⟩, hs⟩ := h
  obtain ⟨rfl, rfl, rfl⟩ : A = A' ∧ n = ps.length ∧ c = c' := by injection hv with e1 e2 e3; exact ⟨e1, e2, e3⟩
  have hl : (ps.take k).length = k := by simp; omega
  have hf : icells (ps.take k) = (icells ps).take (k * 35) := flat_take ItemV.cells 35 ps k (fun p _ => p.len)
  refine ⟨⟨?_, ?_, A, c, by rw [hl], by omega, h4, h5, fun h0 => ?_⟩, fun p hp => hs p (List.mem_of_mem_take hp)⟩
  · exact flat_len ItemV.cells 35 _ fun p _ => p.len
  · intro u hu
    rw [hf] at hu
    exact h2 u (List.mem_of_mem_take hu)
  · obtain ⟨b, off, hA, hF, hb, hr⟩ := h6 (by omega)
    refine ⟨b, off, hA, hF, hb, fun j u hj => hr j u ?_⟩
    rw [hf] at hj
    rw [List.getElem?_take_of_lt (by have := (List.getElem?_eq_some_iff.1 hj).1; rw [List.length_take] at this; omega)] at hj
    exact hj
theorem ItemsIn.tail {A : Option Addr} {n c : Nat} (h : ItemsIn F w (.slice A n c) ps) {lo : Nat} (h1 : lo ≤ ps.length) : ItemsIn F w (sliced A lo n c 35) (ps.drop lo) := by
  have e : ps.length = n := by
    obtain ⟨_, _, hv, _⟩ := FlatAt.shape h.1
    injection hv with _ e2 _
    exact e2.symm
  refine ⟨?_, fun p hp => h.2 p (List.mem_of_mem_drop hp)⟩
  have h2 := FlatAt.tail (e ▸ h.1 : FlatAt F w 35 (.slice A n c) n _) (lo := lo) (by omega)
  have hf : icells (ps.drop lo) = (icells ps).drop (lo * 35) := flat_drop ItemV.cells 35 _ _ (fun p _ => p.len)
  rw [hf, show (ps.drop lo).length = n - lo from by simp; omega]
  exact h2
end

def zitem : Array Value := (⟨0, .zero, .slice none 0 0, .slice none 0 0, .slice none 0 0⟩ : ItemV).cells.toArray
theorem put_item (p : ItemV) : putAt zitem 0 p.cells = p.cells.toArray := by simp [zitem, ItemV.cells, putAt, MsgD.cells]
theorem Try.infoItem : (Try.prog.info? 81).map (fun i => (i.zero, i.size, i.bytes)) = some (some (.agg zitem), 35, 312) := by kernel_rfl

section
variable {P : Program} {w : World}
theorem run_buildSlice_zero (t e : TypeId) (i : TypeInfo) (ht : P.underlying t = some (.slice e)) (hi : P.info? e = some i) :
    (Instr.buildSlice t 0 #[]).run P w = .ok (.slice (some ⟨w.heap.size, 0, none⟩) 0 0) (w.alloc (.cells #[] e (0, 0))) := by
  simp [Instr.buildSlice, run_underlying ht, sizeOf, typeInfo, hi, Instr.fill, newRow]
  congr 2
  exact Array.ext (by simp) (fun i h1 _ => by simp at h1)
theorem owns_empty (w : World) (e k B : Nat) (hB : B ≤ w.heap.size) : (w.alloc (.cells #[] e (0, 0))).ownsRow B e k (.slice (some ⟨w.heap.size, 0, none⟩) 0 0) 0 [] :=
  ⟨by simp, .inr ⟨w.heap.size, 0, #[], rfl, hB, heap_alloc_new w _, Nat.le_refl _, by unfold maxLen; omega, by simp, by simp⟩⟩
end
/-- A row of items of the call's own. -/
abbrev IRow (w : World) (B : Nat) (v : Value) (ps : List ItemV) : Prop := w.ownsRow B 81 35 v ps.length (icells ps)
def Emp (w w' : World) : Prop := IRow w' w.heap.size (.slice (some ⟨w.heap.size, 0, none⟩) 0 0) [] ∧ Below w.heap.size w w' ∧ w'.heap.size = w.heap.size + 1
theorem emp_mk (w : World) : Emp w (w.alloc (.cells #[] 81 (0, 0))) := ⟨owns_empty w _ 35 _ (Nat.le_refl _), (Below.refl _ _).alloc (Nat.le_refl _) _, by simp⟩
section
variable {ops : Array Oper} {rest : List Oper} {op : Oper} {a : Act} {w w' : World} {Q : Exit → Act → World → Prop} {B : Nat} {v : Value} {F : Nat → Prop} {qs : List ItemV}
theorem wp_empty {K : Act → World → Prop} (ho : op.op = .buildSlice 77 0 #[])
    (h : ∀ w', Emp w w' → K (a.put op.dst (.slice (some ⟨w.heap.size, 0, none⟩) 0 0)) w') : op.wp Try.prog a w K Q := by
  obtain ⟨i0, hi, _⟩ := info_parts Try.infoItem
  have hr := run_buildSlice_zero (P := Try.prog) (w := w) 77 81 i0 Try.underlying77 hi
  unfold Oper.wp
  simp only [execOp, ho, List.map_toArray, List.map_nil, Sem.run_bind, Sem.run_pure, hr, Result.andThen_ok]
  exact h _ (emp_mk w)
theorem own_items (ho : IRow w' B v qs) (hB : ∀ i, B ≤ i → F i) (hs : ∀ p ∈ qs, Lists F w' p.m p.s p.o p.i) : ItemsIn F w' v qs :=
  ⟨(FlatAt.of_own ho (items_one hs)).mono fun i _ hi => hB i hi, hs⟩
/-- append(row, list...): the row the call's own, made behind w0. -/
theorem wp_append_items {K : Act → World → Prop} {F G : Nat → Prop} {rs : List ItemV} {x' : Value} (s x : Operand) (ho : op.op = .call { callee := .builtin .append, args := #[s, x], argTypes := #[77, 77] })
    (hs : a.eval s = v) (hown : IRow w B v qs) (hq : ∀ p ∈ qs, Lists G w p.m p.s p.o p.i) (hx : a.eval x = x') (hl : ItemsIn F w x' rs) (hroom : qs.length + rs.length ≤ 1000000) (hB : B ≤ w.heap.size)
    (h : ∀ ts A cp w', Hid (ts = qs ++ rs) → IRow w' B (.slice A ts.length cp) ts → w.grownBy w' v.ownBlock → ts.length ≤ cp → K (a.put op.dst (.slice A ts.length cp)) w') : op.wp Try.prog a w K Q := by
  obtain ⟨i0, hi, hz0, hz1, hz2⟩ := info_parts Try.infoItem
  obtain ⟨A, c, rfl, h1, h2, _⟩ := FlatAt.shape hl.1
  refine wp_append_gen s x 77 ho B 81 i0 _ 35 312 Try.underlying77 hi hz0 hz1 hz2 (by rfl) (by decide) v qs.length (icells qs) hs hown F A rs.length c _ hx hl.1 (by unfold maxLen; omega) (by omega) hB ?_
  intro v' w' ho' hg _
  have ho2 : IRow w' B v' (qs ++ rs) := by
    show w'.ownsRow _ _ _ _ (qs ++ rs).length (icells (qs ++ rs))
    rw [List.length_append, icells_append]
    exact ho'
  obtain ⟨A', c', rfl, h3, _⟩ := FlatAt.shape (FlatAt.of_own ho2 (fun u hu => by
    obtain ⟨p, hp, hu⟩ := List.mem_flatMap.1 hu
    rcases List.mem_append.1 hp with hp | hp
    · exact item_one p (hq p hp).cell.1 (hq p hp).cell.2.1 (hq p hp).cell.2.2 u hu
    · exact item_one p (hl.2 p hp).cell.1 (hl.2 p hp).cell.2.1 (hl.2 p hp).cell.2.2 u hu))
  exact h _ A' c' w' rfl ho2 hg h3
/-- Behind an append to a row of the call's own nothing that was there has turned. -/
theorem own_grown {w0 : World} {n : Nat} {xs : List Value} {e k : Nat} (hb : Below w0.heap.size w0 w) (ho : w.ownsRow w0.heap.size e k v n xs) (hg : w.grownBy w' v.ownBlock) : Below w0.heap.size w0 w' :=
  hb.grown hg hb.size fun k hk => (ho.lt k hk).1
theorem irow_kept (h : IRow w B v qs) (hk : ∀ q, v.ownBlock = some q → w'.heap[q]? = w.heap[q]?) : IRow w' B v qs := by
  refine ⟨h.1, ?_⟩
  rcases h.2 with h0 | ⟨g, cap, cur, hv, h1, h2, h3⟩
  · exact .inl h0
  · exact .inr ⟨g, cap, cur, hv, h1, (hk g (by rw [hv]; rfl)).trans h2, h3⟩
theorem irow_in (h : IRow w B v qs) : ∀ q, v.ownBlock = some q → q < w.heap.size := by
  rcases h.2 with ⟨h0, _⟩ | ⟨g, cap, cur, hv, h1, h2, h3⟩
  · intro q hq
    rw [h0] at hq
    cases hq
  · intro q hq
    rw [hv] at hq
    have e := Option.some.inj (show some g = some q from hq)
    rw [← e]
    exact lt_of_block h2
theorem irow_base {B' : Nat} (h : IRow w B v qs) (hb : B' ≤ B) : IRow w B' v qs := by
  refine ⟨h.1, ?_⟩
  rcases h.2 with h0 | ⟨g, cap, cur, hv, h1, h2⟩
  · exact .inl h0
  · exact .inr ⟨g, cap, cur, hv, Nat.le_trans hb h1, h2⟩
end

/-- The block r holds the document's bag of Q; its lists lie where F holds. -/
structure RBagAt (F : Nat → Prop) (w : World) (r : Nat) (most : Int) (last : Nat) (Q : List (Int × MsgD)) (v : Value) (ps : List ItemV) : Prop where
  says : ps.map ItemV.key = Q
  cell : w.heap[r]? = some (.cells #[.int .i64 most, .int .i64 (last : Int), v] 79 (0, 0))
  items : ItemsIn F w v ps
  off : ¬ F r
  new : ∀ i, w.heap.size ≤ i → F i
  len : Q.length ≤ 1000
def RB (F : Nat → Prop) (w : World) (r : Nat) (most : Int) (last : Nat) (Q : List (Int × MsgD)) : Prop := ∃ v ps, RBagAt F w r most last Q v ps
section
variable {F G : Nat → Prop} {w w' w2 : World} {r : Nat} {most : Int} {last : Nat} {Q : List (Int × MsgD)} {v v' : Value} {ps qs : List ItemV}
theorem RBagAt.lt (h : RBagAt F w r most last Q v ps) : r < w.heap.size := lt_of_block h.cell
theorem RBagAt.later (h : RBagAt F w r most last Q v ps) (hb : Below w.heap.size w w') : RBagAt F w' r most last Q v ps :=
  ⟨h.says, (hb.block r h.lt).trans h.cell, h.items.kept (Kept.of_below hb _), h.off, fun i hi => h.new i (Nat.le_trans hb.size hi), h.len⟩
theorem RBagAt.kept (h : RBagAt F w r most last Q v ps) (hk : Kept (fun i => i = r ∨ F i) w w') : RBagAt F w' r most last Q v ps :=
  ⟨h.says, (hk.2 r h.lt (.inl rfl)).trans h.cell, h.items.kept (hk.mono fun _ _ hi => .inr hi), h.off, fun i hi => h.new i (Nat.le_trans hk.1 hi), h.len⟩
theorem RBagAt.plen (h : RBagAt F w r most last Q v ps) : ps.length = Q.length := by rw [← h.says, List.length_map]
theorem RBagAt.shape (h : RBagAt F w r most last Q v ps) : ∃ A cp, v = .slice A Q.length cp ∧ Q.length ≤ cp ∧ cp ≤ maxLen := by
  obtain ⟨A, cp, hv, h1, h2, _⟩ := FlatAt.shape h.items.1
  rw [← h.plen]
  exact ⟨A, cp, hv, h1, h2⟩
theorem RBagAt.cells (h : RBagAt F w r most last Q v ps) : w.cell? ⟨r, 0, none⟩ = some (.int .i64 most) ∧ w.cell? ⟨r, 1, none⟩ = some (.int .i64 (last : Int)) ∧ w.cell? ⟨r, 2, none⟩ = some v ∧ w.frozen? ⟨r, 1, none⟩ = false ∧ w.frozen? ⟨r, 2, none⟩ = false :=
  ⟨cell_of_row w r 0 _ _ _ h.cell, cell_of_row w r 1 _ _ _ h.cell, cell_of_row w r 2 _ _ _ h.cell, frozen_of_row w r 1 _ _ h.cell, frozen_of_row w r 2 _ _ h.cell⟩
theorem RB.later (h : RB F w r most last Q) (hb : Below w.heap.size w w') : RB F w' r most last Q := by
  obtain ⟨v, ps, h⟩ := h
  exact ⟨v, ps, h.later hb⟩
theorem RB.kept (h : RB F w r most last Q) (hk : Kept (fun i => i = r ∨ F i) w w') : RB F w' r most last Q := by
  obtain ⟨v, ps, h⟩ := h
  exact ⟨v, ps, h.kept hk⟩
theorem RB.lt (h : RB F w r most last Q) : r < w.heap.size := h.elim fun _ h => h.elim fun _ h => h.lt
theorem RB.len (h : RB F w r most last Q) : Q.length ≤ 1000 := h.elim fun _ h => h.elim fun _ h => h.len
/-- The list is another one. -/
theorem RBagAt.put (h : RBagAt F w r most last Q v ps) (hb : Below w.heap.size w w2) (ho : ItemsIn F w2 v' qs) (hl : qs.length ≤ 1000) :
    RBagAt F (w2.setCell ⟨r, 2, none⟩ v') r most last (qs.map ItemV.key) v' qs ∧ w.grownBy (w2.setCell ⟨r, 2, none⟩ v') (some r) := by
  have hg : w2.grownBy (w2.setCell ⟨r, 2, none⟩ v') (some r) := grown_set w2 r 2 v'
  have h2 := (h.later hb).cell
  refine ⟨⟨rfl, ?_, ho.kept (Kept.of_grown hg fun g e hf => h.off (by rw [Option.some.inj e]; exact hf)), h.off, fun i hi => h.new i (Nat.le_trans hb.size (Nat.le_trans hg.size hi)), by simpa using hl⟩, (grown_later hb _).trans hg⟩
  exact heap_setCell_same w2 r 2 _ _ v' h2
/-- The number given last is another one. -/
theorem RBagAt.count (h : RBagAt F w r most last Q v ps) (hb : Below w.heap.size w w2) (d : Nat) :
    RBagAt F (w2.setCell ⟨r, 1, none⟩ (.int .i64 (d : Int))) r most d Q v ps ∧ w.grownBy (w2.setCell ⟨r, 1, none⟩ (.int .i64 (d : Int))) (some r) := by
  have hg : w2.grownBy (w2.setCell ⟨r, 1, none⟩ (.int .i64 (d : Int))) (some r) := grown_set w2 r 1 _
  have h2 := h.later hb
  refine ⟨⟨h.says, ?_, h2.items.kept (Kept.of_grown hg fun g e hf => h.off (by rw [Option.some.inj e]; exact hf)), h.off, fun i hi => h.new i (Nat.le_trans hb.size (Nat.le_trans hg.size hi)), h.len⟩, (grown_later hb _).trans hg⟩
  exact heap_setCell_same w2 r 1 _ _ _ h2.cell
end
end Go.Proofs.Ytaimnhlpdkpobaa
