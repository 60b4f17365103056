/- The document's Copy: a message, its lists in new memory. -/
import Derived.Test.YtaimnhlpdkpobaaRefCopyOp
import Derived.Test.YtaimnhlpdkpobaaMsgFree
import Derived.Test.YtaimnhlpdkpobaaLitW
namespace Go.Proofs.Ytaimnhlpdkpobaa
open Go.RowKit

theorem Try.infoIntR : (Try.prog.info? 3).map (fun i => (i.zero, i.size, i.bytes)) = some (some (.int .i64 0), 1, 8) := by kernel_rfl
section
variable {P : Program} {w : World}
theorem wpList_append_flat_at {ops : Array Oper} {rest : List Oper} {o : Oper} {a : Act} {Q : Exit → Act → World → Prop} (hgd : o.guard = none) (s x : Operand) (t : TypeId)
    (ho : o.op = .call { callee := .builtin .append, args := #[s, x], argTypes := #[t, t] })
    (base : Nat) (e : TypeId) (i : TypeInfo) (z : Value) (k bytes : Nat) (ht : P.underlying t = some (.slice e)) (hi : P.info? e = some i) (hz : i.zero = some z)
    (hsize : i.size = k) (hby : i.bytes = bytes) (hzs : z.cells.size = k) (hk : 0 < k)
    (v : Value) (n : Nat) (xs : List Value) (hs : a.eval s = v) (hown : w.ownsRow base e k v n xs)
    (g c m : Nat) (ys : List Value) (hx : a.eval x = .slice (some ⟨g, 0, none⟩) m c) (F : Nat → Prop) (hl : FlatAt F w k (.slice (some ⟨g, 0, none⟩) m c) m ys) (hm : 0 < m) (hroom : n + m ≤ maxLen) (hbytes : (n + m) * bytes ≤ 140737488355328) (hbase : base ≤ w.heap.size)
    (h : ∀ v' w', w'.ownsRow base e k v' (n + m) (xs ++ ys) → w.grownBy w' v.ownBlock → (v'.ownBlock = v.ownBlock ∨ v'.ownBlock = some w.heap.size) → wpList P ops Q rest (a.put o.dst v') w') : wpList P ops Q (o :: rest) a w :=
  wpList_plain hgd fun _ hK => wp_append_flat s x t ho base e i z k bytes ht hi hz hsize hby hzs hk v n xs hs hown g c m ys hx F hl hm hroom hbytes hbase (fun v' w' h1 h2 h3 => hK _ _ (h v' w' h1 h2 h3))
end

theorem incs_stored {w : World} {g : Nat} (m : MsgD) (s o i v : Value) (h : w.heap[g]? = some (.cells (m.cells s o i).toArray 42 (0, 0))) : (w.setCell ⟨g, 33, none⟩ v).heap[g]? = some (.cells (m.cells s o v).toArray 42 (0, 0)) := by
  rw [← put_incs m s o i]
  exact heap_setCell_same w g 33 _ _ _ h
theorem ops_stored {w : World} {g : Nat} (m : MsgD) (s o i v : Value) (h : w.heap[g]? = some (.cells (m.cells s o i).toArray 42 (0, 0))) : (w.setCell ⟨g, 32, none⟩ v).heap[g]? = some (.cells (m.cells s v i).toArray 42 (0, 0)) := by
  rw [← put_ops m s o i]
  exact heap_setCell_same w g 32 _ _ _ h
/-- A row of operations that a loop builds, their steps in new memory. -/
structure RowRel (w wr : World) (v : Value) (qs : List (OpD × Value)) : Prop where
  own : wr.ownsRow w.heap.size 33 10 v qs.length (opcells qs)
  new : ∀ p ∈ qs, StepsAt (fun b => w.heap.size ≤ b ∧ some b ≠ v.ownBlock) wr p.2 p.1.steps ∧ Free (fun b => w.heap.size ≤ b ∧ some b ≠ v.ownBlock) wr p.2
  below : Below w.heap.size w wr
section
variable {w wr w2 w5 : World} {v v5 : Value} {qs : List (OpD × Value)}
theorem RowRel.start (h : Below w.heap.size w wr) : RowRel w wr (.slice none 0 0) [] := ⟨World.ownsRow_nil _ _ _ _, fun _ hp => absurd hp (List.not_mem_nil), h⟩
theorem RowRel.later (h : RowRel w wr v qs) (hb : Below wr.heap.size wr w2) : RowRel w w2 v qs :=
  ⟨h.own.kept (row := none) ⟨hb.os, hb.tape, hb.output, hb.size, fun i hi _ => hb.block i hi⟩ (by
      cases hA : v.ownBlock with
      | none => exact .inl rfl
      | some q => exact .inr (by simp)), fun p hp => ⟨(h.new p hp).1.kept (Kept.of_below hb _), (h.new p hp).2.kept (Kept.of_below hb _)⟩, h.below.trans (hb.mono h.below.size)⟩
theorem RowRel.next (h : RowRel w wr v qs) (x : OpD) (s2 : Value) (hs : StepsAt (fun b => w.heap.size ≤ b ∧ some b ≠ v.ownBlock) wr s2 x.steps ∧ Free (fun b => w.heap.size ≤ b ∧ some b ≠ v.ownBlock) wr s2)
    (ho : w5.ownsRow w.heap.size 33 10 v5 (qs.length + 1) (opcells qs ++ x.cells s2)) (hg : wr.grownBy w5 v.ownBlock) (hv : v5.ownBlock = v.ownBlock ∨ v5.ownBlock = some wr.heap.size) : RowRel w w5 v5 (qs ++ [(x, s2)]) := by
  have hK : Kept (fun b => (w.heap.size ≤ b ∧ some b ≠ v.ownBlock) ∧ b < wr.heap.size) wr w5 := Kept.of_grown hg fun g e h => h.1.2 e.symm
  have hF : ∀ i, i < w5.heap.size → (w.heap.size ≤ i ∧ some i ≠ v.ownBlock) ∧ i < wr.heap.size → w.heap.size ≤ i ∧ some i ≠ v5.ownBlock := fun i _ hi => ⟨hi.1.1, fun e => by
    rcases hv with e2 | e2
    · exact hi.1.2 (e.trans e2)
    · have e3 := Option.some.inj (e.trans e2)
      have := hi.2
      omega⟩
  have hk : ∀ (p : OpD × Value), StepsAt (fun b => w.heap.size ≤ b ∧ some b ≠ v.ownBlock) wr p.2 p.1.steps ∧ Free (fun b => w.heap.size ≤ b ∧ some b ≠ v.ownBlock) wr p.2 → StepsAt (fun b => w.heap.size ≤ b ∧ some b ≠ v5.ownBlock) w5 p.2 p.1.steps ∧ Free (fun b => w.heap.size ≤ b ∧ some b ≠ v5.ownBlock) w5 p.2 := fun p hp =>
    ⟨((hp.1.mono (G := fun b => (w.heap.size ≤ b ∧ some b ≠ v.ownBlock) ∧ b < wr.heap.size) fun i hi h => ⟨h, hi⟩).kept hK).mono hF, ((hp.2.mono (G := fun b => (w.heap.size ≤ b ∧ some b ≠ v.ownBlock) ∧ b < wr.heap.size) fun i hi h => ⟨h, hi⟩).kept hK).mono hF⟩
  refine ⟨?_, fun p hp => ?_, h.below.trans ((Below.refl _ _).grown hg h.below.size fun k hk => (h.own.lt k hk).1)⟩
  · rw [List.length_append, show opcells (qs ++ [(x, s2)]) = opcells qs ++ x.cells s2 from by simp [opcells]]
    exact ho
  · rcases List.mem_append.1 hp with hp | hp
    · exact hk p (h.new p hp)
    · obtain rfl : p = (x, s2) := by simpa using hp
      exact hk (x, s2) hs
end

set_option maxHeartbeats 2000000 in
set_option maxRecDepth 100000 in
theorem refcopyn_own (F : Nat → Prop) (m : MsgD) (v : Value) (w : World) (h : MsgAt F w v m) (hl : m.op.steps.length ≤ 1000 ∧ m.ops.length ≤ 1000 ∧ ∀ o ∈ m.ops, o.steps.length ≤ 1000) (hi : m.incs.length ≤ 1000000) :
    Calls Try.prog 31 #[v] w (Owned m w) := by
  obtain ⟨i0, hi0, hz0, hz1, hz2⟩ := info_parts Try.infoIntR
  obtain ⟨j0, hj0, hy0, hy1, hy2⟩ := info_parts Try.infoOp
  obtain ⟨s, o, i, rfl, hs, ⟨ps, hps, ho⟩, hin⟩ := h
  have hpn : ps.length = m.ops.length := by rw [← hps]; simp
  have hpl : ∀ p ∈ ps, p.1.steps.length ≤ 1000 := fun p hp => hl.2.2 p.1 (by rw [← hps]; exact List.mem_map_of_mem hp)
  obtain ⟨oA, oc, rfl, hoc, hoc2, _⟩ := FlatAt.shape ho.1
  obtain ⟨iA, ic, rfl, hic, hic2, _⟩ := FlatAt.shape hin
  unfold maxLen at hoc2 hic2
  have C1 := hide (fun w' (hb : Below w.heap.size w w') => refcopyop_own F m.op s w' (hs.kept (Kept.of_below hb F)) (by have := hl.1; omega))
  have hn100 : ps.length ≤ 1000 := by have := hl.2.1; omega
  have H1 : s.oneCell' = true := FlatAt.oneCell hs
  have HS := hide hs
  have HPL := hide hpl
  have HP := hide hps
  have h1 := hide H1
  have HI0 := hide hi0
  have HZ0 := hide hz0
  have HZ1 := hide hz1
  have HZ2 := hide hz2
  have HJ0 := hide hj0
  have HY0 := hide hy0
  have HY1 := hide hy1
  have HY2 := hide hy2
  clear hs hpl hps hpn H1 hl hi0 hz0 hz1 hz2 hj0 hy0 hy1 hy2
  obtain ⟨n, hn⟩ : ∃ n, ps.length = n := ⟨_, rfl⟩
  rw [hn] at hn100 hoc
  have HN := hide hn
  obtain ⟨ni, hni⟩ : ∃ ni, m.incs.length = ni := ⟨_, rfl⟩
  rw [hni] at hi hic
  have HNI := hide hni
  have HIN : Hid (FlatAt F w 1 (.slice iA ni ic) ni (m.incs.map fun x => .int .i64 x)) := by
    show FlatAt _ _ _ _ _ _
    rw [← hni]
    exact hin
  have HO : Hid (FlatAt F w 10 (.slice oA n oc) n (opcells ps)) := by
    show FlatAt _ _ _ _ _ _
    rw [← hn]
    exact ho.1
  have HOS := hide ho.2
  clear hn hni ho hin
  unfold OpD.cells at C1
  unfold MsgD.cells
  go_enter Try.func31, Try.ntmps31
  rw [HN.out, HNI.out]
  go_wp2_with (fail)
  refine (C1.out _ (((Below.refl _ _).alloc (Nat.le_refl _) _).alloc (by simp) _)).mono ?_
  rintro e w1 ⟨s1, rfl, hs1, hb⟩
  have b1 : w1.heap[w.heap.size]? = some (.cells (m.cells s (.slice oA n oc) (.slice iA ni ic)).toArray 42 (0, 0)) := (hb.block w.heap.size (by simp; omega)).trans (heap_alloc2_old w _ _)
  have b2 := (hb.block (w.heap.size + 1) (by simp)).trans (heap_alloc2_new w _ _)
  have HB1 : Hid (Below w.heap.size w w1) := (((Below.refl _ _).alloc (Nat.le_refl _) _).alloc (by simp) _).trans (hb.mono (by simp; omega))
  have HS1 : Hid (StepsAt (w.heap.size + 2 ≤ ·) w1 s1 m.op.steps ∧ Free (w.heap.size + 2 ≤ ·) w1 s1) := ⟨hs1.1.mono (fun i _ h => by simp at h; omega), hs1.2.mono (fun i _ h => by simp at h; omega)⟩
  have X1 := hide b1
  have X2 := hide b2
  clear b1 b2 hb hs1 C1
  go_wp2_with (first
    | (refine wpList_store_box (by rfl) 33 _ _ (by rfl) w.heap.size 12 (m.op.cells s1).toArray (by rfl) (by rfl) 42 _ X1.out (by kernel_rfl) (by exact Nat.le_of_ble_eq_true rfl) (by exact m.op.one (FlatAt.oneCell HS1.out.1)) ?_; intro w2 hb2 hg2; rw [put_op] at hb2; have f33 := box_cell ((heap_alloc_old w2 (.cells #[] 3) (lt_of_block hb2)).trans hb2) 33 (.slice iA ni ic) (by rfl); have HB2 : Hid (Below w.heap.size w w2) := HB1.out.grown hg2 HB1.out.size (fun k hk => by have := Option.some.inj hk; omega); have K2 : Kept (w.heap.size + 2 ≤ ·) w1 w2 := Kept.of_grown hg2 (fun g e h => by have e2 := Option.some.inj e; have h2 : w.heap.size + 2 ≤ g := h; omega); have HS2 : Hid (StepsAt (w.heap.size + 2 ≤ ·) w2 s1 m.op.steps ∧ Free (w.heap.size + 2 ≤ ·) w2 s1) := ⟨HS1.out.1.kept K2, HS1.out.2.kept K2⟩; clear K2; have X22 : Hid (w2.heap[w.heap.size + 1]? = _) := (hg2.block _ (lt_of_block X2.out) (by simp)).trans X2.out; have X12 := hide hb2; have HL2 := hide (FlatAt.kept HIN.out (Kept.of_below (HB2.out.alloc HB2.out.size (.cells #[] 3)) F)); clear hb2 hg2 X1 X2 HS1)
    | (at_builtin; refine wpList_append_flat _ (by rfl) (.tmp 10) (.tmp 12) 40 (by rfl) w2.heap.size 3 i0 _ 1 8 Try.underlying40 HI0.out HZ0.out HZ1.out HZ2.out (by rfl) (by omega) _ 0 [] (by rfl) (ownsRow_lit w2 _ 1) F _ ni ic _ (by rfl) HL2.out (by unfold maxLen; omega) (by omega) (by simp) ?_; intro v' w3 ho hg; rw [Nat.zero_add, List.nil_append] at ho; obtain ⟨iA', ic', rfl, _⟩ := own_slice ho; have hb23 : Below w2.heap.size w2 w3 := ((Below.refl _ _).alloc (Nat.le_refl _) _).trans (later_own (ownsRow_lit w2 _ 1) (by simp) hg); have X13 := (hb23.block _ (lt_of_block X12.out)).trans X12.out; have X23 := hide ((hb23.block _ (lt_of_block X22.out)).trans X22.out); have IN3 := hide (FlatAt.of_own ho (ints_one m.incs)); have FI3 := hide (Free.of_own ho); have HB23 := hide hb23; have f33 := box_cell X13 33 (.slice iA ni ic) (by rfl); have r33 := box_free X13 33; have X13 := hide X13; obtain ⟨w4, hw4⟩ : ∃ w4, w4 = w3.setCell ⟨w.heap.size, 33, none⟩ (.slice iA' ni ic') := ⟨_, rfl⟩; have HW4 := hide hw4; have f32 : (w3.setCell ⟨w.heap.size, 33, none⟩ (.slice iA' ni ic')).cell? ⟨w.heap.size, 32, none⟩ = some (.slice oA n oc) := box_cell (incs_stored m s1 (.slice oA n oc) (.slice iA ni ic) (.slice iA' ni ic') X13.out) 32 _ (by rfl); clear ho hg hb23 hw4))
  rw [← HW4.out]
  have hsz2 := HB2.out.size
  have hsz23 := HB23.out.size
  have hlt1 := lt_of_block X12.out
  have hlt2 := lt_of_block X22.out
  have g34 : w3.grownBy w4 (some w.heap.size) := by rw [HW4.out]; exact grown_set w3 _ 33 _
  have B1 : Hid (w4.heap[w.heap.size]? = some (.cells (m.cells s1 (.slice oA n oc) (.slice iA' ni ic')).toArray 42 (0, 0))) := by
    show _ = _
    rw [HW4.out]
    exact incs_stored m s1 _ _ _ X13.out
  have B2 : Hid (w4.heap[w.heap.size + 1]? = some (.cells (MsgD.zero.cells (.slice none 0 0) (.slice none 0 0) (.slice none 0 0)).toArray 42 (0, 0))) := (g34.block _ (lt_of_block X23.out) (by simp)).trans X23.out
  have K34 : Kept (fun b => w.heap.size + 2 ≤ b) w3 w4 := Kept.of_grown g34 (fun g e h => by have e2 := Option.some.inj e; have h2 : w.heap.size + 2 ≤ g := h; omega)
  have ST4 := hide (And.intro ((HS2.out.1.kept (Kept.of_below HB23.out _)).kept K34) ((HS2.out.2.kept (Kept.of_below HB23.out _)).kept K34))
  have FI4 := hide (((Free.mono FI3.out (G := (w.heap.size + 2 ≤ ·)) fun i _ h => by have h2 : w2.heap.size ≤ i := h.1; omega)).kept K34)
  have IN4 := hide (((FlatAt.mono IN3.out (G := (w.heap.size + 2 ≤ ·)) fun i _ h => by have h2 : w2.heap.size ≤ i := h; omega)).kept K34)
  have BE4 : Hid (Below w.heap.size w w4) := (HB2.out.trans (HB23.out.mono hsz2)).grown g34 (by omega) (fun k hk => by have := Option.some.inj hk; omega)
  have hsz4 : w.heap.size + 2 ≤ w4.heap.size := by have := g34.size; omega
  clear f33 r33 f32 X12 X13 X22 X23 HB2 HB23 HS2 IN3 FI3 HL2 g34 K34 HW4
  clear hsz2 hsz23 hlt1 hlt2
  clear HIN
  have C3 := hide (fun (w' : World) (hb : Below w.heap.size w w') (p : OpD × Value) (hp : p ∈ ps) => refcopyop_own F p.1 p.2 w' ((HOS.out p hp).kept (Kept.of_below hb F)) (by have := HPL.out p hp; omega))
  go_loopw [3, 18] (fun v j wr => ∃ (k : Nat) (qs : List (OpD × Value)) (A : Option Addr) (c : Nat), v = .slice A k c ∧ j = .int .i64 (k : Int) ∧ k ≤ n ∧ qs.length = k ∧ qs.map (·.1) = (ps.map (·.1)).take k ∧ RowRel w4 wr v qs) (fun _ j _ => n - (intOf j).toNat)
  case atStart => exact ⟨0, [], none, 0, rfl, rfl, by omega, rfl, rfl, RowRel.start (Below.refl _ _)⟩
  case round =>
    obtain ⟨k, qs, A, c, rfl, rfl, hk, hql, hqm, hrel⟩ := hrel
    have REL := hide hrel
    have HQL := hide hql
    have HQM := hide hqm
    clear hrel hql hqm
    by_cases hkn : k < n
    · obtain ⟨x, xs, hx⟩ : ∃ x xs, ps[k]? = some (x, xs) := ⟨ps[k]'(by rw [HN.out]; exact hkn) |>.1, ps[k]'(by rw [HN.out]; exact hkn) |>.2, List.getElem?_eq_getElem (by rw [HN.out]; exact hkn)⟩
      have hxm : (x, xs) ∈ ps := List.mem_of_getElem? hx
      obtain ⟨xA, xc, rfl⟩ : ∃ xA xc, xs = .slice xA x.steps.length xc := by
        obtain ⟨xA, xc, h, _⟩ := FlatAt.shape (HOS.out _ hxm)
        exact ⟨xA, xc, h⟩
      have hbw : Below w.heap.size w wr := BE4.out.trans (REL.out.below.mono BE4.out.size)
      have hsz := REL.out.below.size
      obtain ⟨b, off, c', hv, _, _, hblt, hr⟩ := FlatAt.elem (HO.out.kept (Kept.of_below hbw F)) hkn
      obtain ⟨rfl, rfl⟩ : oA = some ⟨b, off, none⟩ ∧ oc = c' := by injection hv with e1 _ e3; exact ⟨e1, e3⟩
      rw [opcells, flat_get (fun p : OpD × Value => p.1.cells p.2) 10 ps k (x, .slice xA x.steps.length xc) (fun p _ => p.1.len p.2) hx] at hr
      obtain ⟨r0, r1, r2, r3, r4, r5, r6, r7, r8, r9⟩ := range_op hr
      have HXM := hide hxm
      have HX := hide hx
      have HBW := hide hbw
      have HXB : Hid ((wr.alloc (.cells (x.cells (.slice xA x.steps.length xc)).toArray 33 (0, 0))).heap[wr.heap.size]? = some (.cells (x.cells (.slice xA x.steps.length xc)).toArray 33 (0, 0))) := heap_alloc_new _ _
      have hone : Hid (Value.oneCell' (.slice xA x.steps.length xc) = true) := FlatAt.oneCell (HOS.out _ hxm)
      clear hxm hx hbw hv hr
      go_wp2_with (refine wpList_load_box (by rfl) 33 _ (by rfl) wr.heap.size 0 (by rfl) 33 _ HXB.out 10 _ Try.underlying33 (by rfl) (by kernel_rfl) (x.cells (.slice xA x.steps.length xc)) (by rfl) (by rfl) ?_)
      refine (C3.out (wr.alloc (.cells (x.cells (.slice xA x.steps.length xc)).toArray 33 (0, 0))) (HBW.out.alloc HBW.out.size _) (x, .slice xA x.steps.length xc) HXM.out).mono ?_
      rintro e w5 ⟨s2, rfl, hs2, hb5⟩
      have hb45 : Below wr.heap.size wr w5 := ((Below.refl _ _).alloc (Nat.le_refl _) _).trans (hb5.mono (by simp))
      have hb46 : Below wr.heap.size wr (w5.alloc (.cells (x.cells s2).toArray 33 (0, 0))) := hb45.alloc hb45.size _
      have hsz5 := hb45.size
      have RE6 := hide (REL.out.later hb46)
      have hs5 : StepsAt (wr.heap.size ≤ ·) w5 s2 x.steps := StepsAt.mono hs2.1 (fun i _ h => by simp at h; omega)
      have hf5 : Free (wr.heap.size ≤ ·) w5 s2 := Free.mono hs2.2 (fun i _ h => by simp at h; omega)
      have hs2o : s2.oneCell' = true := FlatAt.oneCell hs2.1
      have hG : ∀ i, i < (w5.alloc (.cells (x.cells s2).toArray 33 (0, 0))).heap.size → wr.heap.size ≤ i → w4.heap.size ≤ i ∧ some i ≠ (Value.slice A k c).ownBlock := fun i _ h => ⟨by omega, fun e => by
        have := (REL.out.own.lt i e.symm).2
        omega⟩
      have HS6 : Hid (StepsAt (fun b => w4.heap.size ≤ b ∧ some b ≠ (Value.slice A k c).ownBlock) (w5.alloc (.cells (x.cells s2).toArray 33 (0, 0))) s2 x.steps ∧ Free (fun b => w4.heap.size ≤ b ∧ some b ≠ (Value.slice A k c).ownBlock) (w5.alloc (.cells (x.cells s2).toArray 33 (0, 0))) s2) :=
        ⟨(hs5.kept (Kept.of_below ((Below.refl _ _).alloc (Nat.le_refl _) _) _)).mono hG, (hf5.kept (Kept.of_below ((Below.refl _ _).alloc (Nat.le_refl _) _) _)).mono hG⟩
      have FL : Hid (FlatAt (fun _ => True) (w5.alloc (.cells (x.cells s2).toArray 33 (0, 0))) 10 (.slice (some ⟨w5.heap.size, 0, none⟩) 1 1) 1 (x.cells s2)) :=
        flat_one w5 33 10 (x.cells s2).toArray rfl (x.one hs2o) _ trivial
      have OW : Hid ((w5.alloc (.cells (x.cells s2).toArray 33 (0, 0))).ownsRow w4.heap.size 33 10 (.slice A k c) k (opcells qs)) := by
        have h1 := RE6.out.own
        rw [HQL.out] at h1
        exact h1
      have HB45 := hide hb45
      clear hG hf5 hb45 hb46 hs5 hs2o hs2 hb5 r0 r1 r2 r3 r4 r5 r6 r7 r8 r9
      go_wp2_with (first
        | (refine wpList_buildSlice_one (by rfl) 39 33 _ (by rfl) j0 _ 10 Try.underlying39 HJ0.out HY0.out HY1.out (by omega) (by omega) (x.cells s2).toArray (by rfl) (by rfl) ?_)
        | (at_builtin; refine wpList_append_flat_at (by rfl) (.tmp 22) (.tmp 25) 39 (by rfl) w4.heap.size 33 j0 _ 10 96 Try.underlying39 HJ0.out HY0.out HY1.out HY2.out (by rfl) (by omega) (.slice A k c) k (opcells qs) (by rfl) OW.out w5.heap.size 1 1 (x.cells s2) (by rfl) (fun _ => True) FL.out (by omega) (by unfold maxLen; omega) (by omega) (by simp; omega) ?_; intro v6 w6 o6 g6 e6))
      have RE7 : Hid (RowRel w4 w6 v6 (qs ++ [(x, s2)])) := RE6.out.next x s2 HS6.out (by rw [HQL.out]; exact o6) g6 e6
      obtain ⟨A6, c6, rfl, _⟩ := own_slice o6
      clear o6 g6 e6
      go_wp2
      go_roundw
      case rel => exact ⟨k + 1, qs ++ [(x, s2)], A6, c6, rfl, by go_num, by omega, by simp [HQL.out], by rw [List.take_add_one, List.map_append, HQM.out, List.getElem?_map, HX.out]; rfl, RE7.out⟩
      case measure => simp [intOf]; omega
    · obtain rfl : k = n := by omega
      have X1 := (REL.out.below.block _ (lt_of_block B1.out)).trans B1.out
      have X2 := (REL.out.below.block _ (lt_of_block B2.out)).trans B2.out
      have hsz := REL.out.below.size
      have r32 := box_free X1 32
      have f32 := box_cell X1 32 (.slice oA k oc) (by rfl)
      have Y1 : Hid ((wr.setCell ⟨w.heap.size, 32, none⟩ (.slice A k c)).heap[w.heap.size]? = some (.cells (m.cells s1 (.slice A k c) (.slice iA' ni ic')).toArray 42 (0, 0))) := ops_stored m s1 _ _ _ X1
      have Y2 : Hid ((wr.setCell ⟨w.heap.size, 32, none⟩ (.slice A k c)).heap[w.heap.size + 1]? = _) := (heap_setCell_other _ _ _ _ (by simp)).trans X2
      have K5 : Kept (fun b => w.heap.size + 2 ≤ b) w4 wr := Kept.of_below REL.out.below _
      have K6 : Kept (fun b => w.heap.size + 2 ≤ b) wr (wr.setCell ⟨w.heap.size, 32, none⟩ (.slice A k c)) := Kept.of_grown (grown_set wr w.heap.size 32 (.slice A k c)) (fun g e h => by have e2 := Option.some.inj e; have h2 : w.heap.size + 2 ≤ g := h; omega)
      have HBW : Hid (Below w.heap.size w (wr.setCell ⟨w.heap.size, 32, none⟩ (.slice A k c))) := (BE4.out.trans (REL.out.below.mono BE4.out.size)).setCell (by simp) _
      have hops : OpsIn (w.heap.size + 2 ≤ ·) wr (.slice A k c) qs := by
        refine ⟨(FlatAt.of_own REL.out.own (ops_one fun p hp => FlatAt.oneCell (REL.out.new p hp).1)).mono (fun b _ h => by omega), fun p hp => (REL.out.new p hp).1.mono (fun b _ h => by omega)⟩
      have hqs : qs.map (·.1) = m.ops := by
        rw [HQM.out, ← HP.out, List.take_of_length_le (by simp [HN.out])]
      have hlists : Hid (MsgFree (w.heap.size + 2 ≤ ·) (wr.setCell ⟨w.heap.size, 32, none⟩ (.slice A k c)) m s1 (.slice A k c) (.slice iA' ni ic') qs) := by
        refine ⟨(ST4.out.1.kept K5).kept K6, hops.kept K6, hqs, ?_, (ST4.out.2.kept K5).kept K6, ((Free.of_own REL.out.own).mono fun b _ h => by have := h.1; omega).kept K6, (FI4.out.kept K5).kept K6, fun p hp => ((REL.out.new p hp).2.mono fun b _ h => by omega).kept K6⟩
        have h := (IN4.out.kept K5).kept K6
        rw [← HNI.out] at h ⊢
        exact h
      clear X1 X2 K5 K6 hops hqs
      go_wp2_with (refine wpList_load_box (by rfl) 42 _ (by rfl) w.heap.size 0 (by rfl) 42 _ Y1.out 34 _ Try.underlying42 (by rfl) (by kernel_rfl) _ (by rfl) (by rfl) ?_; refine wpList_store_box (by rfl) 42 _ _ (by rfl) (w.heap.size + 1) 0 (m.cells s1 (.slice A k c) (.slice iA' ni ic')).toArray (by rfl) (by rfl) 42 _ Y2.out (by kernel_rfl) (by exact Nat.le_of_ble_eq_true rfl) (by exact m.one (FlatAt.oneCell hlists.out.1) rfl rfl) ?_; intro w7 hb7 hg7; rw [put_all] at hb7)
      refine bodyPost_ret (results_cell_row Try.results31 _ _ (w.heap.size + 1) 42 _ (0, 0) _ (by rfl) hb7 Try.underlying42 (by rfl) (by kernel_rfl)) (by rfl) ⟨_, _, _, qs, rfl, ?_, ?_⟩
      · exact (hlists.out.kept (Kept.of_grown hg7 (fun g e h => by have e2 := Option.some.inj e; have h2 : w.heap.size + 2 ≤ g := h; omega))).mono (fun i _ h => by have h2 : w.heap.size + 2 ≤ i := h; omega)
      · exact HBW.out.grown hg7 HBW.out.size (fun k hk => by have := Option.some.inj hk; omega)
end Go.Proofs.Ytaimnhlpdkpobaa
