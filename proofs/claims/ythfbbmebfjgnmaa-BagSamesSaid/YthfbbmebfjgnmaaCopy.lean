/- Copy of package bag: a message, its lists in new memory: the walk. -/
import Derived.Test.YthfbbmebfjgnmaaCopyRel
namespace Go.Proofs.Ythfbbmebfjgnmaa
open Go.RowKit

theorem box_cell {w : World} {g t : Nat} {cs : Array Value} (h : w.heap[g]? = some (.cells cs t (0, 0))) (j : Nat) (v : Value) (hj : cs[j]? = some v) : w.cell? ⟨g, j, none⟩ = some v := by
  rw [cell_of_row w g j cs t (0, 0) h, hj]

theorem put_op (m : MsgD) (s o i s' : Value) : putAt (m.cells s o i).toArray 12 (m.op.cells s') = (m.cells s' o i).toArray := by simp [putAt, MsgD.cells, OpD.cells]
theorem put_ops (m : MsgD) (s o i v : Value) : (m.cells s o i).toArray.setIfInBounds 32 v = (m.cells s v i).toArray := by rfl
theorem put_incs (m : MsgD) (s o i v : Value) : (m.cells s o i).toArray.setIfInBounds 33 v = (m.cells s o v).toArray := by rfl
theorem put_all (m : MsgD) (s o i s0 o0 i0 : Value) (z : MsgD) : putAt (z.cells s0 o0 i0).toArray 0 (m.cells s o i) = (m.cells s o i).toArray := by simp [putAt, MsgD.cells]

/-- What Copy hands back: the same message, its lists in new memory. -/
def Copied (m : MsgD) (w : World) (e : Ending) (w' : World) : Prop :=
  ∃ v, e = .returned v ∧ MsgAt (w.heap.size ≤ ·) w' v m ∧ Below w.heap.size w w'

set_option maxHeartbeats 2000000 in
set_option maxRecDepth 100000 in
theorem copy_any (F : Nat → Prop) (m : MsgD) (v : Value) (w : World) (h : MsgAt F w v m) (hl : m.light) (hi : m.incs.length ≤ 1000000) :
    Calls Try.prog 30 #[v] w (Copied m w) := by
  obtain ⟨s, o, i, rfl, hs, ⟨ps, hps, ho⟩, hin⟩ := h
  have hpn : ps.length = m.ops.length := by rw [← hps]; simp
  have hpl : ∀ p ∈ ps, p.1.steps.length ≤ 100 := fun p hp => hl.2.2 p.1 (by rw [← hps]; exact List.mem_map_of_mem hp)
  have C1 := hide (fun w' (hb : Below w.heap.size w w') => copyop_any F m.op s w' (hs.kept (Kept.of_below hb F)) (by have := hl.1; omega))
  have C2 := hide (fun w' (hb : Below w.heap.size w w') => clone_ops F o _ _ w' (ho.1.kept (Kept.of_below hb F)) (by have := hl.2.1; omega))
  have C8 := hide (fun w' (hb : Below w.heap.size w w') => clone_ints F i _ _ w' (FlatAt.kept hin (Kept.of_below hb F)) hi)
  have hn100 : ps.length ≤ 100 := by have := hl.2.1; omega
  have H1 : s.oneCell' = true := FlatAt.oneCell hs
  have H2 : o.oneCell' = true := FlatAt.oneCell ho.1
  have H3 : i.oneCell' = true := FlatAt.oneCell hin
  have HS := hide hs
  have HO := hide ho
  have HPL := hide hpl
  have HP := hide hps
  have h1 := hide H1
  have h2 := hide H2
  have h3 := hide H3
  have HL := hide hl
  clear hs ho hin hpl hps hpn H1 H2 H3 hl
  obtain ⟨n, hn⟩ : ∃ n, ps.length = n := ⟨_, rfl⟩
  rw [hn] at C2 hn100
  have HN := hide hn
  clear hn
  unfold OpD.cells at C1
  unfold MsgD.cells
  go_enter Try.func30, Try.ntmps30
  go_wp2_with (fail)
  refine (C1.out _ (((Below.refl _ _).alloc (Nat.le_refl _) _).alloc (by simp) _)).mono ?_
  rintro e w1 ⟨s1, rfl, hs1, hb⟩
  have b1 : w1.heap[w.heap.size]? = some (.cells (m.cells s o i).toArray 42 (0, 0)) := (hb.block w.heap.size (by simp; omega)).trans (heap_alloc2_old w _ _)
  have b2 := (hb.block (w.heap.size + 1) (by simp)).trans (heap_alloc2_new w _ _)
  have HB1 : Hid (Below w.heap.size w w1) := (((Below.refl _ _).alloc (Nat.le_refl _) _).alloc (by simp) _).trans (hb.mono (by simp; omega))
  have HS1 : Hid (StepsAt (w.heap.size + 2 ≤ ·) w1 s1 m.op.steps) := hs1.mono (fun i _ h => by simp at h; omega)
  have X1 := hide b1
  have X2 := hide b2
  clear b1 b2 hb hs1 C1
  go_wp2_with (refine wpList_store_box (by rfl) 33 _ _ (by rfl) w.heap.size 12 (m.op.cells s1).toArray (by rfl) (by rfl) 42 _ X1.out (by kernel_rfl) (by exact Nat.le_of_ble_eq_true rfl) (by exact m.op.one (FlatAt.oneCell HS1.out)) ?_; intro w2 hb2 hg2; rw [put_op] at hb2; have f32 := box_cell hb2 32 o (by rfl))
  have HB2 : Hid (Below w.heap.size w w2) := HB1.out.grown hg2 HB1.out.size (fun k hk => by have := Option.some.inj hk; omega)
  have HS2 : Hid (StepsAt (w.heap.size + 2 ≤ ·) w2 s1 m.op.steps) := HS1.out.kept (Kept.of_grown hg2 (fun g e h => by have e2 := Option.some.inj e; have h2 : w.heap.size + 2 ≤ g := h; omega))
  have X22 : Hid (w2.heap[w.heap.size + 1]? = _) := (hg2.block _ (lt_of_block X2.out) (by simp)).trans X2.out
  have X12 := hide hb2
  clear hb2 hg2 X1 X2 HS1 f32
  refine (C2.out _ HB2.out).mono ?_
  rintro e w3 ⟨vo, rfl, hown, hb⟩
  have X13 := hide ((hb.block _ (lt_of_block X12.out)).trans X12.out)
  have X23 := hide ((hb.block _ (lt_of_block X22.out)).trans X22.out)
  obtain ⟨A, c, rfl, hA1, hA2, hA3⟩ := FlatAt.shape (FlatAt.of_own hown (ops_one fun p hp => FlatAt.oneCell (HO.out.2 p hp)))
  have f32 := box_cell X13.out 32 o (by rfl)
  have r32 := box_free X13.out 32
  obtain ⟨w4, hw4⟩ : ∃ w4, w4 = w3.setCell ⟨w.heap.size, 32, none⟩ (.slice A n c) := ⟨_, rfl⟩
  have g34 : w3.grownBy w4 (some w.heap.size) := by rw [hw4]; exact grown_set w3 _ 32 _
  have hB2 := HB2.out.size
  have hB3 := hb.size
  have hlt2 := lt_of_block X22.out
  have REL0 : Hid (CopyRel w w4 w2.heap.size w.heap.size (w.heap.size + 1) (m.cells s1 (.slice A n c) i).toArray (MsgD.zero.cells (.slice none 0 0) (.slice none 0 0) (.slice none 0 0)).toArray (.slice A n c) ps s1 m.op.steps 0 ps) := by
    refine ⟨rfl, rfl, ?_, fun p hp => FlatAt.oneCell (HO.out.2 p hp), fun j p hj => by omega, fun _ _ => rfl, ?_, ?_, ?_, ?_, ?_⟩
    · rw [HN.out]
      refine hown.kept g34 ?_
      have := hown.lt
      cases hA : (Value.slice A n c).ownBlock with
      | none => exact .inl rfl
      | some q => exact .inr (fun e => by have h1 := (this q hA).1; have h2 := Option.some.inj e; omega)
    · rw [hw4, ← put_ops m s1 o i]
      exact heap_setCell_same w3 _ 32 _ _ _ X13.out
    · exact (g34.block _ (lt_of_block X23.out) (by simp)).trans X23.out
    · exact ((StepsAt.mono HS2.out (G := fun b => w.heap.size + 2 ≤ b ∧ b < w2.heap.size) (fun i hi h => ⟨h, hi⟩)).kept (Kept.of_below hb _)).kept (Kept.of_grown g34 (fun g e h => by have e2 := Option.some.inj e; have h2 := h.1; omega))
    · exact (HB2.out.trans (hb.mono hB2)).grown g34 (Nat.le_trans hB2 hB3) (fun k hk => by have := Option.some.inj hk; omega)
    · exact Nat.le_trans hB3 g34.size
  have HOWN := hide (show n = n from rfl)
  have hf32 : w4.cell? ⟨w.heap.size, 32, none⟩ = some (.slice A n c) := box_cell REL0.out.b1 32 _ (by rfl)
  have HW4 := hide hw4
  rw [hw4] at hf32
  clear hown hb X13 X23 X12 X22 hw4 g34
  go_wp2
  rw [← HW4.out]
  clear HW4 hf32 f32 r32 hB3
  obtain ⟨B, hB⟩ : ∃ B, B = w2.heap.size := ⟨_, rfl⟩
  rw [← hB] at REL0 hB2 hlt2
  clear hB
  clear HB2 HS2
  go_loopw [16] (fun j wr => ∃ (k : Nat) (qs : List (OpD × Value)), k ≤ n ∧ j = .int .i64 (k : Int) ∧ CopyRel w wr B w.heap.size (w.heap.size + 1) (m.cells s1 (.slice A n c) i).toArray (MsgD.zero.cells (.slice none 0 0) (.slice none 0 0) (.slice none 0 0)).toArray (.slice A n c) ps s1 m.op.steps k qs) (fun j _ => n - (intOf j).toNat)
  case atStart => exact ⟨0, ps, by omega, rfl, REL0.out⟩
  case round =>
    obtain ⟨k, qs, hk, rfl, hrel⟩ := hrel
    have REL := hide hrel
    clear hrel
    by_cases hkn : k < n
    · obtain ⟨x, xs, hx⟩ : ∃ x xs, ps[k]? = some (x, xs) := ⟨ps[k]'(by rw [HN.out]; exact hkn) |>.1, ps[k]'(by rw [HN.out]; exact hkn) |>.2, List.getElem?_eq_getElem (by rw [HN.out]; exact hkn)⟩
      have HX := hide hx
      have hxm : (x, xs) ∈ ps := List.mem_of_getElem? hx
      obtain ⟨xA, xc, rfl⟩ : ∃ xA xc, xs = .slice xA x.steps.length xc := by
        obtain ⟨xA, xc, h, _⟩ := FlatAt.shape (HO.out.2 _ hxm)
        exact ⟨xA, xc, h⟩
      have hfl := FlatAt.of_own REL.out.own (ops_one REL.out.one)
      rw [HN.out] at hfl
      obtain ⟨q, off, c', hv, _, hBq, hqlt, hr⟩ := hfl.elem hkn
      obtain ⟨rfl, rfl⟩ : A = some ⟨q, off, none⟩ ∧ c = c' := by injection hv with e1 _ e3; exact ⟨e1, e3⟩
      obtain rfl : off = 0 := by
        rcases REL.out.own.2 with ⟨e, _⟩ | ⟨_, _, _, e, _⟩
        · cases e
        · injection e with e _ _
          injection e with e
          injection e with _ e _
      rw [flat_get (fun p : OpD × Value => p.1.cells p.2) 10 qs k (x, .slice xA x.steps.length xc) (fun p _ => p.1.len p.2) (by rw [REL.out.old k (Nat.le_refl _)]; exact hx), Nat.zero_add] at hr
      obtain ⟨r0, r1, r2, r3, r4, r5, r6, r7, r8, r9⟩ := range_op hr
      obtain ⟨cur, hcur, hcsz⟩ : ∃ cur, wr.heap[q]? = some (.cells cur 33 (0, 0)) ∧ n * 10 ≤ cur.size := by
        rcases REL.out.own.2 with ⟨e, _⟩ | ⟨g, cap, cur, e, _, hg, hnc, _, hsz, _⟩
        · cases e
        · injection e with e e2 e3
          injection e with e
          injection e with e
          subst e
          exact ⟨cur, hg, by rw [hsz]; rw [HN.out] at hnc; omega⟩
      have HC := hide hcur
      have HCS := hide hcsz
      have HXB : Hid ((wr.alloc (.cells (x.cells (.slice xA x.steps.length xc)).toArray 33 (0, 0))).heap[wr.heap.size]? = some (.cells (x.cells (.slice xA x.steps.length xc)).toArray 33 (0, 0))) := heap_alloc_new _ _
      have HX1 : Hid ((wr.alloc (.cells (x.cells (.slice xA x.steps.length xc)).toArray 33 (0, 0))).heap[w.heap.size]? = some (.cells (m.cells s1 (.slice (some ⟨q, 0, none⟩) n c) i).toArray 42 (0, 0))) := (heap_alloc_old _ _ (lt_of_block REL.out.b1)).trans REL.out.b1
      have HQ4 : Hid ((wr.alloc (.cells (x.cells (.slice xA x.steps.length xc)).toArray 33 (0, 0))).heap[q]? = some (.cells cur 33 (0, 0))) := (heap_alloc_old _ _ hqlt).trans hcur
      have hlw := lt_of_block REL.out.b1
      have C3 := hide (fun w' (hb : (wr.alloc (.cells (x.cells (.slice xA x.steps.length xc)).toArray 33 (0, 0))).grownBy w' (some q)) => copyop_any (fun b => b < w.heap.size) x (.slice xA x.steps.length xc) w'
        ((((StepsAt.mono (HO.out.2 _ hxm) (G := fun b => b < w.heap.size) (fun i hi _ => hi)).kept (Kept.of_below REL.out.below _)).kept (Kept.of_below ((Below.refl _ _).alloc (Nat.le_refl _) _) _)).kept (Kept.of_grown hb (fun g e h => by have e2 := Option.some.inj e; have h2 : g < w.heap.size := h; omega)))
        (by have := HPL.out _ hxm; simp only at this; omega))
      clear hx hr hxm hfl hv hcur hcsz
      go_wp2
      refine wp_region_R (R := fun a b => a.grownBy b (some q)) (by kernel_rfl) ?_
      refine wpAnyR_take (pre_grown (some q)) (i := 0) (d := some 21) (v := ?va0) rfl rfl (by kernel_rfl) (by kernel_rfl) (by kernel_rfl) (fun _ _ _ h => h) (by rfl) ?ya0 ?_
      case ya0 => (intro w' hw'; go_simp; try (with_reducible rfl))
      simp only [Act.put, List.setIfInBounds_toArray, List.set_cons_zero, List.set_cons_succ]
      refine wpAnyR_take (pre_grown (some q)) (i := 1) (d := some 22) (v := ?va1) rfl rfl (by kernel_rfl) (by kernel_rfl) (by kernel_rfl) (fun _ _ _ h => h) (by rfl) ?ya1 ?_
      case ya1 => (intro w' hw'; have hc := box_cell ((World.grownBy.block hw' w.heap.size (by simp; omega) (by simp; omega)).trans HX1.out) 32 (.slice (some ⟨q, 0, none⟩) n c) (by rfl); go_simp; try (with_reducible rfl))
      simp only [Act.put, List.setIfInBounds_toArray, List.set_cons_zero, List.set_cons_succ]
      refine wpAnyR_take (pre_grown (some q)) (i := 2) (d := some 23) (v := ?va2) rfl rfl (by kernel_rfl) (by kernel_rfl) (by kernel_rfl) (fun _ _ _ h => h) (by rfl) ?ya2 ?_
      case ya2 => (intro w' hw'; go_simp; try (with_reducible rfl))
      simp only [Act.put, List.setIfInBounds_toArray, List.set_cons_zero, List.set_cons_succ]
      refine wpAnyR_take (pre_grown (some q)) (i := 3) (d := some 24) (v := .agg (x.cells (.slice xA x.steps.length xc)).toArray) rfl rfl (by kernel_rfl) (by kernel_rfl) (by kernel_rfl) (fun _ _ _ h => h) (by rfl) ?ya3 ?_
      case ya3 => (intro w' hw'; have hb9 := (World.grownBy.block hw' wr.heap.size (by simp) (by simp; omega)).trans HXB.out; exact exec_load_box 33 _ (by rfl) wr.heap.size 0 (by rfl) 33 _ hb9 10 _ Try.underlying33 (by rfl) (by kernel_rfl) (x.cells (.slice xA x.steps.length xc)) (by rfl) (by rfl))
      simp only [Act.put, List.setIfInBounds_toArray, List.set_cons_zero, List.set_cons_succ]
      refine wpAnyR_only (i := 4) rfl (by kernel_rfl) (by rfl) fun K hK => ?_
      go_simp
      refine (C3.out (World.drew (wr.alloc (.cells (x.cells (.slice xA x.steps.length xc)).toArray 33 (0, 0)))) ⟨rfl, rfl, rfl, Nat.le_refl _, fun _ _ _ => rfl⟩).mono ?_
      rintro e w5 ⟨s2, rfl, hs2, hb5⟩
      have HS2 := hide hs2
      have HB5 := hide hb5
      clear hs2 hb5
      refine hK.out _ _ (grown_later HB5.out _) ?_
      clear hK K
      try simp only [Act.put, List.setIfInBounds_toArray, List.set_cons_zero, List.set_cons_succ]
      refine wpAnyR_take (pre_grown (some q)) (i := 5) (d := some 26) (v := ?va5) rfl rfl (by kernel_rfl) (by kernel_rfl) (by kernel_rfl) (fun _ _ _ h => h) (by rfl) ?ya5 ?_
      case ya5 => (intro w' hw'; go_simp; try (with_reducible rfl))
      simp only [Act.put, List.setIfInBounds_toArray, List.set_cons_zero, List.set_cons_succ]
      refine wpAnyR_only (i := 6) rfl (by kernel_rfl) (by rfl) fun K hK => ?_
      refine wp_store_box 33 _ _ (by rfl) q (k * 10) (x.cells s2).toArray (by rfl) (by rfl) 33 cur ((HB5.out.block q (by simp; omega)).trans (by exact HQ4.out)) (by kernel_rfl) (by exact (show k * 10 + 10 ≤ cur.size from by have := HCS.out; omega)) (by exact x.one (FlatAt.oneCell HS2.out)) ?_
      intro w6 hq6 hg6
      have HQ6 := hide hq6
      have HG6 := hide hg6
      clear hq6 hg6
      refine hK.out _ _ HG6.out ?_
      clear hK K
      try simp only [Act.put]
      refine wpAnyR_done (by kernel_rfl) ?_ _
      have HB6 : Hid (Below wr.heap.size wr w5) := Below.trans (b := (wr.alloc (.cells (x.cells (.slice xA x.steps.length xc)).toArray 33 (0, 0))).drew) (((Below.refl wr.heap.size wr).alloc (Nat.le_refl _) _).drew) (HB5.out.mono (by show _ ≤ (wr.alloc _).heap.size; simp))
      go_wp2
      go_roundw
      case rel => exact ⟨k + 1, qs.set k (x, s2), by omega, by go_num, REL.out.step HX.out (by omega) (by omega) (by omega) hBq HB6.out (HS2.out.mono (fun j _ h => by have h2 : (wr.alloc _).heap.size ≤ j := h; simp at h2; omega)) HC.out HQ6.out HG6.out⟩
      case measure => simp [intOf]; omega
    · obtain rfl : k = n := by omega
      have C9 := hide (C8.out wr REL.out.below)
      have f33 := box_cell REL.out.b1 33 i (by rfl)
      go_wp2_with (fail)
      refine C9.out.mono ?_
      rintro e w5 ⟨vi, rfl, hown, hb⟩
      have hsz := REL.out.below.size
      have hlt1 := lt_of_block REL.out.b1
      have hlt2 := lt_of_block REL.out.b2
      have X1 := (hb.block _ hlt1).trans REL.out.b1
      have X2 := (hb.block _ hlt2).trans REL.out.b2
      have hvi := FlatAt.of_own hown (ints_one m.incs)
      obtain ⟨iA, ic, rfl, _, _, _⟩ := hvi.shape
      have f33 := box_cell X1 33 i (by rfl)
      have r33 := box_free X1 33
      have Y1 : Hid ((w5.setCell ⟨w.heap.size, 33, none⟩ (.slice iA m.incs.length ic)).heap[w.heap.size]? = some (.cells (m.cells s1 (.slice A k c) (.slice iA m.incs.length ic)).toArray 42 (0, 0))) := by
        rw [← put_incs m s1 (.slice A k c) i]
        exact heap_setCell_same w5 _ 33 _ _ _ X1
      have Y2 : Hid ((w5.setCell ⟨w.heap.size, 33, none⟩ (.slice iA m.incs.length ic)).heap[w.heap.size + 1]? = _) := (heap_setCell_other _ _ _ _ (by simp)).trans X2
      have K5 : Kept (fun b => w.heap.size + 2 ≤ b) wr w5 := Kept.of_below hb _
      have K6 : Kept (fun b => w.heap.size + 2 ≤ b) w5 (w5.setCell ⟨w.heap.size, 33, none⟩ (.slice iA m.incs.length ic)) := Kept.of_grown (grown_set w5 w.heap.size 33 (.slice iA m.incs.length ic)) (fun g e h => by have e2 := Option.some.inj e; have h2 : w.heap.size + 2 ≤ g := h; omega)
      have hbW : Below w.heap.size w (w5.setCell ⟨w.heap.size, 33, none⟩ (.slice iA m.incs.length ic)) := (REL.out.below.trans (hb.mono hsz)).setCell (by simp) _
      have hops : OpsIn (w.heap.size + 2 ≤ ·) wr (.slice A k c) qs := by
        have h1 := FlatAt.of_own REL.out.own (ops_one REL.out.one)
        rw [← REL.out.len] at h1
        refine ⟨h1.mono (fun b _ h => by omega), fun p hp => ?_⟩
        obtain ⟨j, hj, hjp⟩ := List.mem_iff_getElem.1 hp
        have hjk : j < k := by rw [← HN.out, ← REL.out.len]; exact hj
        exact (REL.out.new j p hjk (by rw [List.getElem?_eq_getElem hj, hjp])).mono (fun b _ h => h.1)
      have hlists : Hid (Lists (w.heap.size + 2 ≤ ·) (w5.setCell ⟨w.heap.size, 33, none⟩ (.slice iA m.incs.length ic)) m s1 (.slice A k c) (.slice iA m.incs.length ic)) :=
        ⟨((REL.out.steps.mono (fun b _ h => h.1)).kept K5).kept K6, ⟨qs, by rw [REL.out.same, HP.out], (hops.kept K5).kept K6⟩, (IncsAt.mono hvi (fun b _ h => by omega)).kept K6⟩
      have HBW := hide hbW
      clear X1 X2 hown hb hvi K5 K6 hbW hops
      go_wp2_with (refine wpList_load_box (by rfl) 42 _ (by rfl) w.heap.size 0 (by rfl) 42 _ Y1.out 34 _ Try.underlying42 (by rfl) (by kernel_rfl) _ (by rfl) (by rfl) ?_; refine wpList_store_box (by rfl) 42 _ _ (by rfl) (w.heap.size + 1) 0 (m.cells s1 (.slice A k c) (.slice iA m.incs.length ic)).toArray (by rfl) (by rfl) 42 _ Y2.out (by kernel_rfl) (by exact Nat.le_of_ble_eq_true rfl) (by exact m.one (FlatAt.oneCell hlists.out.1) rfl rfl) ?_; intro w7 hb7 hg7; rw [put_all] at hb7)
      refine bodyPost_ret (results_cell_row Try.results30 _ _ (w.heap.size + 1) 42 _ (0, 0) _ (by rfl) hb7 Try.underlying42 (by rfl) (by kernel_rfl)) (by rfl) ⟨_, rfl, ⟨_, _, _, rfl, ?_⟩, ?_⟩
      · exact (hlists.out.kept (Kept.of_grown hg7 (fun g e h => by have e2 := Option.some.inj e; have h2 : w.heap.size + 2 ≤ g := h; omega))).mono (fun i _ h => by have h2 : w.heap.size + 2 ≤ i := h; omega)
      · exact HBW.out.grown hg7 HBW.out.size (fun k hk => by have := Option.some.inj hk; omega)
end Go.Proofs.Ythfbbmebfjgnmaa
