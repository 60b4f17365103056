/- Copy of package bag, which is CopyMsg of package op: a message, its lists in new memory. -/
import Derived.Test.YtaimnhlpdkpobaaMsgFree
import Derived.Test.YtaimnhlpdkpobaaCloneI
import Derived.Test.YtaimnhlpdkpobaaWeigh
namespace Go.Proofs.Ytaimnhlpdkpobaa
open Go.RowKit

def zcells : Array Value := (MsgD.zero.cells (.slice none 0 0) (.slice none 0 0) (.slice none 0 0)).toArray
theorem zcells_one : ∀ u ∈ zcells.toList, u.oneCell' = true := MsgD.zero.one rfl rfl rfl
theorem put_zmsg (m : MsgD) (s o i : Value) : putAt zcells 0 (m.cells s o i) = (m.cells s o i).toArray := put_all m s o i _ _ _ .zero
set_option maxHeartbeats 2000000 in
set_option maxRecDepth 100000 in
theorem copymsg_own (F : Nat → Prop) (m : MsgD) (v : Value) (w : World) (h : MsgAt F w v m) (hl : m.light) (hi : m.incs.length ≤ 1000000) :
    Calls Try.prog 46 #[v] w (Owned m w) := by
  obtain ⟨s, o, i, rfl, hs, ⟨ps, hps, ho⟩, hin⟩ := h
  have hpn : ps.length = m.ops.length := by rw [← hps]; simp
  have hpl : ∀ p ∈ ps, p.1.steps.length ≤ 100 := fun p hp => hl.2.2 p.1 (by rw [← hps]; exact List.mem_map_of_mem hp)
  have C1 := hide (fun w' (hb : Below w.heap.size w w') => copyop_own F m.op s w' (hs.kept (Kept.of_below hb F)) (by have := hl.1; omega))
  have C2 := hide (fun w' (hb : Below w.heap.size w w') => copies_own F ps o w' (ho.kept (Kept.of_below hb F)) (by have := hl.2.1; omega) (fun p hp => by have := hpl p hp; omega))
  have C8 := hide (fun w' (hb : Below w.heap.size w w') => clone_ints F i _ _ w' (FlatAt.kept hin (Kept.of_below hb F)) hi)
  have hn100 : ps.length ≤ 100 := by have := hl.2.1; omega
  have H1 : s.oneCell' = true := FlatAt.oneCell hs
  have H2 : o.oneCell' = true := FlatAt.oneCell ho.1
  have H3 : i.oneCell' = true := FlatAt.oneCell hin
  have HS := hide hs
  have HO := hide ho
  have HPL := hide hpl
  have HP := hide hps
  have h1 := hide H1
  have h2 := hide H2
  have h3 := hide H3
  have HL := hide hl
  clear hs ho hin hpl hps hpn H1 H2 H3 hl
  unfold OpD.cells at C1
  unfold MsgD.cells
  go_enter Try.func46, Try.ntmps46
  go_wp2_with (fail)
  refine (C1.out _ (((Below.refl _ _).alloc (Nat.le_refl _) _).alloc (by simp) _)).mono ?_
  rintro e w1 ⟨s1, rfl, hs1, hb⟩
  have b1 : w1.heap[w.heap.size]? = some (.cells (m.cells s o i).toArray 42 (0, 0)) := (hb.block w.heap.size (by simp; omega)).trans (heap_alloc2_old w _ _)
  have b2 := (hb.block (w.heap.size + 1) (by simp)).trans (heap_alloc2_new w _ _)
  have HB1 : Hid (Below w.heap.size w w1) := (((Below.refl _ _).alloc (Nat.le_refl _) _).alloc (by simp) _).trans (hb.mono (by simp; omega))
  have HS1 : Hid (StepsAt (w.heap.size + 2 ≤ ·) w1 s1 m.op.steps ∧ Free (w.heap.size + 2 ≤ ·) w1 s1) := ⟨hs1.1.mono (fun i _ h => by simp at h; omega), hs1.2.mono (fun i _ h => by simp at h; omega)⟩
  have X1 := hide b1
  have X2 := hide b2
  clear b1 b2 hb hs1 C1
  go_wp2_with (refine wpList_store_box (by rfl) 33 _ _ (by rfl) w.heap.size 12 (m.op.cells s1).toArray (by rfl) (by rfl) 42 _ X1.out (by kernel_rfl) (by exact Nat.le_of_ble_eq_true rfl) (by exact m.op.one (FlatAt.oneCell HS1.out.1)) ?_; intro w2 hb2 hg2; rw [put_op] at hb2; have f32 := box_cell hb2 32 o (by rfl))
  have HB2 : Hid (Below w.heap.size w w2) := HB1.out.grown hg2 HB1.out.size (fun k hk => by have := Option.some.inj hk; omega)
  have K2 : Kept (w.heap.size + 2 ≤ ·) w1 w2 := Kept.of_grown hg2 (fun g e h => by have e2 := Option.some.inj e; have h2 : w.heap.size + 2 ≤ g := h; omega)
  have HS2 : Hid (StepsAt (w.heap.size + 2 ≤ ·) w2 s1 m.op.steps ∧ Free (w.heap.size + 2 ≤ ·) w2 s1) := ⟨HS1.out.1.kept K2, HS1.out.2.kept K2⟩
  clear K2
  have X22 : Hid (w2.heap[w.heap.size + 1]? = _) := (hg2.block _ (lt_of_block X2.out) (by simp)).trans X2.out
  have X12 := hide hb2
  clear hb2 hg2 X1 X2 HS1 f32
  refine (C2.out _ HB2.out).mono ?_
  rintro e w3 ⟨vo, qs, rfl, hsame, hfree, _, hb⟩
  have X13 := hide ((hb.block _ (lt_of_block X12.out)).trans X12.out)
  have X23 := hide ((hb.block _ (lt_of_block X22.out)).trans X22.out)
  obtain ⟨n, hn⟩ : ∃ n, qs.length = n := ⟨_, rfl⟩
  have hflat := hfree.ops.1
  rw [hn] at hflat
  obtain ⟨A, c, rfl, hA1, hA2, hA3⟩ := FlatAt.shape hflat
  have HNQ := hide hn
  clear hflat
  have f32 := box_cell X13.out 32 o (by rfl)
  have r32 := box_free X13.out 32
  obtain ⟨w4, hw4⟩ : ∃ w4, w4 = w3.setCell ⟨w.heap.size, 32, none⟩ (.slice A n c) := ⟨_, rfl⟩
  have g34 : w3.grownBy w4 (some w.heap.size) := by rw [hw4]; exact grown_set w3 _ 32 _
  have hB2 := HB2.out.size
  have hB3 := hb.size
  have hlt2 := lt_of_block X22.out
  have X14 : Hid (w4.heap[w.heap.size]? = some (.cells (m.cells s1 (.slice A n c) i).toArray 42 (0, 0))) := by
    rw [hw4, ← put_ops m s1 o i]
    exact heap_setCell_same w3 _ 32 _ _ _ X13.out
  have X24 : Hid (w4.heap[w.heap.size + 1]? = some (.cells (MsgD.zero.cells (.slice none 0 0) (.slice none 0 0) (.slice none 0 0)).toArray 42 (0, 0))) := (g34.block _ (lt_of_block X23.out) (by simp)).trans X23.out
  have HB4 : Hid (Below w.heap.size w w4) := (HB2.out.trans (hb.mono hB2)).grown g34 (Nat.le_trans hB2 hB3) (fun k hk => by have := Option.some.inj hk; omega)
  have K3 : Kept (w.heap.size + 2 ≤ ·) w2 w3 := Kept.of_below hb _
  have K4 : Kept (w.heap.size + 2 ≤ ·) w3 w4 := Kept.of_grown g34 (fun g e h => by have e2 := Option.some.inj e; have h2 : w.heap.size + 2 ≤ g := h; omega)
  have HS4 : Hid (StepsAt (w.heap.size + 2 ≤ ·) w4 s1 m.op.steps ∧ Free (w.heap.size + 2 ≤ ·) w4 s1) := ⟨(HS2.out.1.kept K3).kept K4, (HS2.out.2.kept K3).kept K4⟩
  have HF4 : Hid (OpsFree (w.heap.size + 2 ≤ ·) w4 (.slice A n c) qs) := (OpsFree.mono hfree (fun b _ h => by omega)).kept K4
  have HSM := hide hsame
  have f33 := box_cell X13.out 33 i (by rfl)
  have HW4 := hide hw4
  clear hfree hsame hb X13 X23 X12 X22 hw4 g34 K3 K4 hn
  go_wp2_with (fail)
  rw [← HW4.out]
  clear HW4 f33 f32 r32 hB3
  refine (C8.out _ HB4.out).mono ?_
  rintro e w5 ⟨vi, rfl, hown, hb⟩
  have hsz := HB4.out.size
  have hlt1 := lt_of_block X14.out
  have hlt2 := lt_of_block X24.out
  have X1 := (hb.block _ hlt1).trans X14.out
  have X2 := (hb.block _ hlt2).trans X24.out
  have hvi := FlatAt.of_own hown (ints_one m.incs)
  have fvi := hide (Free.of_own hown)
  obtain ⟨iA, ic, rfl, _, _, _⟩ := hvi.shape
  have f33 := box_cell X1 33 i (by rfl)
  have r33 := box_free X1 33
  have Y1 : Hid ((w5.setCell ⟨w.heap.size, 33, none⟩ (.slice iA m.incs.length ic)).heap[w.heap.size]? = some (.cells (m.cells s1 (.slice A n c) (.slice iA m.incs.length ic)).toArray 42 (0, 0))) := by
    rw [← put_incs m s1 (.slice A n c) i]
    exact heap_setCell_same w5 _ 33 _ _ _ X1
  have Y2 : Hid ((w5.setCell ⟨w.heap.size, 33, none⟩ (.slice iA m.incs.length ic)).heap[w.heap.size + 1]? = some (.cells (MsgD.zero.cells (.slice none 0 0) (.slice none 0 0) (.slice none 0 0)).toArray 42 (0, 0))) := (heap_setCell_other _ _ _ _ (by simp)).trans X2
  have K5 : Kept (fun b => w.heap.size + 2 ≤ b) w4 w5 := Kept.of_below hb _
  have K6 : Kept (fun b => w.heap.size + 2 ≤ b) w5 (w5.setCell ⟨w.heap.size, 33, none⟩ (.slice iA m.incs.length ic)) := Kept.of_grown (grown_set w5 w.heap.size 33 (.slice iA m.incs.length ic)) (fun g e h => by have e2 := Option.some.inj e; have h2 : w.heap.size + 2 ≤ g := h; omega)
  have hbW : Below w.heap.size w (w5.setCell ⟨w.heap.size, 33, none⟩ (.slice iA m.incs.length ic)) := (HB4.out.trans (hb.mono hsz)).setCell (by simp) _
  have hlists : Hid (MsgFree (w.heap.size + 2 ≤ ·) (w5.setCell ⟨w.heap.size, 33, none⟩ (.slice iA m.incs.length ic)) m s1 (.slice A n c) (.slice iA m.incs.length ic) qs) :=
    ⟨(HS4.out.1.kept K5).kept K6, (HF4.out.ops.kept K5).kept K6, by rw [HSM.out, HP.out], (IncsAt.mono hvi (fun b _ h => by omega)).kept K6,
      (HS4.out.2.kept K5).kept K6, (HF4.out.row.kept K5).kept K6, (Free.mono fvi.out fun b _ h => by have := h.1; omega).kept K6, fun p hp => ((HF4.out.steps p hp).kept K5).kept K6⟩
  have HBW := hide hbW
  clear X1 X2 hown hb hvi K5 K6 hbW
  go_wp2_with (refine wpList_load_box (by rfl) 42 _ (by rfl) w.heap.size 0 (by rfl) 42 _ Y1.out 34 _ Try.underlying42 (by rfl) (by kernel_rfl) _ (by rfl) (by rfl) ?_; refine wpList_store_box (by rfl) 42 _ _ (by rfl) (w.heap.size + 1) 0 (m.cells s1 (.slice A n c) (.slice iA m.incs.length ic)).toArray (by rfl) (by rfl) 42 _ Y2.out (by kernel_rfl) (by exact Nat.le_of_ble_eq_true rfl) (by exact m.one (FlatAt.oneCell hlists.out.1) rfl rfl) ?_; intro w7 hb7 hg7; rw [put_all] at hb7)
  refine bodyPost_ret (results_cell_row Try.results46 _ _ (w.heap.size + 1) 42 _ (0, 0) _ (by rfl) hb7 Try.underlying42 (by rfl) (by kernel_rfl)) (by rfl) ⟨_, _, _, qs, rfl, ?_, ?_⟩
  · exact (hlists.out.kept (Kept.of_grown hg7 (fun g e h => by have e2 := Option.some.inj e; have h2 : w.heap.size + 2 ≤ g := h; omega))).mono (fun i _ h => by have h2 : w.heap.size + 2 ≤ i := h; omega)
  · exact HBW.out.grown hg7 HBW.out.size (fun k hk => by have := Option.some.inj hk; omega)
set_option maxHeartbeats 2000000 in
set_option maxRecDepth 100000 in
theorem bagcopy_any {F : Nat → Prop} {m : MsgD} {s o i : Value} (w : World) (h : Lists F w m s o i) (hl : m.light) (hi : m.incs.length ≤ 1000000) :
    Calls Try.prog 30 #[.agg (m.cells s o i).toArray] w (Owned m w) := by
  obtain ⟨k1, k2, k3⟩ := h.cell
  have HB : Hid (Below w.heap.size w ((w.alloc (.cells (m.cells s o i).toArray 42 (0, 0))).alloc (.cells zcells 42 (0, 0)))) := ((Below.refl _ _).alloc (Nat.le_refl _) _).alloc (by simp) _
  have X1 : Hid (((w.alloc (.cells (m.cells s o i).toArray 42 (0, 0))).alloc (.cells zcells 42 (0, 0))).heap[w.heap.size]? = some (.cells (m.cells s o i).toArray 42 (0, 0))) := heap_alloc2_old w _ _
  have X2 : Hid (((w.alloc (.cells (m.cells s o i).toArray 42 (0, 0))).alloc (.cells zcells 42 (0, 0))).heap[w.heap.size + 1]? = some (.cells zcells 42 (0, 0))) := heap_alloc2_new w _ _
  have C := hide (copymsg_own F m _ _ ⟨s, o, i, rfl, h.kept (Kept.of_below HB.out _)⟩ hl hi)
  have K := hide (m.one k1 k2 k3)
  clear h hl hi k1 k2 k3
  unfold MsgD.cells
  go_enter Try.func30, Try.ntmps30
  go_wp2_with (refine wpList_load_box (by rfl) 42 _ (by rfl) w.heap.size 0 (by rfl) 42 _ X1.out 34 _ Try.underlying42 (by rfl) (by kernel_rfl) _ (by rfl) (by rfl) ?_)
  refine C.out.mono ?_
  rintro e w5 ⟨s5, o5, i5, ps5, rfl, hf5, hb5⟩
  have Y2 : Hid (w5.heap[w.heap.size + 1]? = some (.cells zcells 42 (0, 0))) := (hb5.block _ (lt_of_block X2.out)).trans X2.out
  have L5 : Hid (Below w.heap.size w w5) := HB.out.trans (hb5.mono HB.out.size)
  have hs5 : w.heap.size + 2 ≤ w5.heap.size := by have := hb5.size; simp at this; omega
  have HF := hide (hf5.mono (G := (w.heap.size + 2 ≤ ·)) (fun _ _ h => by simp at h; omega))
  have hat := HF.out.at_
  clear hf5 hb5 C
  obtain ⟨j1, j2, j3⟩ : s5.oneCell' = true ∧ o5.oneCell' = true ∧ i5.oneCell' = true := ⟨FlatAt.oneCell HF.out.1, FlatAt.oneCell HF.out.2.1.1, FlatAt.oneCell HF.out.2.2.2.1⟩
  go_wp2_with (refine wpList_store_box (by rfl) 42 _ _ (by rfl) (w.heap.size + 1) 0 (m.cells s5 o5 i5).toArray (by rfl) (by rfl) 42 _ Y2.out (by kernel_rfl) (by exact Nat.le_of_ble_eq_true rfl) (by exact m.one j1 j2 j3) ?_; intro w7 hb7 hg7; rw [put_zmsg] at hb7)
  refine bodyPost_ret (results_cell_row Try.results30 _ _ (w.heap.size + 1) 42 _ (0, 0) _ (by rfl) hb7 Try.underlying42 (by rfl) (by kernel_rfl)) (by rfl) ⟨_, _, _, ps5, rfl, ?_, ?_⟩
  · exact (HF.out.kept (Kept.of_grown hg7 (fun g e h => by have e2 := Option.some.inj e; have h2 : w.heap.size + 2 ≤ g := h; omega))).mono (fun i _ h => by have h2 : w.heap.size + 2 ≤ i := h; omega)
  · exact L5.out.grown hg7 L5.out.size (fun k hk => by have := Option.some.inj hk; omega)

theorem copy_own (F : Nat → Prop) (m : MsgD) (v : Value) (w : World) (h : MsgAt F w v m) (hl : m.light) (hi : m.incs.length ≤ 1000000) :
    Calls Try.prog 30 #[v] w (Owned m w) := by
  obtain ⟨s, o, i, rfl, hls⟩ := h
  exact bagcopy_any w hls hl hi
theorem copy_any (F : Nat → Prop) (m : MsgD) (v : Value) (w : World) (h : MsgAt F w v m) (hl : m.light) (hi : m.incs.length ≤ 1000000) :
    Calls Try.prog 30 #[v] w (Copied m w) := (copy_own F m v w h hl hi).mono fun _ _ => Owned.copied
end Go.Proofs.Ytaimnhlpdkpobaa
