/- The walk over droverlaw04.BagSames: whether any two messages are alike; a copy is. -/
import Derived.Test.YtaimnhlpdkpobaaSameB
import Derived.Test.YtaimnhlpdkpobaaLives4
import Derived.Test.YtaimnhlpdkpobaaNone4
import Derived.Test.YtaimnhlpdkpobaaLit2
import Derived.Test.YtaimnhlpdkpobaaClearK
namespace Go.Proofs.Ytaimnhlpdkpobaa
open Go.RowKit Go.Maps

theorem built_msg (m : MsgD) (s o i : Value) : Try.prog.built 44 [(2, .agg (m.cells s o i).toArray)] = some (ActD.cells ⟨0, 0, m⟩ s o i).toArray := by kernel_rfl
theorem acts_two {F G : Nat → Prop} {w w' : World} {a b : ActD} {s o i s2 o2 i2 : Value} {g : Nat} (h : Lists F w a.m s o i) (h2 : Lists G w b.m s2 o2 i2) (hb : Below w.heap.size w w')
    (hg : w'.heap[g]? = some (.cells (a.cells s o i ++ b.cells s2 o2 i2).toArray 44 (0, 0))) :
    ActsIn (fun _ => True) w' (.slice (some ⟨g, 0, none⟩) 2 2) [⟨a, s, o, i⟩, ⟨b, s2, o2, i2⟩] := by
  obtain ⟨k1, k2, k3⟩ := h.cell
  obtain ⟨j1, j2, j3⟩ := h2.cell
  refine ⟨⟨by simp [ActV.len], ?_, some ⟨g, 0, none⟩, 2, rfl, Nat.le_refl _, by decide, (fun e => by cases e), fun _ => ⟨g, 0, rfl, trivial, lt_of_block hg, fun j v hj => ?_⟩⟩, ?_⟩
  · intro u hu
    simp only [List.flatMap_cons, List.flatMap_nil, List.append_nil] at hu
    rcases List.mem_append.1 hu with hu | hu
    · exact act_one ⟨a, s, o, i⟩ k1 k2 k3 u hu
    · exact act_one ⟨b, s2, o2, i2⟩ j1 j2 j3 u hu
  · rw [Nat.zero_add, cell_of_row w' g j _ _ _ hg]
    have e : (a.cells s o i ++ b.cells s2 o2 i2).toArray.toList = [(⟨a, s, o, i⟩ : ActV), ⟨b, s2, o2, i2⟩].flatMap ActV.cells := by simp [ActV.cells]
    rw [← e] at hj
    simpa using hj
  · intro p hp
    simp only [List.mem_cons, List.not_mem_nil, or_false] at hp
    rcases hp with rfl | rfl
    · exact (h.kept (Kept.of_below hb F)).mono (fun _ _ _ => trivial)
    · exact (h2.kept (Kept.of_below hb G)).mono (fun _ _ _ => trivial)

set_option maxHeartbeats 6000000 in
set_option maxRecDepth 100000 in
theorem law_sames (F : Nat → Prop) (x : MsgD) (s o i : Value) (y : MsgD) (s2 o2 i2 : Value) (w : World) (wx : x.wf) (hl : Lists F w x s o i) (wy : y.wf) (hm : Lists F w y s2 o2 i2) :
    Calls Try.prog 4 #[.agg (x.cells s o i).toArray, .agg (y.cells s2 o2 i2).toArray] w fun e w' => e = .returned (.bool true) ∧ Below w.heap.size w w' := by
  obtain ⟨i0, hi, hz0, hz1, hz2⟩ := info_parts Try.infoAct
  have hz0i : I64 0 := ⟨by decide, by decide⟩
  have HL := hide hl
  have HM := hide hm
  have WX := hide wx
  have WY := hide wy
  obtain ⟨w0, hw0⟩ : ∃ w0, w0 = ((w.alloc (.cells (x.cells s o i).toArray 42 (0, 0))).alloc (.cells (y.cells s2 o2 i2).toArray 42 (0, 0))) := ⟨_, rfl⟩
  have L0 : Hid (Below w.heap.size w w0) := by rw [hw0]; exact ((Below.refl _ _).alloc (Nat.le_refl _) _).alloc (by simp) _
  have X0 : Hid (((w.alloc (.cells (x.cells s o i).toArray 42 (0, 0))).alloc (.cells (y.cells s2 o2 i2).toArray 42 (0, 0))).heap[w.heap.size]? = some (.cells (x.cells s o i).toArray 42 (0, 0))) := (heap_alloc_old _ _ (by simp)).trans (heap_alloc_new _ _)
  have Y0 : Hid (((w.alloc (.cells (x.cells s o i).toArray 42 (0, 0))).alloc (.cells (y.cells s2 o2 i2).toArray 42 (0, 0))).heap[w.heap.size + 1]? = some (.cells (y.cells s2 o2 i2).toArray 42 (0, 0))) := heap_alloc2_new w _ _
  have HS0 : Hid (w0.heap.size = w.heap.size + 1 + 1) := by rw [hw0]; show _ = _; simp
  have HW0 := hide hw0
  clear hl hm wx wy hw0
  go_enter Try.func4, Try.ntmps4
  go_wp2_with (first
    | (refine wpList_load_box (by rfl) 42 _ (by rfl) (w.heap.size) 0 (by rfl) 42 _ (X0.out) 34 _ Try.underlying42 (by rfl) (by kernel_rfl) (x.cells s o i) (by rfl) (by rfl) ?_)
    | (refine wpList_load_box (by rfl) 42 _ (by rfl) (w.heap.size + 1) 0 (by rfl) 42 _ (Y0.out) 34 _ Try.underlying42 (by rfl) (by kernel_rfl) (y.cells s2 o2 i2) (by rfl) (by rfl) ?_)
    | (refine wpList_build_one (by rfl) 44 2 (.tmp 5) (by rfl) (.agg (x.cells s o i).toArray) (by rfl) _ (built_msg x s o i) ?_)
    | (refine wpList_build_one (by rfl) 44 2 (.tmp 7) (by rfl) (.agg (y.cells s2 o2 i2).toArray) (by rfl) _ (built_msg y s2 o2 i2) ?_)
    | (refine wpList_buildSlice_two (by rfl) 22 44 _ _ (by rfl) i0 _ 36 Try.underlying22 hi hz0 hz1 (by decide) (by decide) (ActD.cells ⟨0, 0, x⟩ s o i).toArray (ActD.cells ⟨0, 0, y⟩ s2 o2 i2).toArray (by rfl) (by rfl) (by rfl) (by rfl) ?_))
  have hlit : Below w0.heap.size w0 (w0.alloc (.cells (ActD.cells ⟨0, 0, x⟩ s o i ++ ActD.cells ⟨0, 0, y⟩ s2 o2 i2).toArray 44 (0, 0))) := (Below.refl _ _).alloc (Nat.le_refl _) _
  have hx0 := X0.out
  have hy0 := Y0.out
  rw [← HW0.out] at hx0 hy0 ⊢
  have CL := light_any (fun _ => True) _ [⟨⟨0, 0, x⟩, s, o, i⟩, ⟨⟨0, 0, y⟩, s2, o2, i2⟩] _ (acts_two (a := ⟨0, 0, x⟩) (b := ⟨0, 0, y⟩) (HL.out.kept (Kept.of_below L0.out _)) (HM.out.kept (Kept.of_below L0.out _)) hlit (heap_alloc_new w0 _)) (fun p hp => by
    simp only [List.mem_cons, List.not_mem_nil, or_false] at hp
    rcases hp with rfl | rfl
    · exact ⟨hz0i, hz0i, WX.out⟩
    · exact ⟨hz0i, hz0i, WY.out⟩)
  rw [HS0.out] at CL
  refine CL.mono ?_
  rintro e w1 ⟨bl, rfl, hok, hb1⟩
  have L1 : Hid (Below w0.heap.size w0 w1) := hlit.trans (Below.mono hb1 (by simp))
  have LW : Hid (Below w.heap.size w w1) := L0.out.trans (L1.out.mono L0.out.size)
  have X1 : Hid (w1.heap[w.heap.size]? = some (.cells (x.cells s o i).toArray 42 (0, 0))) := (L1.out.block _ (lt_of_block hx0)).trans hx0
  have Y1 : Hid (w1.heap[w.heap.size + 1]? = some (.cells (y.cells s2 o2 i2).toArray 42 (0, 0))) := (L1.out.block _ (lt_of_block hy0)).trans hy0
  have HOK := hide hok
  clear hok hb1 CL hlit hx0 hy0 hi hz0 hz1 hz2
  cases bl with
  | false =>
    go_wp2_with (fail)
    refine (lives_any _).mono ?_
    rintro e w2 ⟨rfl, hb2⟩
    have HB2 := hide (LW.out.trans (hb2.mono LW.out.size))
    clear hb2
    go_wp2
    go_ret
    exact ⟨rfl, HB2.out⟩
  | true =>
    have OX : Hid x.ok := (HOK.out rfl).2 ⟨⟨0, 0, x⟩, s, o, i⟩ (by simp)
    have OY : Hid y.ok := (HOK.out rfl).2 ⟨⟨0, 0, y⟩, s2, o2, i2⟩ (by simp)
    have PX : Hid (∀ w', Below w1.heap.size w1 w' → Lists F w' x s o i) := fun w' hb => HL.out.kept (Kept.of_below (LW.out.trans (hb.mono LW.out.size)) _)
    have PY : Hid (∀ w', Below w1.heap.size w1 w' → Lists F w' y s2 o2 i2) := fun w' hb => HM.out.kept (Kept.of_below (LW.out.trans (hb.mono LW.out.size)) _)
    obtain ⟨qq, hqq⟩ : ∃ q, decide (x = y) = q := ⟨_, rfl⟩
    have C1 := fun w' (hb : Below w1.heap.size w1 w') => sameb_any F F s o i s2 o2 i2 x y w' (PX.out w' hb) (PY.out w' hb)
    have C2 := fun w' (hb : Below w1.heap.size w1 w') => same_any F F s o i s2 o2 i2 x y w' (PX.out w' hb) (PY.out w' hb)
    rw [hqq] at C1 C2
    have HC1 := hide C1
    have HC2 := hide C2
    clear C1 C2 hqq
    go_wp2
    refine wp_region_L (by kernel_rfl) ?_
    refine wpAnyL_take (i := 0) (d := some 13) (v := .agg (x.cells s o i).toArray) rfl rfl (by kernel_rfl) (by kernel_rfl) (by kernel_rfl) (fun _ _ _ h => h) (by rfl) ?yaa0 ?_
    case yaa0 => (intro w' hw'; have hlt : Below w1.heap.size w1 w' := ((Below.refl w1.heap.size w1).drew).trans hw'; exact exec_load_box 42 _ (by rfl) w.heap.size 0 (by rfl) 42 _ ((hlt.block _ (lt_of_block X1.out)).trans X1.out) 34 _ Try.underlying42 (by rfl) (by kernel_rfl) (x.cells s o i) (by rfl) (by rfl))
    simp only [Act.put]; try simp only [List.setIfInBounds_toArray]; try simp only [List.set_cons_zero, List.set_cons_succ]
    refine wpAnyL_take (i := 1) (d := some 14) (v := .agg (y.cells s2 o2 i2).toArray) rfl rfl (by kernel_rfl) (by kernel_rfl) (by kernel_rfl) (fun _ _ _ h => h) (by rfl) ?yaa1 ?_
    case yaa1 => (intro w' hw'; have hlt : Below w1.heap.size w1 w' := ((Below.refl w1.heap.size w1).drew).trans hw'; exact exec_load_box 42 _ (by rfl) (w.heap.size + 1) 0 (by rfl) 42 _ ((hlt.block _ (lt_of_block Y1.out)).trans Y1.out) 34 _ Try.underlying42 (by rfl) (by kernel_rfl) (y.cells s2 o2 i2) (by rfl) (by rfl))
    simp only [Act.put]; try simp only [List.setIfInBounds_toArray]; try simp only [List.set_cons_zero, List.set_cons_succ]
    refine wpAnyL_take (i := 3) (d := some 16) (v := .agg (x.cells s o i).toArray) rfl rfl (by kernel_rfl) (by kernel_rfl) (by kernel_rfl) (fun _ _ _ h => h) (by rfl) ?yaa3 ?_
    case yaa3 => (intro w' hw'; have hlt : Below w1.heap.size w1 w' := ((Below.refl w1.heap.size w1).drew).trans hw'; exact exec_load_box 42 _ (by rfl) w.heap.size 0 (by rfl) 42 _ ((hlt.block _ (lt_of_block X1.out)).trans X1.out) 34 _ Try.underlying42 (by rfl) (by kernel_rfl) (x.cells s o i) (by rfl) (by rfl))
    simp only [Act.put]; try simp only [List.setIfInBounds_toArray]; try simp only [List.set_cons_zero, List.set_cons_succ]
    refine wpAnyL_take (i := 4) (d := some 17) (v := .agg (y.cells s2 o2 i2).toArray) rfl rfl (by kernel_rfl) (by kernel_rfl) (by kernel_rfl) (fun _ _ _ h => h) (by rfl) ?yaa4 ?_
    case yaa4 => (intro w' hw'; have hlt : Below w1.heap.size w1 w' := ((Below.refl w1.heap.size w1).drew).trans hw'; exact exec_load_box 42 _ (by rfl) (w.heap.size + 1) 0 (by rfl) 42 _ ((hlt.block _ (lt_of_block Y1.out)).trans Y1.out) 34 _ Try.underlying42 (by rfl) (by kernel_rfl) (y.cells s2 o2 i2) (by rfl) (by rfl))
    simp only [Act.put]; try simp only [List.setIfInBounds_toArray]; try simp only [List.set_cons_zero, List.set_cons_succ]
    refine wpAnyL_only (i := 2) rfl (by kernel_rfl) (by rfl) fun K hK => ?_
    go_simp
    refine (HC1.out _ (Below.refl w1.heap.size w1).drew).mono ?_
    rintro e w2 ⟨rfl, hb2⟩
    have L2 : Hid (Below w1.heap.size w1 w2) := (Below.refl w1.heap.size w1).drew.trans hb2
    refine hK.out _ _ hb2 ?_
    clear hb2
    clear hK K
    try (simp only [Act.put]; try simp only [List.setIfInBounds_toArray]; try simp only [List.set_cons_zero, List.set_cons_succ])
    refine wpAnyL_only (i := 5) rfl (by kernel_rfl) (by rfl) fun K hK => ?_
    go_simp
    refine (HC2.out _ L2.out).mono ?_
    rintro e w3 ⟨rfl, hb3⟩
    have L3 : Hid (Below w1.heap.size w1 w3) := L2.out.trans (hb3.mono L2.out.size)
    refine hK.out _ _ hb3 ?_
    clear hb3
    clear hK K
    try (simp only [Act.put]; try simp only [List.setIfInBounds_toArray]; try simp only [List.set_cons_zero, List.set_cons_succ])
    refine wpAnyL_take (i := 6) (d := some 19) (v := ?vaa6) rfl rfl (by kernel_rfl) (by kernel_rfl) (by kernel_rfl) (fun _ _ _ h => h) (by rfl) ?yaa6 ?_
    case yaa6 => (intro w' hw'; go_simp; try (with_reducible rfl))
    simp only [Act.put]; try simp only [List.setIfInBounds_toArray]; try simp only [List.set_cons_zero, List.set_cons_succ]
    refine wpAnyL_take (i := 7) (d := some 20) (v := ?vaa7) rfl rfl (by kernel_rfl) (by kernel_rfl) (by kernel_rfl) (fun _ _ _ h => h) (by rfl) ?yaa7 ?_
    case yaa7 => (intro w' hw'; go_simp; try (with_reducible rfl))
    simp only [Act.put]; try simp only [List.setIfInBounds_toArray]; try simp only [List.set_cons_zero, List.set_cons_succ]
    refine wpAnyL_take (i := 8) (d := some 21) (v := .agg (x.cells s o i).toArray) rfl rfl (by kernel_rfl) (by kernel_rfl) (by kernel_rfl) (fun _ _ _ h => h) (by rfl) ?yaa8 ?_
    case yaa8 => (intro w' hw'; have hlt : Below w1.heap.size w1 w' := (L3.out).trans (Below.mono hw' L3.out.size); exact exec_load_box 42 _ (by rfl) w.heap.size 0 (by rfl) 42 _ ((hlt.block _ (lt_of_block X1.out)).trans X1.out) 34 _ Try.underlying42 (by rfl) (by kernel_rfl) (x.cells s o i) (by rfl) (by rfl))
    simp only [Act.put]; try simp only [List.setIfInBounds_toArray]; try simp only [List.set_cons_zero, List.set_cons_succ]
    refine wpAnyL_take (i := 9) (d := some 22) (v := .agg (x.cells s o i).toArray) rfl rfl (by kernel_rfl) (by kernel_rfl) (by kernel_rfl) (fun _ _ _ h => h) (by rfl) ?yaa9 ?_
    case yaa9 => (intro w' hw'; have hlt : Below w1.heap.size w1 w' := (L3.out).trans (Below.mono hw' L3.out.size); exact exec_load_box 42 _ (by rfl) w.heap.size 0 (by rfl) 42 _ ((hlt.block _ (lt_of_block X1.out)).trans X1.out) 34 _ Try.underlying42 (by rfl) (by kernel_rfl) (x.cells s o i) (by rfl) (by rfl))
    simp only [Act.put]; try simp only [List.setIfInBounds_toArray]; try simp only [List.set_cons_zero, List.set_cons_succ]
    refine wpAnyL_only (i := 10) rfl (by kernel_rfl) (by rfl) fun K hK => ?_
    go_simp
    refine (copy_any F x (.agg (x.cells s o i).toArray) w3 ⟨s, o, i, rfl, PX.out w3 L3.out⟩ OX.out.1 (by have := OX.out.2; omega)).mono ?_
    rintro e w4 ⟨v4, rfl, hv4, hb4⟩
    have L4 : Hid (Below w1.heap.size w1 w4) := L3.out.trans (hb4.mono L3.out.size)
    obtain ⟨s4, o4, i4, rfl, hl4⟩ := hv4
    have HL4 := hide hl4
    refine hK.out _ _ hb4 ?_
    clear hb4 hl4
    clear hK K
    try (simp only [Act.put]; try simp only [List.setIfInBounds_toArray]; try simp only [List.set_cons_zero, List.set_cons_succ])
    refine wpAnyL_only (i := 11) rfl (by kernel_rfl) (by rfl) fun K hK => ?_
    go_simp
    refine (sameb_any F (w3.heap.size ≤ ·) s o i s4 o4 i4 x x w4 (PX.out w4 L4.out) HL4.out).mono ?_
    rw [decide_eq_true (rfl : x = x)]
    rintro e w5 ⟨rfl, hb5⟩
    have L5 : Hid (Below w1.heap.size w1 w5) := L4.out.trans (hb5.mono L4.out.size)
    refine hK.out _ _ hb5 ?_
    clear hb5
    clear hK K
    try (simp only [Act.put]; try simp only [List.setIfInBounds_toArray]; try simp only [List.set_cons_zero, List.set_cons_succ])
    refine wpAnyL_take (i := 12) (d := some 25) (v := ?vaa12) rfl rfl (by kernel_rfl) (by kernel_rfl) (by kernel_rfl) (fun _ _ _ h => h) (by rfl) ?yaa12 ?_
    case yaa12 => (intro w' hw'; go_simp; try (with_reducible rfl))
    simp only [Act.put]; try simp only [List.setIfInBounds_toArray]; try simp only [List.set_cons_zero, List.set_cons_succ]
    refine wpAnyL_take (i := 13) (d := some 26) (v := ?vaa13) rfl rfl (by kernel_rfl) (by kernel_rfl) (by kernel_rfl) (fun _ _ _ h => h) (by rfl) ?yaa13 ?_
    case yaa13 => (intro w' hw'; go_simp; try (with_reducible rfl))
    simp only [Act.put]; try simp only [List.setIfInBounds_toArray]; try simp only [List.set_cons_zero, List.set_cons_succ]
    refine wpAnyL_take (i := 14) (d := some 27) (v := .agg (y.cells s2 o2 i2).toArray) rfl rfl (by kernel_rfl) (by kernel_rfl) (by kernel_rfl) (fun _ _ _ h => h) (by rfl) ?yaa14 ?_
    case yaa14 => (intro w' hw'; have hlt : Below w1.heap.size w1 w' := (L5.out).trans (Below.mono hw' L5.out.size); exact exec_load_box 42 _ (by rfl) (w.heap.size + 1) 0 (by rfl) 42 _ ((hlt.block _ (lt_of_block Y1.out)).trans Y1.out) 34 _ Try.underlying42 (by rfl) (by kernel_rfl) (y.cells s2 o2 i2) (by rfl) (by rfl))
    simp only [Act.put]; try simp only [List.setIfInBounds_toArray]; try simp only [List.set_cons_zero, List.set_cons_succ]
    refine wpAnyL_take (i := 15) (d := some 28) (v := .agg (y.cells s2 o2 i2).toArray) rfl rfl (by kernel_rfl) (by kernel_rfl) (by kernel_rfl) (fun _ _ _ h => h) (by rfl) ?yaa15 ?_
    case yaa15 => (intro w' hw'; have hlt : Below w1.heap.size w1 w' := (L5.out).trans (Below.mono hw' L5.out.size); exact exec_load_box 42 _ (by rfl) (w.heap.size + 1) 0 (by rfl) 42 _ ((hlt.block _ (lt_of_block Y1.out)).trans Y1.out) 34 _ Try.underlying42 (by rfl) (by kernel_rfl) (y.cells s2 o2 i2) (by rfl) (by rfl))
    simp only [Act.put]; try simp only [List.setIfInBounds_toArray]; try simp only [List.set_cons_zero, List.set_cons_succ]
    refine wpAnyL_only (i := 16) rfl (by kernel_rfl) (by rfl) fun K hK => ?_
    go_simp
    refine (copy_any F y (.agg (y.cells s2 o2 i2).toArray) w5 ⟨s2, o2, i2, rfl, PY.out w5 L5.out⟩ OY.out.1 (by have := OY.out.2; omega)).mono ?_
    rintro e w6 ⟨v6, rfl, hv6, hb6⟩
    have L6 : Hid (Below w1.heap.size w1 w6) := L5.out.trans (hb6.mono L5.out.size)
    obtain ⟨s6, o6, i6, rfl, hl6⟩ := hv6
    have HL6 := hide hl6
    refine hK.out _ _ hb6 ?_
    clear hb6 hl6
    clear hK K
    try (simp only [Act.put]; try simp only [List.setIfInBounds_toArray]; try simp only [List.set_cons_zero, List.set_cons_succ])
    refine wpAnyL_only (i := 17) rfl (by kernel_rfl) (by rfl) fun K hK => ?_
    go_simp
    refine (sameb_any F (w5.heap.size ≤ ·) s2 o2 i2 s6 o6 i6 y y w6 (PY.out w6 L6.out) HL6.out).mono ?_
    rw [decide_eq_true (rfl : y = y)]
    rintro e w7 ⟨rfl, hb7⟩
    have L7 : Hid (Below w1.heap.size w1 w7) := L6.out.trans (hb7.mono L6.out.size)
    refine hK.out _ _ hb7 ?_
    clear hb7
    clear hK K
    try (simp only [Act.put]; try simp only [List.setIfInBounds_toArray]; try simp only [List.set_cons_zero, List.set_cons_succ])
    refine wpAnyL_take (i := 18) (d := some 31) (v := ?vaa18) rfl rfl (by kernel_rfl) (by kernel_rfl) (by kernel_rfl) (fun _ _ _ h => h) (by rfl) ?yaa18 ?_
    case yaa18 => (intro w' hw'; go_simp; try (with_reducible rfl))
    simp only [Act.put]; try simp only [List.setIfInBounds_toArray]; try simp only [List.set_cons_zero, List.set_cons_succ]
    refine wpAnyL_take (i := 19) (d := some 32) (v := ?vaa19) rfl rfl (by kernel_rfl) (by kernel_rfl) (by kernel_rfl) (fun _ _ _ h => h) (by rfl) ?yaa19 ?_
    case yaa19 => (intro w' hw'; go_simp; try (with_reducible rfl))
    simp only [Act.put]; try simp only [List.setIfInBounds_toArray]; try simp only [List.set_cons_zero, List.set_cons_succ]
    refine wpAnyL_only (i := 20) rfl (by kernel_rfl) (by rfl) fun K hK => ?_
    go_simp
    refine (lives_any _).mono ?_
    rintro e w9 ⟨rfl, hb9⟩
    have L9 : Hid (Below w1.heap.size w1 w9) := L7.out.trans (hb9.mono L7.out.size)
    refine hK.out _ _ hb9 ?_
    clear hb9
    clear hK K
    try (simp only [Act.put]; try simp only [List.setIfInBounds_toArray]; try simp only [List.set_cons_zero, List.set_cons_succ])
    refine wpAnyL_take (i := 21) (d := some 34) (v := ?vaa21) rfl rfl (by kernel_rfl) (by kernel_rfl) (by kernel_rfl) (fun _ _ _ h => h) (by rfl) ?yaa21 ?_
    case yaa21 => (intro w' hw'; go_simp; try (with_reducible rfl))
    simp only [Act.put]; try simp only [List.setIfInBounds_toArray]; try simp only [List.set_cons_zero, List.set_cons_succ]
    refine wpAnyL_take (i := 22) (d := some 4) (v := ?vaa22) rfl rfl (by kernel_rfl) (by kernel_rfl) (by kernel_rfl) (fun _ _ _ h => h) (by rfl) ?yaa22 ?_
    case yaa22 => (intro w' hw'; go_simp; try (with_reducible rfl))
    simp only [Act.put]; try simp only [List.setIfInBounds_toArray]; try simp only [List.set_cons_zero, List.set_cons_succ]
    refine wpAnyL_done (by kernel_rfl) ?_ _
    have HE := hide (LW.out.trans (L9.out.mono LW.out.size))
    go_wp2
    go_ret
    exact ⟨rfl, HE.out⟩
end Go.Proofs.Ytaimnhlpdkpobaa
