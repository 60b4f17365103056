/- Package table: Forget. -/
import Derived.Test.YtmakibpbodfchaaTabC
namespace Go.Proofs.Ytmakibpbodfchaa
open Go.RowKit

theorem forget_no {p : Value} (w : World) (h : NoTab w p) : Calls Try.prog 14 #[p] w fun e w' => e = .returned (.tuple #[]) ∧ w = w' := by
  have C := hide (made_no w h)
  clear h
  go_enter Try.func14, Try.ntmps14
  go_wp2_with (fail)
  refine C.out.mono ?_
  rintro e w1 ⟨rfl, rfl⟩
  go_wp2
  refine bodyPost_ret (results_none rfl _ _ _) rfl ?_
  exact ⟨rfl, rfl⟩

/-- The first k clients' is forgotten. -/
def Tab.fgt (T : Tab) : Nat → Tab
  | 0 => T
  | 1 => ⟨T.a.forgotten, T.b, T.c, T.d⟩
  | 2 => ⟨T.a.forgotten, T.b.forgotten, T.c, T.d⟩
  | 3 => ⟨T.a.forgotten, T.b.forgotten, T.c.forgotten, T.d⟩
  | _ => T.forgotten
def Tab.mem (T : Tab) : List Value := T.a.cells ++ T.b.cells ++ T.c.cells ++ T.d.cells
theorem tab_mem (T : Tab) : (T.cells.toArray.toList.drop 1).take 24 = T.mem := by simp [Tab.cells, Tab.mem, Mry.cells]
theorem idx_0 (T : Tab) (w : World) : (Instr.index 50 (.agg T.mem.toArray) (.int .i64 0)).run Try.prog w = .ok T.a.val w := by kernel_rfl
theorem fgt_0 (T : Tab) : (T.fgt 0).put 1 T.a.forgotten = T.fgt 1 := by simp [Tab.put, Tab.fgt]
theorem idx_1 (T : Tab) (w : World) : (Instr.index 50 (.agg T.mem.toArray) (.int .i64 1)).run Try.prog w = .ok T.b.val w := by kernel_rfl
theorem fgt_1 (T : Tab) : (T.fgt 1).put 2 T.b.forgotten = T.fgt 2 := by simp [Tab.put, Tab.fgt]
theorem idx_2 (T : Tab) (w : World) : (Instr.index 50 (.agg T.mem.toArray) (.int .i64 2)).run Try.prog w = .ok T.c.val w := by kernel_rfl
theorem fgt_2 (T : Tab) : (T.fgt 2).put 3 T.c.forgotten = T.fgt 3 := by simp [Tab.put, Tab.fgt]
theorem idx_3 (T : Tab) (w : World) : (Instr.index 50 (.agg T.mem.toArray) (.int .i64 3)).run Try.prog w = .ok T.d.val w := by kernel_rfl
theorem fgt_3 (T : Tab) : (T.fgt 3).put 4 T.d.forgotten = T.fgt 4 := by simp [Tab.put, Tab.fgt, Tab.forgotten]

set_option maxHeartbeats 4000000 in
set_option maxRecDepth 100000 in
theorem forget_any {g : Nat} {T : Tab} (w : World) (h : TabAt w g T) : Calls Try.prog 14 #[.pointer (some ⟨g, 0, none⟩)] w fun e w' => e = .returned (.tuple #[]) ∧ TabAt w' g T.forgotten ∧ w.grownBy w' (some g) := by
  have C := hide (made_yes w h)
  have H := hide h
  clear h
  go_enter Try.func14, Try.ntmps14
  go_wp2_with (fail)
  refine C.out.mono ?_
  rintro e w1 ⟨rfl, rfl⟩
  go_wp2_with (refine wpList_load_box (by rfl) 50 _ (by rfl) g 1 (by rfl) 52 _ H.out 24 _ Try.underlying50 (by rfl) (by kernel_rfl) T.mem (by exact tab_mem T) (by rfl) ?_)
  go_loopw [11] (fun v wr => ∃ k : Nat, v = .int .i64 (k : Int) ∧ k ≤ 4 ∧ TabAt wr g (T.fgt k) ∧ w.grownBy wr (some g)) (fun v _ => 4 - (intOf v).toNat)
  case atStart => exact ⟨0, rfl, by omega, H.out, World.grownBy.refl w _⟩
  case round =>
    obtain ⟨k, rfl, hk, ht, hg⟩ := hrel
    have HT := hide ht
    have HG := hide hg
    clear ht hg
    have hk4 : k = 0 ∨ k = 1 ∨ k = 2 ∨ k = 3 ∨ k = 4 := by omega
    clear hk
    rcases hk4 with rfl | rfl | rfl | rfl | rfl
    · have hi := idx_0 T
      go_wp2_with (refine wpList_store_mry (m := T.a) (by rfl) _ _ (by rfl) (by rfl) (MryAt.new wr) (by rfl) ?_; intro w2 hx2 hg2; have HX2 := hide hx2; have HB2 : Hid (Below wr.heap.size wr w2) := ((Below.refl _ _).alloc (Nat.le_refl _) _).grown hg2 (by simp) (fun k hk => by have := Option.some.inj hk; omega); have HT2 := hide (HT.out.later HB2.out); clear hx2 hg2)
      refine wp_region_S (fun j => j == 7) (by kernel_rfl) ?_
      refine wpAnyS_take (i := 0) (d := some 15) (v := ?vaf00) rfl rfl (by kernel_rfl) (by kernel_rfl) (by kernel_rfl) (by kernel_rfl) (by kernel_rfl) (fun _ _ _ h => h) (by rfl) ?yaf00 ?_
      case yaf00 => (intro w' hw'; go_simp; try (with_reducible rfl))
      simp only [Act.put]; try simp only [List.setIfInBounds_toArray]; try simp only [List.set_cons_zero, List.set_cons_succ]
      refine wpAnyS_take (i := 1) (d := some 16) (v := ?vaf01) rfl rfl (by kernel_rfl) (by kernel_rfl) (by kernel_rfl) (by kernel_rfl) (by kernel_rfl) (fun _ _ _ h => h) (by rfl) ?yaf01 ?_
      case yaf01 => (intro w' hw'; go_simp; try (with_reducible rfl))
      simp only [Act.put]; try simp only [List.setIfInBounds_toArray]; try simp only [List.set_cons_zero, List.set_cons_succ]
      refine wpAnyS_take (i := 2) (d := some 17) (v := T.a.val) rfl rfl (by kernel_rfl) (by kernel_rfl) (by kernel_rfl) (by kernel_rfl) (by kernel_rfl) (fun _ _ _ h => h) (by rfl) ?yaf02 ?_
      case yaf02 => (intro w' hw'; exact exec_load_mry _ (by rfl) (by rfl) (HX2.out.later ((Below.refl _ _).drew.trans hw')))
      simp only [Act.put]; try simp only [List.setIfInBounds_toArray]; try simp only [List.set_cons_zero, List.set_cons_succ]
      refine wpAnyS_take (i := 4) (d := some 19) (v := ?vaf04) rfl rfl (by kernel_rfl) (by kernel_rfl) (by kernel_rfl) (by kernel_rfl) (by kernel_rfl) (fun _ _ _ h => h) (by rfl) ?yaf04 ?_
      case yaf04 => (intro w' hw'; go_simp; try (with_reducible rfl))
      simp only [Act.put]; try simp only [List.setIfInBounds_toArray]; try simp only [List.set_cons_zero, List.set_cons_succ]
      refine wpAnyS_take (i := 5) (d := some 20) (v := ?vaf05) rfl rfl (by kernel_rfl) (by kernel_rfl) (by kernel_rfl) (by kernel_rfl) (by kernel_rfl) (fun _ _ _ h => h) (by rfl) ?yaf05 ?_
      case yaf05 => (intro w' hw'; go_simp; try (with_reducible rfl))
      simp only [Act.put]; try simp only [List.setIfInBounds_toArray]; try simp only [List.set_cons_zero, List.set_cons_succ]
      refine wpAnyS_only (i := 3) rfl (by kernel_rfl) (by rfl) fun K hK => ?_
      go_simp
      refine (forgotten_any T.a _).mono ?_
      rintro e w3 ⟨rfl, hb3⟩
      have HB3 : Hid (Below w2.heap.size w2 w3) := (Below.refl _ _).drew.trans hb3
      have HT3 := hide (HT2.out.later HB3.out)
      refine hK.out _ _ hb3 ?_
      clear hb3
      clear hK K
      try (simp only [Act.put]; try simp only [List.setIfInBounds_toArray]; try simp only [List.set_cons_zero, List.set_cons_succ])
      refine wpAnyS_take (i := 6) (d := some 21) (v := ?vaf06) rfl rfl (by kernel_rfl) (by kernel_rfl) (by kernel_rfl) (by kernel_rfl) (by kernel_rfl) (fun _ _ _ h => h) (by rfl) ?yaf06 ?_
      case yaf06 => (intro w' hw'; go_simp; try (with_reducible rfl))
      simp only [Act.put]; try simp only [List.setIfInBounds_toArray]; try simp only [List.set_cons_zero, List.set_cons_succ]
      refine wpAnyS_write (i := 7) rfl rfl (by kernel_rfl) (by rfl) fun K hK => ?_
      refine wp_store_tab (T := T.fgt 0) (m := T.a.forgotten) (c := 1) _ _ (by rfl) (by decide) (by rfl) HT3.out (by rfl) ?_
      intro w6 ht6 hg6
      rw [fgt_0] at ht6
      have HT6 := hide ht6
      have HG6 := hide hg6
      clear ht6 hg6
      refine hK.out _ _ ?_
      clear hK K
      try simp only [Act.put]
      refine wpAnyS_done (by kernel_rfl) ?_ _
      go_wp2
      go_roundw
      case rel =>
        have hb := HB2.out.trans (HB3.out.mono HB2.out.size)
        exact ⟨1, by first | rfl | go_num, by omega, HT6.out, (HG.out.trans (grown_later hb _)).trans HG6.out⟩
      case measure => simp [intOf]
    · have hi := idx_1 T
      go_wp2_with (refine wpList_store_mry (m := T.b) (by rfl) _ _ (by rfl) (by rfl) (MryAt.new wr) (by rfl) ?_; intro w2 hx2 hg2; have HX2 := hide hx2; have HB2 : Hid (Below wr.heap.size wr w2) := ((Below.refl _ _).alloc (Nat.le_refl _) _).grown hg2 (by simp) (fun k hk => by have := Option.some.inj hk; omega); have HT2 := hide (HT.out.later HB2.out); clear hx2 hg2)
      refine wp_region_S (fun j => j == 7) (by kernel_rfl) ?_
      refine wpAnyS_take (i := 0) (d := some 15) (v := ?vaf10) rfl rfl (by kernel_rfl) (by kernel_rfl) (by kernel_rfl) (by kernel_rfl) (by kernel_rfl) (fun _ _ _ h => h) (by rfl) ?yaf10 ?_
      case yaf10 => (intro w' hw'; go_simp; try (with_reducible rfl))
      simp only [Act.put]; try simp only [List.setIfInBounds_toArray]; try simp only [List.set_cons_zero, List.set_cons_succ]
      refine wpAnyS_take (i := 1) (d := some 16) (v := ?vaf11) rfl rfl (by kernel_rfl) (by kernel_rfl) (by kernel_rfl) (by kernel_rfl) (by kernel_rfl) (fun _ _ _ h => h) (by rfl) ?yaf11 ?_
      case yaf11 => (intro w' hw'; go_simp; try (with_reducible rfl))
      simp only [Act.put]; try simp only [List.setIfInBounds_toArray]; try simp only [List.set_cons_zero, List.set_cons_succ]
      refine wpAnyS_take (i := 2) (d := some 17) (v := T.b.val) rfl rfl (by kernel_rfl) (by kernel_rfl) (by kernel_rfl) (by kernel_rfl) (by kernel_rfl) (fun _ _ _ h => h) (by rfl) ?yaf12 ?_
      case yaf12 => (intro w' hw'; exact exec_load_mry _ (by rfl) (by rfl) (HX2.out.later ((Below.refl _ _).drew.trans hw')))
      simp only [Act.put]; try simp only [List.setIfInBounds_toArray]; try simp only [List.set_cons_zero, List.set_cons_succ]
      refine wpAnyS_take (i := 4) (d := some 19) (v := ?vaf14) rfl rfl (by kernel_rfl) (by kernel_rfl) (by kernel_rfl) (by kernel_rfl) (by kernel_rfl) (fun _ _ _ h => h) (by rfl) ?yaf14 ?_
      case yaf14 => (intro w' hw'; go_simp; try (with_reducible rfl))
      simp only [Act.put]; try simp only [List.setIfInBounds_toArray]; try simp only [List.set_cons_zero, List.set_cons_succ]
      refine wpAnyS_take (i := 5) (d := some 20) (v := ?vaf15) rfl rfl (by kernel_rfl) (by kernel_rfl) (by kernel_rfl) (by kernel_rfl) (by kernel_rfl) (fun _ _ _ h => h) (by rfl) ?yaf15 ?_
      case yaf15 => (intro w' hw'; go_simp; try (with_reducible rfl))
      simp only [Act.put]; try simp only [List.setIfInBounds_toArray]; try simp only [List.set_cons_zero, List.set_cons_succ]
      refine wpAnyS_only (i := 3) rfl (by kernel_rfl) (by rfl) fun K hK => ?_
      go_simp
      refine (forgotten_any T.b _).mono ?_
      rintro e w3 ⟨rfl, hb3⟩
      have HB3 : Hid (Below w2.heap.size w2 w3) := (Below.refl _ _).drew.trans hb3
      have HT3 := hide (HT2.out.later HB3.out)
      refine hK.out _ _ hb3 ?_
      clear hb3
      clear hK K
      try (simp only [Act.put]; try simp only [List.setIfInBounds_toArray]; try simp only [List.set_cons_zero, List.set_cons_succ])
      refine wpAnyS_take (i := 6) (d := some 21) (v := ?vaf16) rfl rfl (by kernel_rfl) (by kernel_rfl) (by kernel_rfl) (by kernel_rfl) (by kernel_rfl) (fun _ _ _ h => h) (by rfl) ?yaf16 ?_
      case yaf16 => (intro w' hw'; go_simp; try (with_reducible rfl))
      simp only [Act.put]; try simp only [List.setIfInBounds_toArray]; try simp only [List.set_cons_zero, List.set_cons_succ]
      refine wpAnyS_write (i := 7) rfl rfl (by kernel_rfl) (by rfl) fun K hK => ?_
      refine wp_store_tab (T := T.fgt 1) (m := T.b.forgotten) (c := 2) _ _ (by rfl) (by decide) (by rfl) HT3.out (by rfl) ?_
      intro w6 ht6 hg6
      rw [fgt_1] at ht6
      have HT6 := hide ht6
      have HG6 := hide hg6
      clear ht6 hg6
      refine hK.out _ _ ?_
      clear hK K
      try simp only [Act.put]
      refine wpAnyS_done (by kernel_rfl) ?_ _
      go_wp2
      go_roundw
      case rel =>
        have hb := HB2.out.trans (HB3.out.mono HB2.out.size)
        exact ⟨2, by first | rfl | go_num, by omega, HT6.out, (HG.out.trans (grown_later hb _)).trans HG6.out⟩
      case measure => simp [intOf]
    · have hi := idx_2 T
      go_wp2_with (refine wpList_store_mry (m := T.c) (by rfl) _ _ (by rfl) (by rfl) (MryAt.new wr) (by rfl) ?_; intro w2 hx2 hg2; have HX2 := hide hx2; have HB2 : Hid (Below wr.heap.size wr w2) := ((Below.refl _ _).alloc (Nat.le_refl _) _).grown hg2 (by simp) (fun k hk => by have := Option.some.inj hk; omega); have HT2 := hide (HT.out.later HB2.out); clear hx2 hg2)
      refine wp_region_S (fun j => j == 7) (by kernel_rfl) ?_
      refine wpAnyS_take (i := 0) (d := some 15) (v := ?vaf20) rfl rfl (by kernel_rfl) (by kernel_rfl) (by kernel_rfl) (by kernel_rfl) (by kernel_rfl) (fun _ _ _ h => h) (by rfl) ?yaf20 ?_
      case yaf20 => (intro w' hw'; go_simp; try (with_reducible rfl))
      simp only [Act.put]; try simp only [List.setIfInBounds_toArray]; try simp only [List.set_cons_zero, List.set_cons_succ]
      refine wpAnyS_take (i := 1) (d := some 16) (v := ?vaf21) rfl rfl (by kernel_rfl) (by kernel_rfl) (by kernel_rfl) (by kernel_rfl) (by kernel_rfl) (fun _ _ _ h => h) (by rfl) ?yaf21 ?_
      case yaf21 => (intro w' hw'; go_simp; try (with_reducible rfl))
      simp only [Act.put]; try simp only [List.setIfInBounds_toArray]; try simp only [List.set_cons_zero, List.set_cons_succ]
      refine wpAnyS_take (i := 2) (d := some 17) (v := T.c.val) rfl rfl (by kernel_rfl) (by kernel_rfl) (by kernel_rfl) (by kernel_rfl) (by kernel_rfl) (fun _ _ _ h => h) (by rfl) ?yaf22 ?_
      case yaf22 => (intro w' hw'; exact exec_load_mry _ (by rfl) (by rfl) (HX2.out.later ((Below.refl _ _).drew.trans hw')))
      simp only [Act.put]; try simp only [List.setIfInBounds_toArray]; try simp only [List.set_cons_zero, List.set_cons_succ]
      refine wpAnyS_take (i := 4) (d := some 19) (v := ?vaf24) rfl rfl (by kernel_rfl) (by kernel_rfl) (by kernel_rfl) (by kernel_rfl) (by kernel_rfl) (fun _ _ _ h => h) (by rfl) ?yaf24 ?_
      case yaf24 => (intro w' hw'; go_simp; try (with_reducible rfl))
      simp only [Act.put]; try simp only [List.setIfInBounds_toArray]; try simp only [List.set_cons_zero, List.set_cons_succ]
      refine wpAnyS_take (i := 5) (d := some 20) (v := ?vaf25) rfl rfl (by kernel_rfl) (by kernel_rfl) (by kernel_rfl) (by kernel_rfl) (by kernel_rfl) (fun _ _ _ h => h) (by rfl) ?yaf25 ?_
      case yaf25 => (intro w' hw'; go_simp; try (with_reducible rfl))
      simp only [Act.put]; try simp only [List.setIfInBounds_toArray]; try simp only [List.set_cons_zero, List.set_cons_succ]
      refine wpAnyS_only (i := 3) rfl (by kernel_rfl) (by rfl) fun K hK => ?_
      go_simp
      refine (forgotten_any T.c _).mono ?_
      rintro e w3 ⟨rfl, hb3⟩
      have HB3 : Hid (Below w2.heap.size w2 w3) := (Below.refl _ _).drew.trans hb3
      have HT3 := hide (HT2.out.later HB3.out)
      refine hK.out _ _ hb3 ?_
      clear hb3
      clear hK K
      try (simp only [Act.put]; try simp only [List.setIfInBounds_toArray]; try simp only [List.set_cons_zero, List.set_cons_succ])
      refine wpAnyS_take (i := 6) (d := some 21) (v := ?vaf26) rfl rfl (by kernel_rfl) (by kernel_rfl) (by kernel_rfl) (by kernel_rfl) (by kernel_rfl) (fun _ _ _ h => h) (by rfl) ?yaf26 ?_
      case yaf26 => (intro w' hw'; go_simp; try (with_reducible rfl))
      simp only [Act.put]; try simp only [List.setIfInBounds_toArray]; try simp only [List.set_cons_zero, List.set_cons_succ]
      refine wpAnyS_write (i := 7) rfl rfl (by kernel_rfl) (by rfl) fun K hK => ?_
      refine wp_store_tab (T := T.fgt 2) (m := T.c.forgotten) (c := 3) _ _ (by rfl) (by decide) (by rfl) HT3.out (by rfl) ?_
      intro w6 ht6 hg6
      rw [fgt_2] at ht6
      have HT6 := hide ht6
      have HG6 := hide hg6
      clear ht6 hg6
      refine hK.out _ _ ?_
      clear hK K
      try simp only [Act.put]
      refine wpAnyS_done (by kernel_rfl) ?_ _
      go_wp2
      go_roundw
      case rel =>
        have hb := HB2.out.trans (HB3.out.mono HB2.out.size)
        exact ⟨3, by first | rfl | go_num, by omega, HT6.out, (HG.out.trans (grown_later hb _)).trans HG6.out⟩
      case measure => simp [intOf]
    · have hi := idx_3 T
      go_wp2_with (refine wpList_store_mry (m := T.d) (by rfl) _ _ (by rfl) (by rfl) (MryAt.new wr) (by rfl) ?_; intro w2 hx2 hg2; have HX2 := hide hx2; have HB2 : Hid (Below wr.heap.size wr w2) := ((Below.refl _ _).alloc (Nat.le_refl _) _).grown hg2 (by simp) (fun k hk => by have := Option.some.inj hk; omega); have HT2 := hide (HT.out.later HB2.out); clear hx2 hg2)
      refine wp_region_S (fun j => j == 7) (by kernel_rfl) ?_
      refine wpAnyS_take (i := 0) (d := some 15) (v := ?vaf30) rfl rfl (by kernel_rfl) (by kernel_rfl) (by kernel_rfl) (by kernel_rfl) (by kernel_rfl) (fun _ _ _ h => h) (by rfl) ?yaf30 ?_
      case yaf30 => (intro w' hw'; go_simp; try (with_reducible rfl))
      simp only [Act.put]; try simp only [List.setIfInBounds_toArray]; try simp only [List.set_cons_zero, List.set_cons_succ]
      refine wpAnyS_take (i := 1) (d := some 16) (v := ?vaf31) rfl rfl (by kernel_rfl) (by kernel_rfl) (by kernel_rfl) (by kernel_rfl) (by kernel_rfl) (fun _ _ _ h => h) (by rfl) ?yaf31 ?_
      case yaf31 => (intro w' hw'; go_simp; try (with_reducible rfl))
      simp only [Act.put]; try simp only [List.setIfInBounds_toArray]; try simp only [List.set_cons_zero, List.set_cons_succ]
      refine wpAnyS_take (i := 2) (d := some 17) (v := T.d.val) rfl rfl (by kernel_rfl) (by kernel_rfl) (by kernel_rfl) (by kernel_rfl) (by kernel_rfl) (fun _ _ _ h => h) (by rfl) ?yaf32 ?_
      case yaf32 => (intro w' hw'; exact exec_load_mry _ (by rfl) (by rfl) (HX2.out.later ((Below.refl _ _).drew.trans hw')))
      simp only [Act.put]; try simp only [List.setIfInBounds_toArray]; try simp only [List.set_cons_zero, List.set_cons_succ]
      refine wpAnyS_take (i := 4) (d := some 19) (v := ?vaf34) rfl rfl (by kernel_rfl) (by kernel_rfl) (by kernel_rfl) (by kernel_rfl) (by kernel_rfl) (fun _ _ _ h => h) (by rfl) ?yaf34 ?_
      case yaf34 => (intro w' hw'; go_simp; try (with_reducible rfl))
      simp only [Act.put]; try simp only [List.setIfInBounds_toArray]; try simp only [List.set_cons_zero, List.set_cons_succ]
      refine wpAnyS_take (i := 5) (d := some 20) (v := ?vaf35) rfl rfl (by kernel_rfl) (by kernel_rfl) (by kernel_rfl) (by kernel_rfl) (by kernel_rfl) (fun _ _ _ h => h) (by rfl) ?yaf35 ?_
      case yaf35 => (intro w' hw'; go_simp; try (with_reducible rfl))
      simp only [Act.put]; try simp only [List.setIfInBounds_toArray]; try simp only [List.set_cons_zero, List.set_cons_succ]
      refine wpAnyS_only (i := 3) rfl (by kernel_rfl) (by rfl) fun K hK => ?_
      go_simp
      refine (forgotten_any T.d _).mono ?_
      rintro e w3 ⟨rfl, hb3⟩
      have HB3 : Hid (Below w2.heap.size w2 w3) := (Below.refl _ _).drew.trans hb3
      have HT3 := hide (HT2.out.later HB3.out)
      refine hK.out _ _ hb3 ?_
      clear hb3
      clear hK K
      try (simp only [Act.put]; try simp only [List.setIfInBounds_toArray]; try simp only [List.set_cons_zero, List.set_cons_succ])
      refine wpAnyS_take (i := 6) (d := some 21) (v := ?vaf36) rfl rfl (by kernel_rfl) (by kernel_rfl) (by kernel_rfl) (by kernel_rfl) (by kernel_rfl) (fun _ _ _ h => h) (by rfl) ?yaf36 ?_
      case yaf36 => (intro w' hw'; go_simp; try (with_reducible rfl))
      simp only [Act.put]; try simp only [List.setIfInBounds_toArray]; try simp only [List.set_cons_zero, List.set_cons_succ]
      refine wpAnyS_write (i := 7) rfl rfl (by kernel_rfl) (by rfl) fun K hK => ?_
      refine wp_store_tab (T := T.fgt 3) (m := T.d.forgotten) (c := 4) _ _ (by rfl) (by decide) (by rfl) HT3.out (by rfl) ?_
      intro w6 ht6 hg6
      rw [fgt_3] at ht6
      have HT6 := hide ht6
      have HG6 := hide hg6
      clear ht6 hg6
      refine hK.out _ _ ?_
      clear hK K
      try simp only [Act.put]
      refine wpAnyS_done (by kernel_rfl) ?_ _
      go_wp2
      go_roundw
      case rel =>
        have hb := HB2.out.trans (HB3.out.mono HB2.out.size)
        exact ⟨4, by first | rfl | go_num, by omega, HT6.out, (HG.out.trans (grown_later hb _)).trans HG6.out⟩
      case measure => simp [intOf]
    · go_wp2
      go_end0
      exact ⟨rfl, HT.out, HG.out⟩
end Go.Proofs.Ytmakibpbodfchaa
