/- The walk over droverlaw07.TableNone: a table that no call made knows nothing. -/
import Derived.Test.YtmakibpbodfchaaLives7
import Derived.Test.YtmakibpbodfchaaAct7
import Derived.Lib.Builder
namespace Go.Proofs.Ytmakibpbodfchaa
open Go.RowKit

theorem index_0 (p q : Value) (w : World) : (Instr.index 53 (.agg #[p, q]) (.int .i64 0)).run Try.prog w = .ok p w := by kernel_rfl
theorem index_1 (p q : Value) (w : World) : (Instr.index 53 (.agg #[p, q]) (.int .i64 1)).run Try.prog w = .ok q w := by kernel_rfl
theorem last_no {p : Value} (c : Int) (w : World) (h : NoTab w p) : Calls Try.prog 18 #[p, .int .i64 c] w (Gives (.int .i64 0) w) := last_any c w (of_none c w h)
theorem done_no {p : Value} (c : Int) (w : World) (h : NoTab w p) : Calls Try.prog 20 #[p, .int .i64 c] w (Gives (.int .i64 0) w) := done_any c w (of_none c w h)
/-- What an act is asked about, in its box. -/
theorem act_cells {w : World} {g : Nat} {a : ActC} (h : w.heap[g]? = some (.cells a.cells.toArray 36 (0, 0))) : w.cell? ⟨g, 0, none⟩ = some (.int .i64 a.kind) ∧ w.cell? ⟨g, 1, none⟩ = some (.int .i64 a.client) ∧ w.cell? ⟨g, 2, none⟩ = some (.int .i64 a.request) := by
  refine ⟨?_, ?_, ?_⟩ <;> (rw [cell_of_row w g _ _ _ _ h]; rfl)
theorem act_rep (a : ActC) : (a.cells.toArray.toList.drop 3).take 4 = a.rep.cells := rfl

set_option maxHeartbeats 8000000 in
set_option maxRecDepth 100000 in
theorem law_none (a : ActC) (w : World) (_ : a.wf) : Calls Try.prog 6 #[.agg a.cells.toArray] w fun e w' => e = .returned (.bool true) ∧ Below w.heap.size w w' := by
  go_enter Try.func6, Try.ntmps6
  go_wp2
  obtain ⟨w1, hw1⟩ : ∃ w1, w1 = (w.alloc (.cells a.cells.toArray 36 (0, 0))).alloc (.cells zeroTab.toArray 52 (0, 0)) := ⟨_, rfl⟩
  have L1 : Hid (Below w.heap.size w w1) := by
    rw [hw1]
    exact ((Below.refl _ _).alloc (Nat.le_refl _) _).alloc (by simp) _
  have HX : Hid (w1.heap[w.heap.size]? = some (.cells a.cells.toArray 36 (0, 0))) := by
    rw [hw1]
    exact (heap_alloc_old _ _ (by simp)).trans (heap_alloc_new _ _)
  have N1 : Hid (NoTab w1 (.pointer (some ⟨w.heap.size + 1, 0, none⟩))) := .inr ⟨_, rfl, by rw [hw1]; exact heap_second _ _ _⟩
  have N0 : Hid (NoTab w1 (.pointer none)) := .inl rfl
  have HW1 := hide hw1
  clear hw1
  have i0 := index_0 (.pointer none) (.pointer (some ⟨w.heap.size + 1, 0, none⟩))
  have i1 := index_1 (.pointer none) (.pointer (some ⟨w.heap.size + 1, 0, none⟩))
  obtain ⟨j0, hj0⟩ : ∃ j0, Try.prog.info? 52 = some j0 := ⟨_, rfl⟩
  have HPP : ∀ w', (binOp .neq 24 (.pointer (some ⟨w.heap.size + 1, 0, none⟩)) (.pointer (some ⟨w.heap.size + 1, 0, none⟩))).run Try.prog w' = .ok (.bool false) w' := fun w' => Go.Lib.run_neq_ptr_same w' _ Try.underlying24 hj0
  clear hj0 j0
  go_loopw [9] (fun v wr => ∃ k : Nat, v = .int .i64 (k : Int) ∧ k ≤ 2 ∧ Below w1.heap.size w1 wr) (fun v _ => 2 - (intOf v).toNat)
  case atStart => exact ⟨0, rfl, by omega, by rw [HW1.out]; exact Below.refl _ _⟩
  case round =>
    obtain ⟨k, rfl, hk, hb⟩ := hrel
    have HB := hide hb
    clear hb
    have hk3 : k = 0 ∨ k = 1 ∨ k = 2 := by omega
    clear hk
    rcases hk3 with rfl | rfl | rfl
    · have HF := hide (forget_no (p := (.pointer none)) wr (N0.out.later HB.out))
      have HA := hide (ask_no (p := (.pointer none)) a.client a.request wr (N0.out.later HB.out))
      obtain ⟨e0, e1, e2⟩ := act_cells ((HB.out.block w.heap.size (lt_of_block HX.out)).trans HX.out)
      have HNR : Hid (∀ w', (binOp .neq 29 (.agg #[.int .i64 0, .int .i64 0, .int .i64 0, .int .i64 0]) (.agg #[.int .i64 0, .int .i64 0, .int .i64 0, .int .i64 0])).run Try.prog w' = .ok (.bool false) w') := fun w' => neq_rep .zero .zero w'
      go_wp2_with (fail)
      refine HF.out.mono ?_
      rintro e w2 ⟨rfl, rfl⟩
      go_wp2_with (fail)
      refine HA.out.mono ?_
      rintro e w3 ⟨rfl, hb3⟩
      have HB3 := hide hb3
      clear hb3 e0 e1 e2
      go_wp2_with (refine wpList_store_rep (m := .zero) (by rfl) _ _ (by rfl) (by rfl) (RepAt.new w3) (by rfl) ?_; intro w4 hx hg; have X4 := hide hx; have L4 : Hid (Below w1.heap.size w1 w4) := HB.out.trans ((HB3.out.trans ((below_new hg).mono HB3.out.size)).mono HB.out.size); clear hx hg)
      refine wp_region_L (by kernel_rfl) ?_
      refine wpAnyL_take (i := 0) (d := some 23) (v := ?van00) rfl rfl (by kernel_rfl) (by kernel_rfl) (by kernel_rfl) (fun _ _ _ h => h) (by rfl) ?yan00 ?_
      case yan00 => (intro w' hw'; go_simp; try (with_reducible rfl))
      simp only [Act.put]; try simp only [List.setIfInBounds_toArray]; try simp only [List.set_cons_zero, List.set_cons_succ]
      refine wpAnyL_take (i := 1) (d := some 24) (v := ?van01) rfl rfl (by kernel_rfl) (by kernel_rfl) (by kernel_rfl) (fun _ _ _ h => h) (by rfl) ?yan01 ?_
      case yan01 => (intro w' hw'; go_simp; try (with_reducible rfl))
      simp only [Act.put]; try simp only [List.setIfInBounds_toArray]; try simp only [List.set_cons_zero, List.set_cons_succ]
      refine wpAnyL_take (i := 2) (d := some 25) (v := ?van02) rfl rfl (by kernel_rfl) (by kernel_rfl) (by kernel_rfl) (fun _ _ _ h => h) (by rfl) ?yan02 ?_
      case yan02 => (intro w' hw'; go_simp; try (with_reducible rfl))
      simp only [Act.put]; try simp only [List.setIfInBounds_toArray]; try simp only [List.set_cons_zero, List.set_cons_succ]
      refine wpAnyL_take (i := 3) (d := some 26) (v := .agg #[.int .i64 0, .int .i64 0, .int .i64 0, .int .i64 0]) rfl rfl (by kernel_rfl) (by kernel_rfl) (by kernel_rfl) (fun _ _ _ h => h) (by rfl) ?yan03 ?_
      case yan03 => (intro w' hw'; exact exec_load_rep _ (by rfl) (by rfl) (X4.out.later ((Below.refl w4.heap.size w4).drew.trans hw')))
      simp only [Act.put]; try simp only [List.setIfInBounds_toArray]; try simp only [List.set_cons_zero, List.set_cons_succ]
      refine wpAnyL_take (i := 4) (d := some 27) (v := ?van04) rfl rfl (by kernel_rfl) (by kernel_rfl) (by kernel_rfl) (fun _ _ _ h => h) (by rfl) ?yan04 ?_
      case yan04 => (intro w' hw'; go_simp; try (with_reducible rfl))
      simp only [Act.put]; try simp only [List.setIfInBounds_toArray]; try simp only [List.set_cons_zero, List.set_cons_succ]
      refine wpAnyL_take (i := 5) (d := some 28) (v := .bool false) rfl rfl (by kernel_rfl) (by kernel_rfl) (by kernel_rfl) (fun _ _ _ h => h) (by rfl) ?yan05 ?_
      case yan05 => (intro w' hw'; have q := HNR.out w'; go_simp; try (with_reducible rfl))
      simp only [Act.put]; try simp only [List.setIfInBounds_toArray]; try simp only [List.set_cons_zero, List.set_cons_succ]
      refine wpAnyL_take (i := 6) (d := some 29) (v := ?van06) rfl rfl (by kernel_rfl) (by kernel_rfl) (by kernel_rfl) (fun _ _ _ h => h) (by rfl) ?yan06 ?_
      case yan06 => (intro w' hw'; go_simp; try (with_reducible rfl))
      simp only [Act.put]; try simp only [List.setIfInBounds_toArray]; try simp only [List.set_cons_zero, List.set_cons_succ]
      refine wpAnyL_take (i := 7) (d := some 30) (v := ?van07) rfl rfl (by kernel_rfl) (by kernel_rfl) (by kernel_rfl) (fun _ _ _ h => h) (by rfl) ?yan07 ?_
      case yan07 => (intro w' hw'; go_simp; try (with_reducible rfl))
      simp only [Act.put]; try simp only [List.setIfInBounds_toArray]; try simp only [List.set_cons_zero, List.set_cons_succ]
      refine wpAnyL_take (i := 8) (d := some 31) (v := ?van08) rfl rfl (by kernel_rfl) (by kernel_rfl) (by kernel_rfl) (fun _ _ _ h => h) (by rfl) ?yan08 ?_
      case yan08 => (intro w' hw'; go_simp; try (with_reducible rfl))
      simp only [Act.put]; try simp only [List.setIfInBounds_toArray]; try simp only [List.set_cons_zero, List.set_cons_succ]
      refine wpAnyL_take (i := 9) (d := some 32) (v := ?van09) rfl rfl (by kernel_rfl) (by kernel_rfl) (by kernel_rfl) (fun _ _ _ h => h) (by rfl) ?yan09 ?_
      case yan09 => (intro w' hw'; go_simp; try (with_reducible rfl))
      simp only [Act.put]; try simp only [List.setIfInBounds_toArray]; try simp only [List.set_cons_zero, List.set_cons_succ]
      refine wpAnyL_take (i := 10) (d := some 33) (v := ?van010) rfl rfl (by kernel_rfl) (by kernel_rfl) (by kernel_rfl) (fun _ _ _ h => h) (by rfl) ?yan010 ?_
      case yan010 => (intro w' hw'; have hlt : Below w1.heap.size w1 w' := L4.out.trans (((Below.refl w4.heap.size w4).drew.trans hw').mono L4.out.size); obtain ⟨e0, e1, e2⟩ := act_cells ((hlt.block w.heap.size (lt_of_block HX.out)).trans HX.out); clear e0 hlt; go_simp; try (with_reducible rfl))
      simp only [Act.put]; try simp only [List.setIfInBounds_toArray]; try simp only [List.set_cons_zero, List.set_cons_succ]
      refine wpAnyL_take (i := 11) (d := some 34) (v := ?van011) rfl rfl (by kernel_rfl) (by kernel_rfl) (by kernel_rfl) (fun _ _ _ h => h) (by rfl) ?yan011 ?_
      case yan011 => (intro w' hw'; go_simp; try (with_reducible rfl))
      simp only [Act.put]; try simp only [List.setIfInBounds_toArray]; try simp only [List.set_cons_zero, List.set_cons_succ]
      refine wpAnyL_take (i := 12) (d := some 35) (v := ?van012) rfl rfl (by kernel_rfl) (by kernel_rfl) (by kernel_rfl) (fun _ _ _ h => h) (by rfl) ?yan012 ?_
      case yan012 => (intro w' hw'; have hlt : Below w1.heap.size w1 w' := L4.out.trans (((Below.refl w4.heap.size w4).drew.trans hw').mono L4.out.size); obtain ⟨e0, e1, e2⟩ := act_cells ((hlt.block w.heap.size (lt_of_block HX.out)).trans HX.out); clear e0 hlt; go_simp; try (with_reducible rfl))
      simp only [Act.put]; try simp only [List.setIfInBounds_toArray]; try simp only [List.set_cons_zero, List.set_cons_succ]
      refine wpAnyL_only (i := 13) rfl (by kernel_rfl) (by rfl) fun K hK => ?_
      go_simp
      refine (start_no a.client a.request _ ((N0.out.later L4.out).later (Below.refl w4.heap.size w4).drew)).mono ?_
      rintro e w5 ⟨rfl, rfl⟩
      refine hK.out _ _ (Later.refl _) ?_
      clear hK K
      try (simp only [Act.put]; try simp only [List.setIfInBounds_toArray]; try simp only [List.set_cons_zero, List.set_cons_succ])
      refine wpAnyL_take (i := 14) (d := some 37) (v := ?van014) rfl rfl (by kernel_rfl) (by kernel_rfl) (by kernel_rfl) (fun _ _ _ h => h) (by rfl) ?yan014 ?_
      case yan014 => (intro w' hw'; go_simp; try (with_reducible rfl))
      simp only [Act.put]; try simp only [List.setIfInBounds_toArray]; try simp only [List.set_cons_zero, List.set_cons_succ]
      refine wpAnyL_take (i := 15) (d := some 38) (v := ?van015) rfl rfl (by kernel_rfl) (by kernel_rfl) (by kernel_rfl) (fun _ _ _ h => h) (by rfl) ?yan015 ?_
      case yan015 => (intro w' hw'; go_simp; try (with_reducible rfl))
      simp only [Act.put]; try simp only [List.setIfInBounds_toArray]; try simp only [List.set_cons_zero, List.set_cons_succ]
      refine wpAnyL_take (i := 16) (d := some 39) (v := ?van016) rfl rfl (by kernel_rfl) (by kernel_rfl) (by kernel_rfl) (fun _ _ _ h => h) (by rfl) ?yan016 ?_
      case yan016 => (intro w' hw'; go_simp; try (with_reducible rfl))
      simp only [Act.put]; try simp only [List.setIfInBounds_toArray]; try simp only [List.set_cons_zero, List.set_cons_succ]
      refine wpAnyL_take (i := 17) (d := some 40) (v := ?van017) rfl rfl (by kernel_rfl) (by kernel_rfl) (by kernel_rfl) (fun _ _ _ h => h) (by rfl) ?yan017 ?_
      case yan017 => (intro w' hw'; go_simp; try (with_reducible rfl))
      simp only [Act.put]; try simp only [List.setIfInBounds_toArray]; try simp only [List.set_cons_zero, List.set_cons_succ]
      refine wpAnyL_take (i := 18) (d := some 41) (v := ?van018) rfl rfl (by kernel_rfl) (by kernel_rfl) (by kernel_rfl) (fun _ _ _ h => h) (by rfl) ?yan018 ?_
      case yan018 => (intro w' hw'; go_simp; try (with_reducible rfl))
      simp only [Act.put]; try simp only [List.setIfInBounds_toArray]; try simp only [List.set_cons_zero, List.set_cons_succ]
      refine wpAnyL_take (i := 19) (d := some 42) (v := ?van019) rfl rfl (by kernel_rfl) (by kernel_rfl) (by kernel_rfl) (fun _ _ _ h => h) (by rfl) ?yan019 ?_
      case yan019 => (intro w' hw'; have hlt : Below w1.heap.size w1 w' := L4.out.trans (((Below.refl w4.heap.size w4).drew.trans hw').mono L4.out.size); obtain ⟨e0, e1, e2⟩ := act_cells ((hlt.block w.heap.size (lt_of_block HX.out)).trans HX.out); clear e0 hlt; go_simp; try (with_reducible rfl))
      simp only [Act.put]; try simp only [List.setIfInBounds_toArray]; try simp only [List.set_cons_zero, List.set_cons_succ]
      refine wpAnyL_take (i := 20) (d := some 43) (v := ?van020) rfl rfl (by kernel_rfl) (by kernel_rfl) (by kernel_rfl) (fun _ _ _ h => h) (by rfl) ?yan020 ?_
      case yan020 => (intro w' hw'; go_simp; try (with_reducible rfl))
      simp only [Act.put]; try simp only [List.setIfInBounds_toArray]; try simp only [List.set_cons_zero, List.set_cons_succ]
      refine wpAnyL_take (i := 21) (d := some 44) (v := ?van021) rfl rfl (by kernel_rfl) (by kernel_rfl) (by kernel_rfl) (fun _ _ _ h => h) (by rfl) ?yan021 ?_
      case yan021 => (intro w' hw'; have hlt : Below w1.heap.size w1 w' := L4.out.trans (((Below.refl w4.heap.size w4).drew.trans hw').mono L4.out.size); obtain ⟨e0, e1, e2⟩ := act_cells ((hlt.block w.heap.size (lt_of_block HX.out)).trans HX.out); clear e0 hlt; go_simp; try (with_reducible rfl))
      simp only [Act.put]; try simp only [List.setIfInBounds_toArray]; try simp only [List.set_cons_zero, List.set_cons_succ]
      refine wpAnyL_take (i := 22) (d := some 45) (v := ?van022) rfl rfl (by kernel_rfl) (by kernel_rfl) (by kernel_rfl) (fun _ _ _ h => h) (by rfl) ?yan022 ?_
      case yan022 => (intro w' hw'; go_simp; try (with_reducible rfl))
      simp only [Act.put]; try simp only [List.setIfInBounds_toArray]; try simp only [List.set_cons_zero, List.set_cons_succ]
      refine wpAnyL_take (i := 23) (d := some 46) (v := a.rep.val) rfl rfl (by kernel_rfl) (by kernel_rfl) (by kernel_rfl) (fun _ _ _ h => h) (by rfl) ?yan023 ?_
      case yan023 => (intro w' hw'; exact exec_load_box 29 _ (by rfl) w.heap.size 3 (by rfl) 36 _ (((L4.out.trans (((Below.refl w4.heap.size w4).drew.trans hw').mono L4.out.size)).block w.heap.size (lt_of_block HX.out)).trans HX.out) 4 _ Try.underlying29 (by rfl) (by kernel_rfl) a.rep.cells (by exact act_rep a) (by rfl))
      simp only [Act.put]; try simp only [List.setIfInBounds_toArray]; try simp only [List.set_cons_zero, List.set_cons_succ]
      refine wpAnyL_only (i := 24) rfl (by kernel_rfl) (by rfl) fun K hK => ?_
      go_simp
      refine (finish_no a.client a.request a.rep _ ((N0.out.later L4.out).later (Below.refl w4.heap.size w4).drew)).mono ?_
      rintro e w5 ⟨rfl, hb5⟩
      have HB5 : Hid (Below w4.heap.size w4 w5) := (Below.refl _ _).drew.trans hb5
      refine hK.out _ _ hb5 ?_
      clear hb5
      clear hK K
      try (simp only [Act.put]; try simp only [List.setIfInBounds_toArray]; try simp only [List.set_cons_zero, List.set_cons_succ])
      refine wpAnyL_take (i := 25) (d := some 48) (v := ?van025) rfl rfl (by kernel_rfl) (by kernel_rfl) (by kernel_rfl) (fun _ _ _ h => h) (by rfl) ?yan025 ?_
      case yan025 => (intro w' hw'; go_simp; try (with_reducible rfl))
      simp only [Act.put]; try simp only [List.setIfInBounds_toArray]; try simp only [List.set_cons_zero, List.set_cons_succ]
      refine wpAnyL_take (i := 26) (d := some 49) (v := ?van026) rfl rfl (by kernel_rfl) (by kernel_rfl) (by kernel_rfl) (fun _ _ _ h => h) (by rfl) ?yan026 ?_
      case yan026 => (intro w' hw'; go_simp; try (with_reducible rfl))
      simp only [Act.put]; try simp only [List.setIfInBounds_toArray]; try simp only [List.set_cons_zero, List.set_cons_succ]
      refine wpAnyL_take (i := 27) (d := some 50) (v := ?van027) rfl rfl (by kernel_rfl) (by kernel_rfl) (by kernel_rfl) (fun _ _ _ h => h) (by rfl) ?yan027 ?_
      case yan027 => (intro w' hw'; go_simp; try (with_reducible rfl))
      simp only [Act.put]; try simp only [List.setIfInBounds_toArray]; try simp only [List.set_cons_zero, List.set_cons_succ]
      refine wpAnyL_take (i := 28) (d := some 51) (v := ?van028) rfl rfl (by kernel_rfl) (by kernel_rfl) (by kernel_rfl) (fun _ _ _ h => h) (by rfl) ?yan028 ?_
      case yan028 => (intro w' hw'; go_simp; try (with_reducible rfl))
      simp only [Act.put]; try simp only [List.setIfInBounds_toArray]; try simp only [List.set_cons_zero, List.set_cons_succ]
      refine wpAnyL_take (i := 29) (d := some 52) (v := ?van029) rfl rfl (by kernel_rfl) (by kernel_rfl) (by kernel_rfl) (fun _ _ _ h => h) (by rfl) ?yan029 ?_
      case yan029 => (intro w' hw'; go_simp; try (with_reducible rfl))
      simp only [Act.put]; try simp only [List.setIfInBounds_toArray]; try simp only [List.set_cons_zero, List.set_cons_succ]
      refine wpAnyL_take (i := 30) (d := some 53) (v := ?van030) rfl rfl (by kernel_rfl) (by kernel_rfl) (by kernel_rfl) (fun _ _ _ h => h) (by rfl) ?yan030 ?_
      case yan030 => (intro w' hw'; have hlt : Below w1.heap.size w1 w' := L4.out.trans ((HB5.out.trans (Below.mono hw' HB5.out.size)).mono L4.out.size); obtain ⟨e0, e1, e2⟩ := act_cells ((hlt.block w.heap.size (lt_of_block HX.out)).trans HX.out); clear e0 hlt; go_simp; try (with_reducible rfl))
      simp only [Act.put]; try simp only [List.setIfInBounds_toArray]; try simp only [List.set_cons_zero, List.set_cons_succ]
      refine wpAnyL_take (i := 32) (d := some 55) (v := ?van032) rfl rfl (by kernel_rfl) (by kernel_rfl) (by kernel_rfl) (fun _ _ _ h => h) (by rfl) ?yan032 ?_
      case yan032 => (intro w' hw'; go_simp; try (with_reducible rfl))
      simp only [Act.put]; try simp only [List.setIfInBounds_toArray]; try simp only [List.set_cons_zero, List.set_cons_succ]
      refine wpAnyL_take (i := 33) (d := some 56) (v := ?van033) rfl rfl (by kernel_rfl) (by kernel_rfl) (by kernel_rfl) (fun _ _ _ h => h) (by rfl) ?yan033 ?_
      case yan033 => (intro w' hw'; go_simp; try (with_reducible rfl))
      simp only [Act.put]; try simp only [List.setIfInBounds_toArray]; try simp only [List.set_cons_zero, List.set_cons_succ]
      refine wpAnyL_take (i := 34) (d := some 57) (v := ?van034) rfl rfl (by kernel_rfl) (by kernel_rfl) (by kernel_rfl) (fun _ _ _ h => h) (by rfl) ?yan034 ?_
      case yan034 => (intro w' hw'; have hlt : Below w1.heap.size w1 w' := L4.out.trans ((HB5.out.trans (Below.mono hw' HB5.out.size)).mono L4.out.size); obtain ⟨e0, e1, e2⟩ := act_cells ((hlt.block w.heap.size (lt_of_block HX.out)).trans HX.out); clear e0 hlt; go_simp; try (with_reducible rfl))
      simp only [Act.put]; try simp only [List.setIfInBounds_toArray]; try simp only [List.set_cons_zero, List.set_cons_succ]
      refine wpAnyL_only (i := 31) rfl (by kernel_rfl) (by rfl) fun K hK => ?_
      go_simp
      refine (last_no a.client _ ((N0.out.later L4.out).later HB5.out)).mono ?_
      rintro e w6 ⟨rfl, hb6⟩
      have HB6 : Hid (Below w4.heap.size w4 w6) := HB5.out.trans (hb6.mono HB5.out.size)
      refine hK.out _ _ hb6 ?_
      clear hb6
      clear hK K
      try (simp only [Act.put]; try simp only [List.setIfInBounds_toArray]; try simp only [List.set_cons_zero, List.set_cons_succ])
      refine wpAnyL_only (i := 35) rfl (by kernel_rfl) (by rfl) fun K hK => ?_
      go_simp
      refine (done_no a.client _ ((N0.out.later L4.out).later HB6.out)).mono ?_
      rintro e w7 ⟨rfl, hb7⟩
      have HB7 : Hid (Below w4.heap.size w4 w7) := HB6.out.trans (hb7.mono HB6.out.size)
      refine hK.out _ _ hb7 ?_
      clear hb7
      clear hK K
      try (simp only [Act.put]; try simp only [List.setIfInBounds_toArray]; try simp only [List.set_cons_zero, List.set_cons_succ])
      refine wpAnyL_take (i := 36) (d := some 59) (v := .int .i64 0) rfl rfl (by kernel_rfl) (by kernel_rfl) (by kernel_rfl) (fun _ _ _ h => h) (by rfl) ?yan036 ?_
      case yan036 => (intro w' hw'; go_simp; first | done | rfl | decide)
      simp only [Act.put]; try simp only [List.setIfInBounds_toArray]; try simp only [List.set_cons_zero, List.set_cons_succ]
      refine wpAnyL_take (i := 37) (d := some 60) (v := ?van037) rfl rfl (by kernel_rfl) (by kernel_rfl) (by kernel_rfl) (fun _ _ _ h => h) (by rfl) ?yan037 ?_
      case yan037 => (intro w' hw'; go_simp; try (with_reducible rfl))
      simp only [Act.put]; try simp only [List.setIfInBounds_toArray]; try simp only [List.set_cons_zero, List.set_cons_succ]
      refine wpAnyL_take (i := 38) (d := some 61) (v := ?van038) rfl rfl (by kernel_rfl) (by kernel_rfl) (by kernel_rfl) (fun _ _ _ h => h) (by rfl) ?yan038 ?_
      case yan038 => (intro w' hw'; go_simp; try (with_reducible rfl))
      simp only [Act.put]; try simp only [List.setIfInBounds_toArray]; try simp only [List.set_cons_zero, List.set_cons_succ]
      refine wpAnyL_take (i := 39) (d := some 62) (v := ?van039) rfl rfl (by kernel_rfl) (by kernel_rfl) (by kernel_rfl) (fun _ _ _ h => h) (by rfl) ?yan039 ?_
      case yan039 => (intro w' hw'; go_simp; try (with_reducible rfl))
      simp only [Act.put]; try simp only [List.setIfInBounds_toArray]; try simp only [List.set_cons_zero, List.set_cons_succ]
      refine wpAnyL_take (i := 40) (d := some 63) (v := ?van040) rfl rfl (by kernel_rfl) (by kernel_rfl) (by kernel_rfl) (fun _ _ _ h => h) (by rfl) ?yan040 ?_
      case yan040 => (intro w' hw'; go_simp; try (with_reducible rfl))
      simp only [Act.put]; try simp only [List.setIfInBounds_toArray]; try simp only [List.set_cons_zero, List.set_cons_succ]
      refine wpAnyL_take (i := 42) (d := some 65) (v := ?van042) rfl rfl (by kernel_rfl) (by kernel_rfl) (by kernel_rfl) (fun _ _ _ h => h) (by rfl) ?yan042 ?_
      case yan042 => (intro w' hw'; go_simp; try (with_reducible rfl))
      simp only [Act.put]; try simp only [List.setIfInBounds_toArray]; try simp only [List.set_cons_zero, List.set_cons_succ]
      refine wpAnyL_only (i := 41) rfl (by kernel_rfl) (by rfl) fun K hK => ?_
      go_simp
      refine (copy_no _ ((N0.out.later L4.out).later HB7.out)).mono ?_
      rintro e w8 ⟨rfl, rfl⟩
      refine hK.out _ _ (Later.refl _) ?_
      clear hK K
      try (simp only [Act.put]; try simp only [List.setIfInBounds_toArray]; try simp only [List.set_cons_zero, List.set_cons_succ])
      refine wpAnyL_take (i := 43) (d := some 66) (v := .bool false) rfl rfl (by kernel_rfl) (by kernel_rfl) (by kernel_rfl) (fun _ _ _ h => h) (by rfl) ?yan043 ?_
      case yan043 => (intro w' hw'; have q := HPP w'; go_simp; try (with_reducible rfl))
      simp only [Act.put]; try simp only [List.setIfInBounds_toArray]; try simp only [List.set_cons_zero, List.set_cons_succ]
      refine wpAnyL_take (i := 44) (d := some 67) (v := ?van044) rfl rfl (by kernel_rfl) (by kernel_rfl) (by kernel_rfl) (fun _ _ _ h => h) (by rfl) ?yan044 ?_
      case yan044 => (intro w' hw'; go_simp; try (with_reducible rfl))
      simp only [Act.put]; try simp only [List.setIfInBounds_toArray]; try simp only [List.set_cons_zero, List.set_cons_succ]
      refine wpAnyL_done (by kernel_rfl) ?_ _
      go_wp2
      go_roundw
      case rel => exact ⟨1, by first | rfl | go_num, by omega, L4.out.trans (HB7.out.mono L4.out.size)⟩
      case measure => simp [intOf]
    · have HF := hide (forget_no (p := (.pointer (some ⟨w.heap.size + 1, 0, none⟩))) wr (N1.out.later HB.out))
      have HA := hide (ask_no (p := (.pointer (some ⟨w.heap.size + 1, 0, none⟩))) a.client a.request wr (N1.out.later HB.out))
      obtain ⟨e0, e1, e2⟩ := act_cells ((HB.out.block w.heap.size (lt_of_block HX.out)).trans HX.out)
      have HNR : Hid (∀ w', (binOp .neq 29 (.agg #[.int .i64 0, .int .i64 0, .int .i64 0, .int .i64 0]) (.agg #[.int .i64 0, .int .i64 0, .int .i64 0, .int .i64 0])).run Try.prog w' = .ok (.bool false) w') := fun w' => neq_rep .zero .zero w'
      go_wp2_with (fail)
      refine HF.out.mono ?_
      rintro e w2 ⟨rfl, rfl⟩
      go_wp2_with (fail)
      refine HA.out.mono ?_
      rintro e w3 ⟨rfl, hb3⟩
      have HB3 := hide hb3
      clear hb3 e0 e1 e2
      go_wp2_with (refine wpList_store_rep (m := .zero) (by rfl) _ _ (by rfl) (by rfl) (RepAt.new w3) (by rfl) ?_; intro w4 hx hg; have X4 := hide hx; have L4 : Hid (Below w1.heap.size w1 w4) := HB.out.trans ((HB3.out.trans ((below_new hg).mono HB3.out.size)).mono HB.out.size); clear hx hg)
      refine wp_region_L (by kernel_rfl) ?_
      refine wpAnyL_take (i := 0) (d := some 23) (v := ?van10) rfl rfl (by kernel_rfl) (by kernel_rfl) (by kernel_rfl) (fun _ _ _ h => h) (by rfl) ?yan10 ?_
      case yan10 => (intro w' hw'; go_simp; try (with_reducible rfl))
      simp only [Act.put]; try simp only [List.setIfInBounds_toArray]; try simp only [List.set_cons_zero, List.set_cons_succ]
      refine wpAnyL_take (i := 1) (d := some 24) (v := ?van11) rfl rfl (by kernel_rfl) (by kernel_rfl) (by kernel_rfl) (fun _ _ _ h => h) (by rfl) ?yan11 ?_
      case yan11 => (intro w' hw'; go_simp; try (with_reducible rfl))
      simp only [Act.put]; try simp only [List.setIfInBounds_toArray]; try simp only [List.set_cons_zero, List.set_cons_succ]
      refine wpAnyL_take (i := 2) (d := some 25) (v := ?van12) rfl rfl (by kernel_rfl) (by kernel_rfl) (by kernel_rfl) (fun _ _ _ h => h) (by rfl) ?yan12 ?_
      case yan12 => (intro w' hw'; go_simp; try (with_reducible rfl))
      simp only [Act.put]; try simp only [List.setIfInBounds_toArray]; try simp only [List.set_cons_zero, List.set_cons_succ]
      refine wpAnyL_take (i := 3) (d := some 26) (v := .agg #[.int .i64 0, .int .i64 0, .int .i64 0, .int .i64 0]) rfl rfl (by kernel_rfl) (by kernel_rfl) (by kernel_rfl) (fun _ _ _ h => h) (by rfl) ?yan13 ?_
      case yan13 => (intro w' hw'; exact exec_load_rep _ (by rfl) (by rfl) (X4.out.later ((Below.refl w4.heap.size w4).drew.trans hw')))
      simp only [Act.put]; try simp only [List.setIfInBounds_toArray]; try simp only [List.set_cons_zero, List.set_cons_succ]
      refine wpAnyL_take (i := 4) (d := some 27) (v := ?van14) rfl rfl (by kernel_rfl) (by kernel_rfl) (by kernel_rfl) (fun _ _ _ h => h) (by rfl) ?yan14 ?_
      case yan14 => (intro w' hw'; go_simp; try (with_reducible rfl))
      simp only [Act.put]; try simp only [List.setIfInBounds_toArray]; try simp only [List.set_cons_zero, List.set_cons_succ]
      refine wpAnyL_take (i := 5) (d := some 28) (v := .bool false) rfl rfl (by kernel_rfl) (by kernel_rfl) (by kernel_rfl) (fun _ _ _ h => h) (by rfl) ?yan15 ?_
      case yan15 => (intro w' hw'; have q := HNR.out w'; go_simp; try (with_reducible rfl))
      simp only [Act.put]; try simp only [List.setIfInBounds_toArray]; try simp only [List.set_cons_zero, List.set_cons_succ]
      refine wpAnyL_take (i := 6) (d := some 29) (v := ?van16) rfl rfl (by kernel_rfl) (by kernel_rfl) (by kernel_rfl) (fun _ _ _ h => h) (by rfl) ?yan16 ?_
      case yan16 => (intro w' hw'; go_simp; try (with_reducible rfl))
      simp only [Act.put]; try simp only [List.setIfInBounds_toArray]; try simp only [List.set_cons_zero, List.set_cons_succ]
      refine wpAnyL_take (i := 7) (d := some 30) (v := ?van17) rfl rfl (by kernel_rfl) (by kernel_rfl) (by kernel_rfl) (fun _ _ _ h => h) (by rfl) ?yan17 ?_
      case yan17 => (intro w' hw'; go_simp; try (with_reducible rfl))
      simp only [Act.put]; try simp only [List.setIfInBounds_toArray]; try simp only [List.set_cons_zero, List.set_cons_succ]
      refine wpAnyL_take (i := 8) (d := some 31) (v := ?van18) rfl rfl (by kernel_rfl) (by kernel_rfl) (by kernel_rfl) (fun _ _ _ h => h) (by rfl) ?yan18 ?_
      case yan18 => (intro w' hw'; go_simp; try (with_reducible rfl))
      simp only [Act.put]; try simp only [List.setIfInBounds_toArray]; try simp only [List.set_cons_zero, List.set_cons_succ]
      refine wpAnyL_take (i := 9) (d := some 32) (v := ?van19) rfl rfl (by kernel_rfl) (by kernel_rfl) (by kernel_rfl) (fun _ _ _ h => h) (by rfl) ?yan19 ?_
      case yan19 => (intro w' hw'; go_simp; try (with_reducible rfl))
      simp only [Act.put]; try simp only [List.setIfInBounds_toArray]; try simp only [List.set_cons_zero, List.set_cons_succ]
      refine wpAnyL_take (i := 10) (d := some 33) (v := ?van110) rfl rfl (by kernel_rfl) (by kernel_rfl) (by kernel_rfl) (fun _ _ _ h => h) (by rfl) ?yan110 ?_
      case yan110 => (intro w' hw'; have hlt : Below w1.heap.size w1 w' := L4.out.trans (((Below.refl w4.heap.size w4).drew.trans hw').mono L4.out.size); obtain ⟨e0, e1, e2⟩ := act_cells ((hlt.block w.heap.size (lt_of_block HX.out)).trans HX.out); clear e0 hlt; go_simp; try (with_reducible rfl))
      simp only [Act.put]; try simp only [List.setIfInBounds_toArray]; try simp only [List.set_cons_zero, List.set_cons_succ]
      refine wpAnyL_take (i := 11) (d := some 34) (v := ?van111) rfl rfl (by kernel_rfl) (by kernel_rfl) (by kernel_rfl) (fun _ _ _ h => h) (by rfl) ?yan111 ?_
      case yan111 => (intro w' hw'; go_simp; try (with_reducible rfl))
      simp only [Act.put]; try simp only [List.setIfInBounds_toArray]; try simp only [List.set_cons_zero, List.set_cons_succ]
      refine wpAnyL_take (i := 12) (d := some 35) (v := ?van112) rfl rfl (by kernel_rfl) (by kernel_rfl) (by kernel_rfl) (fun _ _ _ h => h) (by rfl) ?yan112 ?_
      case yan112 => (intro w' hw'; have hlt : Below w1.heap.size w1 w' := L4.out.trans (((Below.refl w4.heap.size w4).drew.trans hw').mono L4.out.size); obtain ⟨e0, e1, e2⟩ := act_cells ((hlt.block w.heap.size (lt_of_block HX.out)).trans HX.out); clear e0 hlt; go_simp; try (with_reducible rfl))
      simp only [Act.put]; try simp only [List.setIfInBounds_toArray]; try simp only [List.set_cons_zero, List.set_cons_succ]
      refine wpAnyL_only (i := 13) rfl (by kernel_rfl) (by rfl) fun K hK => ?_
      go_simp
      refine (start_no a.client a.request _ ((N1.out.later L4.out).later (Below.refl w4.heap.size w4).drew)).mono ?_
      rintro e w5 ⟨rfl, rfl⟩
      refine hK.out _ _ (Later.refl _) ?_
      clear hK K
      try (simp only [Act.put]; try simp only [List.setIfInBounds_toArray]; try simp only [List.set_cons_zero, List.set_cons_succ])
      refine wpAnyL_take (i := 14) (d := some 37) (v := ?van114) rfl rfl (by kernel_rfl) (by kernel_rfl) (by kernel_rfl) (fun _ _ _ h => h) (by rfl) ?yan114 ?_
      case yan114 => (intro w' hw'; go_simp; try (with_reducible rfl))
      simp only [Act.put]; try simp only [List.setIfInBounds_toArray]; try simp only [List.set_cons_zero, List.set_cons_succ]
      refine wpAnyL_take (i := 15) (d := some 38) (v := ?van115) rfl rfl (by kernel_rfl) (by kernel_rfl) (by kernel_rfl) (fun _ _ _ h => h) (by rfl) ?yan115 ?_
      case yan115 => (intro w' hw'; go_simp; try (with_reducible rfl))
      simp only [Act.put]; try simp only [List.setIfInBounds_toArray]; try simp only [List.set_cons_zero, List.set_cons_succ]
      refine wpAnyL_take (i := 16) (d := some 39) (v := ?van116) rfl rfl (by kernel_rfl) (by kernel_rfl) (by kernel_rfl) (fun _ _ _ h => h) (by rfl) ?yan116 ?_
      case yan116 => (intro w' hw'; go_simp; try (with_reducible rfl))
      simp only [Act.put]; try simp only [List.setIfInBounds_toArray]; try simp only [List.set_cons_zero, List.set_cons_succ]
      refine wpAnyL_take (i := 17) (d := some 40) (v := ?van117) rfl rfl (by kernel_rfl) (by kernel_rfl) (by kernel_rfl) (fun _ _ _ h => h) (by rfl) ?yan117 ?_
      case yan117 => (intro w' hw'; go_simp; try (with_reducible rfl))
      simp only [Act.put]; try simp only [List.setIfInBounds_toArray]; try simp only [List.set_cons_zero, List.set_cons_succ]
      refine wpAnyL_take (i := 18) (d := some 41) (v := ?van118) rfl rfl (by kernel_rfl) (by kernel_rfl) (by kernel_rfl) (fun _ _ _ h => h) (by rfl) ?yan118 ?_
      case yan118 => (intro w' hw'; go_simp; try (with_reducible rfl))
      simp only [Act.put]; try simp only [List.setIfInBounds_toArray]; try simp only [List.set_cons_zero, List.set_cons_succ]
      refine wpAnyL_take (i := 19) (d := some 42) (v := ?van119) rfl rfl (by kernel_rfl) (by kernel_rfl) (by kernel_rfl) (fun _ _ _ h => h) (by rfl) ?yan119 ?_
      case yan119 => (intro w' hw'; have hlt : Below w1.heap.size w1 w' := L4.out.trans (((Below.refl w4.heap.size w4).drew.trans hw').mono L4.out.size); obtain ⟨e0, e1, e2⟩ := act_cells ((hlt.block w.heap.size (lt_of_block HX.out)).trans HX.out); clear e0 hlt; go_simp; try (with_reducible rfl))
      simp only [Act.put]; try simp only [List.setIfInBounds_toArray]; try simp only [List.set_cons_zero, List.set_cons_succ]
      refine wpAnyL_take (i := 20) (d := some 43) (v := ?van120) rfl rfl (by kernel_rfl) (by kernel_rfl) (by kernel_rfl) (fun _ _ _ h => h) (by rfl) ?yan120 ?_
      case yan120 => (intro w' hw'; go_simp; try (with_reducible rfl))
      simp only [Act.put]; try simp only [List.setIfInBounds_toArray]; try simp only [List.set_cons_zero, List.set_cons_succ]
      refine wpAnyL_take (i := 21) (d := some 44) (v := ?van121) rfl rfl (by kernel_rfl) (by kernel_rfl) (by kernel_rfl) (fun _ _ _ h => h) (by rfl) ?yan121 ?_
      case yan121 => (intro w' hw'; have hlt : Below w1.heap.size w1 w' := L4.out.trans (((Below.refl w4.heap.size w4).drew.trans hw').mono L4.out.size); obtain ⟨e0, e1, e2⟩ := act_cells ((hlt.block w.heap.size (lt_of_block HX.out)).trans HX.out); clear e0 hlt; go_simp; try (with_reducible rfl))
      simp only [Act.put]; try simp only [List.setIfInBounds_toArray]; try simp only [List.set_cons_zero, List.set_cons_succ]
      refine wpAnyL_take (i := 22) (d := some 45) (v := ?van122) rfl rfl (by kernel_rfl) (by kernel_rfl) (by kernel_rfl) (fun _ _ _ h => h) (by rfl) ?yan122 ?_
      case yan122 => (intro w' hw'; go_simp; try (with_reducible rfl))
      simp only [Act.put]; try simp only [List.setIfInBounds_toArray]; try simp only [List.set_cons_zero, List.set_cons_succ]
      refine wpAnyL_take (i := 23) (d := some 46) (v := a.rep.val) rfl rfl (by kernel_rfl) (by kernel_rfl) (by kernel_rfl) (fun _ _ _ h => h) (by rfl) ?yan123 ?_
      case yan123 => (intro w' hw'; exact exec_load_box 29 _ (by rfl) w.heap.size 3 (by rfl) 36 _ (((L4.out.trans (((Below.refl w4.heap.size w4).drew.trans hw').mono L4.out.size)).block w.heap.size (lt_of_block HX.out)).trans HX.out) 4 _ Try.underlying29 (by rfl) (by kernel_rfl) a.rep.cells (by exact act_rep a) (by rfl))
      simp only [Act.put]; try simp only [List.setIfInBounds_toArray]; try simp only [List.set_cons_zero, List.set_cons_succ]
      refine wpAnyL_only (i := 24) rfl (by kernel_rfl) (by rfl) fun K hK => ?_
      go_simp
      refine (finish_no a.client a.request a.rep _ ((N1.out.later L4.out).later (Below.refl w4.heap.size w4).drew)).mono ?_
      rintro e w5 ⟨rfl, hb5⟩
      have HB5 : Hid (Below w4.heap.size w4 w5) := (Below.refl _ _).drew.trans hb5
      refine hK.out _ _ hb5 ?_
      clear hb5
      clear hK K
      try (simp only [Act.put]; try simp only [List.setIfInBounds_toArray]; try simp only [List.set_cons_zero, List.set_cons_succ])
      refine wpAnyL_take (i := 25) (d := some 48) (v := ?van125) rfl rfl (by kernel_rfl) (by kernel_rfl) (by kernel_rfl) (fun _ _ _ h => h) (by rfl) ?yan125 ?_
      case yan125 => (intro w' hw'; go_simp; try (with_reducible rfl))
      simp only [Act.put]; try simp only [List.setIfInBounds_toArray]; try simp only [List.set_cons_zero, List.set_cons_succ]
      refine wpAnyL_take (i := 26) (d := some 49) (v := ?van126) rfl rfl (by kernel_rfl) (by kernel_rfl) (by kernel_rfl) (fun _ _ _ h => h) (by rfl) ?yan126 ?_
      case yan126 => (intro w' hw'; go_simp; try (with_reducible rfl))
      simp only [Act.put]; try simp only [List.setIfInBounds_toArray]; try simp only [List.set_cons_zero, List.set_cons_succ]
      refine wpAnyL_take (i := 27) (d := some 50) (v := ?van127) rfl rfl (by kernel_rfl) (by kernel_rfl) (by kernel_rfl) (fun _ _ _ h => h) (by rfl) ?yan127 ?_
      case yan127 => (intro w' hw'; go_simp; try (with_reducible rfl))
      simp only [Act.put]; try simp only [List.setIfInBounds_toArray]; try simp only [List.set_cons_zero, List.set_cons_succ]
      refine wpAnyL_take (i := 28) (d := some 51) (v := ?van128) rfl rfl (by kernel_rfl) (by kernel_rfl) (by kernel_rfl) (fun _ _ _ h => h) (by rfl) ?yan128 ?_
      case yan128 => (intro w' hw'; go_simp; try (with_reducible rfl))
      simp only [Act.put]; try simp only [List.setIfInBounds_toArray]; try simp only [List.set_cons_zero, List.set_cons_succ]
      refine wpAnyL_take (i := 29) (d := some 52) (v := ?van129) rfl rfl (by kernel_rfl) (by kernel_rfl) (by kernel_rfl) (fun _ _ _ h => h) (by rfl) ?yan129 ?_
      case yan129 => (intro w' hw'; go_simp; try (with_reducible rfl))
      simp only [Act.put]; try simp only [List.setIfInBounds_toArray]; try simp only [List.set_cons_zero, List.set_cons_succ]
      refine wpAnyL_take (i := 30) (d := some 53) (v := ?van130) rfl rfl (by kernel_rfl) (by kernel_rfl) (by kernel_rfl) (fun _ _ _ h => h) (by rfl) ?yan130 ?_
      case yan130 => (intro w' hw'; have hlt : Below w1.heap.size w1 w' := L4.out.trans ((HB5.out.trans (Below.mono hw' HB5.out.size)).mono L4.out.size); obtain ⟨e0, e1, e2⟩ := act_cells ((hlt.block w.heap.size (lt_of_block HX.out)).trans HX.out); clear e0 hlt; go_simp; try (with_reducible rfl))
      simp only [Act.put]; try simp only [List.setIfInBounds_toArray]; try simp only [List.set_cons_zero, List.set_cons_succ]
      refine wpAnyL_take (i := 32) (d := some 55) (v := ?van132) rfl rfl (by kernel_rfl) (by kernel_rfl) (by kernel_rfl) (fun _ _ _ h => h) (by rfl) ?yan132 ?_
      case yan132 => (intro w' hw'; go_simp; try (with_reducible rfl))
      simp only [Act.put]; try simp only [List.setIfInBounds_toArray]; try simp only [List.set_cons_zero, List.set_cons_succ]
      refine wpAnyL_take (i := 33) (d := some 56) (v := ?van133) rfl rfl (by kernel_rfl) (by kernel_rfl) (by kernel_rfl) (fun _ _ _ h => h) (by rfl) ?yan133 ?_
      case yan133 => (intro w' hw'; go_simp; try (with_reducible rfl))
      simp only [Act.put]; try simp only [List.setIfInBounds_toArray]; try simp only [List.set_cons_zero, List.set_cons_succ]
      refine wpAnyL_take (i := 34) (d := some 57) (v := ?van134) rfl rfl (by kernel_rfl) (by kernel_rfl) (by kernel_rfl) (fun _ _ _ h => h) (by rfl) ?yan134 ?_
      case yan134 => (intro w' hw'; have hlt : Below w1.heap.size w1 w' := L4.out.trans ((HB5.out.trans (Below.mono hw' HB5.out.size)).mono L4.out.size); obtain ⟨e0, e1, e2⟩ := act_cells ((hlt.block w.heap.size (lt_of_block HX.out)).trans HX.out); clear e0 hlt; go_simp; try (with_reducible rfl))
      simp only [Act.put]; try simp only [List.setIfInBounds_toArray]; try simp only [List.set_cons_zero, List.set_cons_succ]
      refine wpAnyL_only (i := 31) rfl (by kernel_rfl) (by rfl) fun K hK => ?_
      go_simp
      refine (last_no a.client _ ((N1.out.later L4.out).later HB5.out)).mono ?_
      rintro e w6 ⟨rfl, hb6⟩
      have HB6 : Hid (Below w4.heap.size w4 w6) := HB5.out.trans (hb6.mono HB5.out.size)
      refine hK.out _ _ hb6 ?_
      clear hb6
      clear hK K
      try (simp only [Act.put]; try simp only [List.setIfInBounds_toArray]; try simp only [List.set_cons_zero, List.set_cons_succ])
      refine wpAnyL_only (i := 35) rfl (by kernel_rfl) (by rfl) fun K hK => ?_
      go_simp
      refine (done_no a.client _ ((N1.out.later L4.out).later HB6.out)).mono ?_
      rintro e w7 ⟨rfl, hb7⟩
      have HB7 : Hid (Below w4.heap.size w4 w7) := HB6.out.trans (hb7.mono HB6.out.size)
      refine hK.out _ _ hb7 ?_
      clear hb7
      clear hK K
      try (simp only [Act.put]; try simp only [List.setIfInBounds_toArray]; try simp only [List.set_cons_zero, List.set_cons_succ])
      refine wpAnyL_take (i := 36) (d := some 59) (v := .int .i64 0) rfl rfl (by kernel_rfl) (by kernel_rfl) (by kernel_rfl) (fun _ _ _ h => h) (by rfl) ?yan136 ?_
      case yan136 => (intro w' hw'; go_simp; first | done | rfl | decide)
      simp only [Act.put]; try simp only [List.setIfInBounds_toArray]; try simp only [List.set_cons_zero, List.set_cons_succ]
      refine wpAnyL_take (i := 37) (d := some 60) (v := ?van137) rfl rfl (by kernel_rfl) (by kernel_rfl) (by kernel_rfl) (fun _ _ _ h => h) (by rfl) ?yan137 ?_
      case yan137 => (intro w' hw'; go_simp; try (with_reducible rfl))
      simp only [Act.put]; try simp only [List.setIfInBounds_toArray]; try simp only [List.set_cons_zero, List.set_cons_succ]
      refine wpAnyL_take (i := 38) (d := some 61) (v := ?van138) rfl rfl (by kernel_rfl) (by kernel_rfl) (by kernel_rfl) (fun _ _ _ h => h) (by rfl) ?yan138 ?_
      case yan138 => (intro w' hw'; go_simp; try (with_reducible rfl))
      simp only [Act.put]; try simp only [List.setIfInBounds_toArray]; try simp only [List.set_cons_zero, List.set_cons_succ]
      refine wpAnyL_take (i := 39) (d := some 62) (v := ?van139) rfl rfl (by kernel_rfl) (by kernel_rfl) (by kernel_rfl) (fun _ _ _ h => h) (by rfl) ?yan139 ?_
      case yan139 => (intro w' hw'; go_simp; try (with_reducible rfl))
      simp only [Act.put]; try simp only [List.setIfInBounds_toArray]; try simp only [List.set_cons_zero, List.set_cons_succ]
      refine wpAnyL_take (i := 40) (d := some 63) (v := ?van140) rfl rfl (by kernel_rfl) (by kernel_rfl) (by kernel_rfl) (fun _ _ _ h => h) (by rfl) ?yan140 ?_
      case yan140 => (intro w' hw'; go_simp; try (with_reducible rfl))
      simp only [Act.put]; try simp only [List.setIfInBounds_toArray]; try simp only [List.set_cons_zero, List.set_cons_succ]
      refine wpAnyL_take (i := 42) (d := some 65) (v := ?van142) rfl rfl (by kernel_rfl) (by kernel_rfl) (by kernel_rfl) (fun _ _ _ h => h) (by rfl) ?yan142 ?_
      case yan142 => (intro w' hw'; go_simp; try (with_reducible rfl))
      simp only [Act.put]; try simp only [List.setIfInBounds_toArray]; try simp only [List.set_cons_zero, List.set_cons_succ]
      refine wpAnyL_only (i := 41) rfl (by kernel_rfl) (by rfl) fun K hK => ?_
      go_simp
      refine (copy_no _ ((N1.out.later L4.out).later HB7.out)).mono ?_
      rintro e w8 ⟨rfl, rfl⟩
      refine hK.out _ _ (Later.refl _) ?_
      clear hK K
      try (simp only [Act.put]; try simp only [List.setIfInBounds_toArray]; try simp only [List.set_cons_zero, List.set_cons_succ])
      refine wpAnyL_take (i := 43) (d := some 66) (v := .bool false) rfl rfl (by kernel_rfl) (by kernel_rfl) (by kernel_rfl) (fun _ _ _ h => h) (by rfl) ?yan143 ?_
      case yan143 => (intro w' hw'; have q := HPP w'; go_simp; try (with_reducible rfl))
      simp only [Act.put]; try simp only [List.setIfInBounds_toArray]; try simp only [List.set_cons_zero, List.set_cons_succ]
      refine wpAnyL_take (i := 44) (d := some 67) (v := ?van144) rfl rfl (by kernel_rfl) (by kernel_rfl) (by kernel_rfl) (fun _ _ _ h => h) (by rfl) ?yan144 ?_
      case yan144 => (intro w' hw'; go_simp; try (with_reducible rfl))
      simp only [Act.put]; try simp only [List.setIfInBounds_toArray]; try simp only [List.set_cons_zero, List.set_cons_succ]
      refine wpAnyL_done (by kernel_rfl) ?_ _
      go_wp2
      go_roundw
      case rel => exact ⟨2, by first | rfl | go_num, by omega, L4.out.trans (HB7.out.mono L4.out.size)⟩
      case measure => simp [intOf]
    · go_wp2_with (fail)
      refine (lives_any _).mono ?_
      rintro e w2 ⟨rfl, hb2⟩
      have HL := hide (L1.out.trans ((HB.out.trans (hb2.mono HB.out.size)).mono L1.out.size))
      clear hb2
      go_wp2
      go_ret
      exact ⟨rfl, HL.out⟩
end Go.Proofs.Ytmakibpbodfchaa
