/- Texts merged: SagK, SagL, SagP, SagQ, BkG, BkH, BkI, BkJ, LitW, BkL, BkN. -/
import Derived.Test.YtpicnoinnngpeaaGreatBaseK1
import Derived.Test.YtpicnoinnngpeaaGreatBaseK2
import Derived.Test.YtpicnoinnngpeaaGreatBaseK3
import Derived.Test.YtpicnoinnngpeaaGreatBaseK4
/- A saga is cancelled. -/
namespace Go.Proofs.YtpicnoinnngpeaaGreat
open Go.RowKit
/-- What Cancel says: a saga, its steps in new memory, and an error. -/
def CTold (s : SagaD) (err : Int) (l : List StepD) (w : World) (e : Ending) (w' : World) : Prop := ∃ p n c, e = .returned (.tuple #[(s.withV p n c).val, .int .i64 err]) ∧ StepsAt (w.heap.size ≤ ·) w' (.slice p n c) l ∧ Later w w'
section
variable {w : World}
set_option maxHeartbeats 4000000 in
theorem cancel_arg {F : Nat → Prop} {s : SagaD} {l : List StepD} (h : StepsAt F w s.v l) (hl6 : l.length ≤ 1000000) (hw : ∀ x ∈ l, x.wf) (h1 : I64 s.step) (hq : goodF l s = false) : Calls Tryz.prog 35 #[s.val] w (CTold s 2 l w) := by
  obtain ⟨W1, hW1⟩ : ∃ W1, W1 = (w.alloc (.cells s.cells.toArray 36 (0, 0))).alloc (.cells #[.string ⟨#[]⟩, .slice none 0 0, .int .i64 0, .int .i64 0, .int .i64 0, .bool false, .bool false, .bool false, .bool false, .bool false, .bool false, .bool false, .bool false] 36 (0, 0)) := ⟨_, rfl⟩
  obtain ⟨g, hg⟩ : ∃ g, g = w.heap.size := ⟨_, rfl⟩
  have X1 : Hid (SBox 36 g s W1) := by rw [hW1, hg]; exact (heap_alloc_old _ _ (by simp)).trans (heap_alloc_new _ _)
  have Y1 : Hid (SBox 36 (g + 1) SagaD.zero W1) := by rw [hW1, hg]; exact heap_second _ _ _
  have L1 : Hid (Later w W1) := by rw [hW1]; exact ((Below.refl _ _).alloc (Nat.le_refl _) _).alloc (by simp) _
  have HG0 : Hid (w.heap.size ≤ g) := Nat.le_of_eq hg.symm
  have C : Hid (∀ W, Later W1 W → Calls Tryz.prog 51 #[s.val] W (Gives (.bool false) W)) := fun W hW => by rw [← hq]; exact good_any (StepsAt.kept h (Kept.of_below (L1.out.trans hW) _)) hw h1
  have CO : Hid (∀ W, Later W1 W → Calls Tryz.prog 66 #[s.val] W (Owns s l W)) := fun W hW => own_any (StepsAt.kept h (Kept.of_below (L1.out.trans hW) _)) hl6
  have HW1 := hide hW1.symm
  have HG := hide hg.symm
  clear hW1 hg h hl6 hw h1 hq
  have xe := X1.out
  rw [← HW1.out, ← HG.out] at xe
  have XE := hide xe
  clear xe
  go_enter Tryz.func35, Tryz.ntmps35
  go_wp2_with (refine wpList_load_saga (by rfl) _ (by rfl) (by rfl) XE.out ?_; simp only [HW1.out, HG.out])
  refine (C.out _ (Later.refl _)).mono ?_
  rintro e w2 ⟨rfl, hl⟩
  have L12 := hide hl
  have L2 := hide (L1.out.trans hl)
  have X2 := hide (X1.out.below hl)
  have Y2 := hide (Y1.out.below hl)
  clear hl C
  go_wp2_with (refine wpList_load_saga (by rfl) _ (by rfl) (by rfl) X2.out ?_)
  refine (CO.out _ L12.out).mono ?_
  rintro e w3 ⟨P, N, K, rfl, hs, hl⟩
  have HS9 := hide hs
  have HLT := hide (Y2.out.lt)
  have L3 := hide (L2.out.trans hl)
  have HSZ := hide (Below.size L2.out)
  have Y3 := hide (Y2.out.below hl)
  clear hl hs
  go_wp2_with (first | (refine wpList_load_saga (by rfl) _ (by rfl) (by rfl) X2.out ?_) | (refine wpList_store_saga (by rfl) _ _ (by rfl) (by rfl) Y3.out (by rfl) ?_; intro w4 Z4 G4))
  have S9 : Hid (StepsAt (w.heap.size ≤ ·) w4 (.slice P N K) l) := FlatAt.mono (own_kept HS9.out HLT.out G4) (fun i _ hf => Nat.le_trans HSZ.out hf)
  have HLF : Hid (Later w _) := L3.out.grown G4 (Below.size L3.out) (fun k hk => by have := Option.some.inj hk; have := HG0.out; omega)
  refine bodyPost_ret (results_box2 Tryz.results35 _ _ (g + 1) 36 _ _ (by rfl) Z4 Tryz.underlying36 (by rfl) (by kernel_rfl) (.int .i64 2) (by rfl)) (by rfl) ?_
  exact ⟨P, N, K, rfl, S9.out, HLF.out⟩
set_option maxHeartbeats 4000000 in
theorem cancel_undo {F : Nat → Prop} {s : SagaD} {l : List StepD} (h : StepsAt F w s.v l) (hl6 : l.length ≤ 1000000) (hw : ∀ x ∈ l, x.wf) (h1 : I64 s.step) (hq : goodF l s = true) (hst : s.st = 2) : Calls Tryz.prog 35 #[s.val] w (CTold s 0 l w) := by
  obtain ⟨W1, hW1⟩ : ∃ W1, W1 = (w.alloc (.cells s.cells.toArray 36 (0, 0))).alloc (.cells #[.string ⟨#[]⟩, .slice none 0 0, .int .i64 0, .int .i64 0, .int .i64 0, .bool false, .bool false, .bool false, .bool false, .bool false, .bool false, .bool false, .bool false] 36 (0, 0)) := ⟨_, rfl⟩
  obtain ⟨g, hg⟩ : ∃ g, g = w.heap.size := ⟨_, rfl⟩
  have X1 : Hid (SBox 36 g s W1) := by rw [hW1, hg]; exact (heap_alloc_old _ _ (by simp)).trans (heap_alloc_new _ _)
  have Y1 : Hid (SBox 36 (g + 1) SagaD.zero W1) := by rw [hW1, hg]; exact heap_second _ _ _
  have L1 : Hid (Later w W1) := by rw [hW1]; exact ((Below.refl _ _).alloc (Nat.le_refl _) _).alloc (by simp) _
  have HG0 : Hid (w.heap.size ≤ g) := Nat.le_of_eq hg.symm
  have C : Hid (∀ W, Later W1 W → Calls Tryz.prog 51 #[s.val] W (Gives (.bool true) W)) := fun W hW => by rw [← hq]; exact good_any (StepsAt.kept h (Kept.of_below (L1.out.trans hW) _)) hw h1
  have CO : Hid (∀ W, Later W1 W → Calls Tryz.prog 66 #[s.val] W (Owns s l W)) := fun W hW => own_any (StepsAt.kept h (Kept.of_below (L1.out.trans hW) _)) hl6
  have HW1 := hide hW1.symm
  have HG := hide hg.symm
  clear hW1 hg h hl6 hw h1 hq
  have xe := X1.out
  rw [← HW1.out, ← HG.out] at xe
  have XE := hide xe
  clear xe
  go_enter Tryz.func35, Tryz.ntmps35
  go_wp2_with (refine wpList_load_saga (by rfl) _ (by rfl) (by rfl) XE.out ?_; simp only [HW1.out, HG.out])
  refine (C.out _ (Later.refl _)).mono ?_
  rintro e w2 ⟨rfl, hl⟩
  have L12 := hide hl
  have L2 := hide (L1.out.trans hl)
  have X2 := hide (X1.out.below hl)
  have Y2 := hide (Y1.out.below hl)
  clear hl C
  have c2 := X2.out.c2
  rw [hst] at c2
  clear hst
  go_wp2_with (refine wpList_load_saga (by rfl) _ (by rfl) (by rfl) X2.out ?_)
  refine (CO.out _ L12.out).mono ?_
  rintro e w3 ⟨P, N, K, rfl, hs, hl⟩
  have HS9 := hide hs
  have HLT := hide (Y2.out.lt)
  have L3 := hide (L2.out.trans hl)
  have HSZ := hide (Below.size L2.out)
  have Y3 := hide (Y2.out.below hl)
  clear hl hs
  go_wp2_with (first | (refine wpList_load_saga (by rfl) _ (by rfl) (by rfl) X2.out ?_) | (refine wpList_store_saga (by rfl) _ _ (by rfl) (by rfl) Y3.out (by rfl) ?_; intro w4 Z4 G4))
  have S9 : Hid (StepsAt (w.heap.size ≤ ·) w4 (.slice P N K) l) := FlatAt.mono (own_kept HS9.out HLT.out G4) (fun i _ hf => Nat.le_trans HSZ.out hf)
  have HLF : Hid (Later w _) := L3.out.grown G4 (Below.size L3.out) (fun k hk => by have := Option.some.inj hk; have := HG0.out; omega)
  refine bodyPost_ret (results_box2 Tryz.results35 _ _ (g + 1) 36 _ _ (by rfl) Z4 Tryz.underlying36 (by rfl) (by kernel_rfl) (.int .i64 0) (by rfl)) (by rfl) ?_
  exact ⟨P, N, K, rfl, S9.out, HLF.out⟩
set_option maxHeartbeats 4000000 in
theorem cancel_late1 {F : Nat → Prop} {s : SagaD} {l : List StepD} (h : StepsAt F w s.v l) (_hl8 : l.length ≤ 8) (hw : ∀ x ∈ l, x.wf) (h1 : I64 s.step) (hq : goodF l s = true) (n1 : s.st ≠ 1) (n2 : s.st ≠ 2) : Calls Tryz.prog 35 #[s.val] w (CTold SagaD.zero 10 [] w) := by
  obtain ⟨W1, hW1⟩ : ∃ W1, W1 = (w.alloc (.cells s.cells.toArray 36 (0, 0))).alloc (.cells #[.string ⟨#[]⟩, .slice none 0 0, .int .i64 0, .int .i64 0, .int .i64 0, .bool false, .bool false, .bool false, .bool false, .bool false, .bool false, .bool false, .bool false] 36 (0, 0)) := ⟨_, rfl⟩
  obtain ⟨g, hg⟩ : ∃ g, g = w.heap.size := ⟨_, rfl⟩
  have X1 : Hid (SBox 36 g s W1) := by rw [hW1, hg]; exact (heap_alloc_old _ _ (by simp)).trans (heap_alloc_new _ _)
  have Y1 : Hid (SBox 36 (g + 1) SagaD.zero W1) := by rw [hW1, hg]; exact heap_second _ _ _
  have L1 : Hid (Later w W1) := by rw [hW1]; exact ((Below.refl _ _).alloc (Nat.le_refl _) _).alloc (by simp) _
  have HG0 : Hid (w.heap.size ≤ g) := Nat.le_of_eq hg.symm
  have C : Hid (∀ W, Later W1 W → Calls Tryz.prog 51 #[s.val] W (Gives (.bool true) W)) := fun W hW => by rw [← hq]; exact good_any (StepsAt.kept h (Kept.of_below (L1.out.trans hW) _)) hw h1
  have HW1 := hide hW1.symm
  have HG := hide hg.symm
  clear hW1 hg h hw h1 hq
  have xe := X1.out
  rw [← HW1.out, ← HG.out] at xe
  have XE := hide xe
  clear xe
  go_enter Tryz.func35, Tryz.ntmps35
  go_wp2_with (refine wpList_load_saga (by rfl) _ (by rfl) (by rfl) XE.out ?_; simp only [HW1.out, HG.out])
  refine (C.out _ (Later.refl _)).mono ?_
  rintro e w2 ⟨rfl, hl⟩
  have L12 := hide hl
  have L2 := hide (L1.out.trans hl)
  have X2 := hide (X1.out.below hl)
  have Y2 := hide (Y1.out.below hl)
  clear hl C
  have c2 := X2.out.c2
  have b2 : (s.st == 2) = false := by rw [beq_eq_false_iff_ne]; exact n2
  have HN1 := hide n1
  clear n1 n2
  go_wp2_with (fail)
  have XD := hide (show SBox 36 g s w2.drew from X2.out)
  have YD := hide (show SBox 36 (g + 1) SagaD.zero w2.drew from Y2.out)
  have LD := hide (L2.out.trans (Later.drew w2))
  have LD1 := hide (L12.out.trans (Later.drew w2))
  refine wp_region_L (by kernel_rfl) ?_
  refine wpAnyL_take (i := 0) (d := some 17) (v := ?vaa0) rfl rfl (by kernel_rfl) (by kernel_rfl) (by kernel_rfl) (fun _ _ _ h => h) (by rfl) ?yaa0 ?_
  case yaa0 => (intro w' hw'; go_simp; try (with_reducible rfl))
  simp only [Act.put]; try simp only [List.setIfInBounds_toArray]; try simp only [List.set_cons_zero, List.set_cons_succ]
  refine wpAnyL_take (i := 1) (d := some 18) (v := ?vaa1) rfl rfl (by kernel_rfl) (by kernel_rfl) (by kernel_rfl) (fun _ _ _ h => h) (by rfl) ?yaa1 ?_
  case yaa1 => (intro w' hw'; have c2 := (XD.out.below hw').c2; go_simp; try (with_reducible rfl))
  simp only [Act.put]; try simp only [List.setIfInBounds_toArray]; try simp only [List.set_cons_zero, List.set_cons_succ]
  refine wpAnyL_take (i := 2) (d := some 19) (v := .bool true) rfl rfl (by kernel_rfl) (by kernel_rfl) (by kernel_rfl) (fun _ _ _ h => h) (by rfl) ?yaa2 ?_
  case yaa2 => (intro w' hw'; go_simp; simp [HN1.out])
  simp only [Act.put]; try simp only [List.setIfInBounds_toArray]; try simp only [List.set_cons_zero, List.set_cons_succ]
  refine wpAnyL_take (i := 3) (d := some 20) (v := ?vaa3) rfl rfl (by kernel_rfl) (by kernel_rfl) (by kernel_rfl) (fun _ _ _ h => h) (by rfl) ?yaa3 ?_
  case yaa3 => (intro w' hw'; go_simp; try (with_reducible rfl))
  simp only [Act.put]; try simp only [List.setIfInBounds_toArray]; try simp only [List.set_cons_zero, List.set_cons_succ]
  refine wpAnyL_pass (i := 4) (d := some 21) rfl rfl (by kernel_rfl) (by kernel_rfl) (by kernel_rfl) (fun _ _ _ h => h) (by rfl) ?_
  try (simp only [Act.put]; try simp only [List.setIfInBounds_toArray]; try simp only [List.set_cons_zero, List.set_cons_succ])
  refine wpAnyL_pass (i := 5) (d := some 22) rfl rfl (by kernel_rfl) (by kernel_rfl) (by kernel_rfl) (fun _ _ _ h => h) (by rfl) ?_
  try (simp only [Act.put]; try simp only [List.setIfInBounds_toArray]; try simp only [List.set_cons_zero, List.set_cons_succ])
  refine wpAnyL_take (i := 6) (d := some 23) (v := ?vaa6) rfl rfl (by kernel_rfl) (by kernel_rfl) (by kernel_rfl) (fun _ _ _ h => h) (by rfl) ?yaa6 ?_
  case yaa6 => (intro w' hw'; go_simp; try (with_reducible rfl))
  simp only [Act.put]; try simp only [List.setIfInBounds_toArray]; try simp only [List.set_cons_zero, List.set_cons_succ]
  refine wpAnyL_take (i := 7) (d := some 24) (v := ?vaa7) rfl rfl (by kernel_rfl) (by kernel_rfl) (by kernel_rfl) (fun _ _ _ h => h) (by rfl) ?yaa7 ?_
  case yaa7 => (intro w' hw'; go_simp; try (with_reducible rfl))
  simp only [Act.put]; try simp only [List.setIfInBounds_toArray]; try simp only [List.set_cons_zero, List.set_cons_succ]
  refine wpAnyL_pass (i := 8) (d := some 25) rfl rfl (by kernel_rfl) (by kernel_rfl) (by kernel_rfl) (fun _ _ _ h => h) (by rfl) ?_
  try (simp only [Act.put]; try simp only [List.setIfInBounds_toArray]; try simp only [List.set_cons_zero, List.set_cons_succ])
  refine wpAnyL_pass (i := 9) (d := some 26) rfl rfl (by kernel_rfl) (by kernel_rfl) (by kernel_rfl) (fun _ _ _ h => h) (by rfl) ?_
  try (simp only [Act.put]; try simp only [List.setIfInBounds_toArray]; try simp only [List.set_cons_zero, List.set_cons_succ])
  refine wpAnyL_pass (i := 10) (d := some 27) rfl rfl (by kernel_rfl) (by kernel_rfl) (by kernel_rfl) (fun _ _ _ h => h) (by rfl) ?_
  try (simp only [Act.put]; try simp only [List.setIfInBounds_toArray]; try simp only [List.set_cons_zero, List.set_cons_succ])
  refine wpAnyL_pass (i := 11) (d := some 28) rfl rfl (by kernel_rfl) (by kernel_rfl) (by kernel_rfl) (fun _ _ _ h => h) (by rfl) ?_
  try (simp only [Act.put]; try simp only [List.setIfInBounds_toArray]; try simp only [List.set_cons_zero, List.set_cons_succ])
  refine wpAnyL_pass (i := 12) (d := some 29) rfl rfl (by kernel_rfl) (by kernel_rfl) (by kernel_rfl) (fun _ _ _ h => h) (by rfl) ?_
  try (simp only [Act.put]; try simp only [List.setIfInBounds_toArray]; try simp only [List.set_cons_zero, List.set_cons_succ])
  refine wpAnyL_pass (i := 13) (d := some 30) rfl rfl (by kernel_rfl) (by kernel_rfl) (by kernel_rfl) (fun _ _ _ h => h) (by rfl) ?_
  try (simp only [Act.put]; try simp only [List.setIfInBounds_toArray]; try simp only [List.set_cons_zero, List.set_cons_succ])
  refine wpAnyL_take (i := 14) (d := some 31) (v := ?vaa14) rfl rfl (by kernel_rfl) (by kernel_rfl) (by kernel_rfl) (fun _ _ _ h => h) (by rfl) ?yaa14 ?_
  case yaa14 => (intro w' hw'; go_simp; try (with_reducible rfl))
  simp only [Act.put]; try simp only [List.setIfInBounds_toArray]; try simp only [List.set_cons_zero, List.set_cons_succ]
  refine wpAnyL_take (i := 15) (d := some 16) (v := ?vaa15) rfl rfl (by kernel_rfl) (by kernel_rfl) (by kernel_rfl) (fun _ _ _ h => h) (by rfl) ?yaa15 ?_
  case yaa15 => (intro w' hw'; go_simp; try (with_reducible rfl))
  simp only [Act.put]; try simp only [List.setIfInBounds_toArray]; try simp only [List.set_cons_zero, List.set_cons_succ]
  refine wpAnyL_done (by kernel_rfl) ?_ _
  go_wp2_with (refine wpList_store_saga (s := SagaD.zero) (by rfl) _ _ (by rfl) (by rfl) YD.out (by rfl) ?_; intro w8 Z8 G8)
  have HLF : Hid (Later w _) := LD.out.grown G8 (Below.size LD.out) (fun k hk => by have := Option.some.inj hk; have := HG0.out; omega)
  refine bodyPost_ret (results_box2 Tryz.results35 _ _ (g + 1) 36 _ _ (by rfl) Z8 Tryz.underlying36 (by rfl) (by kernel_rfl) (.int .i64 10) (by rfl)) (by rfl) ?_
  exact ⟨none, 0, 0, rfl, FlatAt.nil_ _ _ _, HLF.out⟩
set_option maxHeartbeats 4000000 in
theorem cancel_late2 {F : Nat → Prop} {s : SagaD} {l : List StepD} (h : StepsAt F w s.v l) (hl8 : l.length ≤ 8) (hw : ∀ x ∈ l, x.wf) (h1 : I64 s.step) (hq : goodF l s = true) (hst : s.st = 1) (hse : sealedS l s = true) : Calls Tryz.prog 35 #[s.val] w (CTold SagaD.zero 10 [] w) := by
  obtain ⟨W1, hW1⟩ : ∃ W1, W1 = (w.alloc (.cells s.cells.toArray 36 (0, 0))).alloc (.cells #[.string ⟨#[]⟩, .slice none 0 0, .int .i64 0, .int .i64 0, .int .i64 0, .bool false, .bool false, .bool false, .bool false, .bool false, .bool false, .bool false, .bool false] 36 (0, 0)) := ⟨_, rfl⟩
  obtain ⟨g, hg⟩ : ∃ g, g = w.heap.size := ⟨_, rfl⟩
  have X1 : Hid (SBox 36 g s W1) := by rw [hW1, hg]; exact (heap_alloc_old _ _ (by simp)).trans (heap_alloc_new _ _)
  have Y1 : Hid (SBox 36 (g + 1) SagaD.zero W1) := by rw [hW1, hg]; exact heap_second _ _ _
  have L1 : Hid (Later w W1) := by rw [hW1]; exact ((Below.refl _ _).alloc (Nat.le_refl _) _).alloc (by simp) _
  have HG0 : Hid (w.heap.size ≤ g) := Nat.le_of_eq hg.symm
  have C : Hid (∀ W, Later W1 W → Calls Tryz.prog 51 #[s.val] W (Gives (.bool true) W)) := fun W hW => by rw [← hq]; exact good_any (StepsAt.kept h (Kept.of_below (L1.out.trans hW) _)) hw h1
  have CS : Hid (∀ W, Later W1 W → Calls Tryz.prog 67 #[s.val] W (Gives (.bool (sealedS l s)) W)) := fun W hW => sealedS_any (StepsAt.kept h (Kept.of_below (L1.out.trans hW) _)) (by omega)
  have CP : Hid (∀ W, Later W1 W → Calls Tryz.prog 68 #[.agg #[.string s.name, .slice s.p s.n s.c]] W fun e w' => e = .returned (.int .i64 ((pivotN l : Nat) : Int)) ∧ Later W w') := fun W hW => pivot_any (StepsAt.kept h (Kept.of_below (L1.out.trans hW) _)) (by omega)
  rw [hse] at CS
  have HW1 := hide hW1.symm
  have HG := hide hg.symm
  clear hW1 hg h hl8 hw h1 hq hse
  have xe := X1.out
  rw [← HW1.out, ← HG.out] at xe
  have XE := hide xe
  clear xe
  go_enter Tryz.func35, Tryz.ntmps35
  go_wp2_with (refine wpList_load_saga (by rfl) _ (by rfl) (by rfl) XE.out ?_; simp only [HW1.out, HG.out])
  refine (C.out _ (Later.refl _)).mono ?_
  rintro e w2 ⟨rfl, hl⟩
  have L12 := hide hl
  have L2 := hide (L1.out.trans hl)
  have X2 := hide (X1.out.below hl)
  have Y2 := hide (Y1.out.below hl)
  clear hl C
  have c2 := X2.out.c2
  rw [hst] at c2
  have HS1 := hide hst
  clear hst CP
  go_wp2_with (fail)
  have XD := hide (show SBox 36 g s w2.drew from X2.out)
  have YD := hide (show SBox 36 (g + 1) SagaD.zero w2.drew from Y2.out)
  have LD := hide (L2.out.trans (Later.drew w2))
  have LD1 := hide (L12.out.trans (Later.drew w2))
  refine wp_region_L (by kernel_rfl) ?_
  refine wpAnyL_take (i := 0) (d := some 17) (v := ?vaa0) rfl rfl (by kernel_rfl) (by kernel_rfl) (by kernel_rfl) (fun _ _ _ h => h) (by rfl) ?yaa0 ?_
  case yaa0 => (intro w' hw'; go_simp; try (with_reducible rfl))
  simp only [Act.put]; try simp only [List.setIfInBounds_toArray]; try simp only [List.set_cons_zero, List.set_cons_succ]
  refine wpAnyL_take (i := 1) (d := some 18) (v := ?vaa1) rfl rfl (by kernel_rfl) (by kernel_rfl) (by kernel_rfl) (fun _ _ _ h => h) (by rfl) ?yaa1 ?_
  case yaa1 => (intro w' hw'; have c2 := (XD.out.below hw').c2; rw [HS1.out] at c2; go_simp; try (with_reducible rfl))
  simp only [Act.put]; try simp only [List.setIfInBounds_toArray]; try simp only [List.set_cons_zero, List.set_cons_succ]
  refine wpAnyL_take (i := 2) (d := some 19) (v := ?vaa2) rfl rfl (by kernel_rfl) (by kernel_rfl) (by kernel_rfl) (fun _ _ _ h => h) (by rfl) ?yaa2 ?_
  case yaa2 => (intro w' hw'; go_simp; try (with_reducible rfl))
  simp only [Act.put]; try simp only [List.setIfInBounds_toArray]; try simp only [List.set_cons_zero, List.set_cons_succ]
  refine wpAnyL_take (i := 3) (d := some 20) (v := ?vaa3) rfl rfl (by kernel_rfl) (by kernel_rfl) (by kernel_rfl) (fun _ _ _ h => h) (by rfl) ?yaa3 ?_
  case yaa3 => (intro w' hw'; go_simp; try (with_reducible rfl))
  simp only [Act.put]; try simp only [List.setIfInBounds_toArray]; try simp only [List.set_cons_zero, List.set_cons_succ]
  refine wpAnyL_take (i := 4) (d := some 21) (v := s.val) rfl rfl (by kernel_rfl) (by kernel_rfl) (by kernel_rfl) (fun _ _ _ h => h) (by rfl) ?yaa4 ?_
  case yaa4 => (intro w' hw'; exact exec_load_saga _ (by rfl) (by rfl) (XD.out.below hw'))
  simp only [Act.put]; try simp only [List.setIfInBounds_toArray]; try simp only [List.set_cons_zero, List.set_cons_succ]
  refine wpAnyL_only (i := 5) rfl (by kernel_rfl) (by rfl) fun K hK => ?_
  go_simp
  refine (CS.out _ LD1.out).mono ?_
  rintro e w_5 ⟨rfl, hl_⟩
  have L5 := hide (LD.out.trans hl_)
  have L15 := hide (LD1.out.trans hl_)
  have X5 := hide (XD.out.below hl_)
  have Y5 := hide (YD.out.below hl_)
  refine hK.out _ _ hl_ ?_
  clear hl_
  clear hK K
  try (simp only [Act.put]; try simp only [List.setIfInBounds_toArray]; try simp only [List.set_cons_zero, List.set_cons_succ])
  refine wpAnyL_take (i := 6) (d := some 23) (v := ?vaa6) rfl rfl (by kernel_rfl) (by kernel_rfl) (by kernel_rfl) (fun _ _ _ h => h) (by rfl) ?yaa6 ?_
  case yaa6 => (intro w' hw'; go_simp; try (with_reducible rfl))
  simp only [Act.put]; try simp only [List.setIfInBounds_toArray]; try simp only [List.set_cons_zero, List.set_cons_succ]
  refine wpAnyL_take (i := 7) (d := some 24) (v := ?vaa7) rfl rfl (by kernel_rfl) (by kernel_rfl) (by kernel_rfl) (fun _ _ _ h => h) (by rfl) ?yaa7 ?_
  case yaa7 => (intro w' hw'; go_simp; try (with_reducible rfl))
  simp only [Act.put]; try simp only [List.setIfInBounds_toArray]; try simp only [List.set_cons_zero, List.set_cons_succ]
  refine wpAnyL_pass (i := 8) (d := some 25) rfl rfl (by kernel_rfl) (by kernel_rfl) (by kernel_rfl) (fun _ _ _ h => h) (by rfl) ?_
  try (simp only [Act.put]; try simp only [List.setIfInBounds_toArray]; try simp only [List.set_cons_zero, List.set_cons_succ])
  refine wpAnyL_pass (i := 9) (d := some 26) rfl rfl (by kernel_rfl) (by kernel_rfl) (by kernel_rfl) (fun _ _ _ h => h) (by rfl) ?_
  try (simp only [Act.put]; try simp only [List.setIfInBounds_toArray]; try simp only [List.set_cons_zero, List.set_cons_succ])
  refine wpAnyL_pass (i := 10) (d := some 27) rfl rfl (by kernel_rfl) (by kernel_rfl) (by kernel_rfl) (fun _ _ _ h => h) (by rfl) ?_
  try (simp only [Act.put]; try simp only [List.setIfInBounds_toArray]; try simp only [List.set_cons_zero, List.set_cons_succ])
  refine wpAnyL_pass (i := 11) (d := some 28) rfl rfl (by kernel_rfl) (by kernel_rfl) (by kernel_rfl) (fun _ _ _ h => h) (by rfl) ?_
  try (simp only [Act.put]; try simp only [List.setIfInBounds_toArray]; try simp only [List.set_cons_zero, List.set_cons_succ])
  refine wpAnyL_pass (i := 12) (d := some 29) rfl rfl (by kernel_rfl) (by kernel_rfl) (by kernel_rfl) (fun _ _ _ h => h) (by rfl) ?_
  try (simp only [Act.put]; try simp only [List.setIfInBounds_toArray]; try simp only [List.set_cons_zero, List.set_cons_succ])
  refine wpAnyL_pass (i := 13) (d := some 30) rfl rfl (by kernel_rfl) (by kernel_rfl) (by kernel_rfl) (fun _ _ _ h => h) (by rfl) ?_
  try (simp only [Act.put]; try simp only [List.setIfInBounds_toArray]; try simp only [List.set_cons_zero, List.set_cons_succ])
  refine wpAnyL_take (i := 14) (d := some 31) (v := ?vaa14) rfl rfl (by kernel_rfl) (by kernel_rfl) (by kernel_rfl) (fun _ _ _ h => h) (by rfl) ?yaa14 ?_
  case yaa14 => (intro w' hw'; go_simp; try (with_reducible rfl))
  simp only [Act.put]; try simp only [List.setIfInBounds_toArray]; try simp only [List.set_cons_zero, List.set_cons_succ]
  refine wpAnyL_take (i := 15) (d := some 16) (v := ?vaa15) rfl rfl (by kernel_rfl) (by kernel_rfl) (by kernel_rfl) (fun _ _ _ h => h) (by rfl) ?yaa15 ?_
  case yaa15 => (intro w' hw'; go_simp; try (with_reducible rfl))
  simp only [Act.put]; try simp only [List.setIfInBounds_toArray]; try simp only [List.set_cons_zero, List.set_cons_succ]
  refine wpAnyL_done (by kernel_rfl) ?_ _
  go_wp2_with (refine wpList_store_saga (s := SagaD.zero) (by rfl) _ _ (by rfl) (by rfl) Y5.out (by rfl) ?_; intro w8 Z8 G8)
  have HLF : Hid (Later w _) := L5.out.grown G8 (Below.size L5.out) (fun k hk => by have := Option.some.inj hk; have := HG0.out; omega)
  refine bodyPost_ret (results_box2 Tryz.results35 _ _ (g + 1) 36 _ _ (by rfl) Z8 Tryz.underlying36 (by rfl) (by kernel_rfl) (.int .i64 10) (by rfl)) (by rfl) ?_
  exact ⟨none, 0, 0, rfl, FlatAt.nil_ _ _ _, HLF.out⟩
set_option maxHeartbeats 4000000 in
theorem cancel_late3 {F : Nat → Prop} {s : SagaD} {l : List StepD} (h : StepsAt F w s.v l) (hl8 : l.length ≤ 8) (hw : ∀ x ∈ l, x.wf) (h1 : I64 s.step) (hq : goodF l s = true) (hst : s.st = 1) (hse : sealedS l s = false) (hp : s.step = ((pivotN l : Nat) : Int)) : Calls Tryz.prog 35 #[s.val] w (CTold SagaD.zero 10 [] w) := by
  obtain ⟨W1, hW1⟩ : ∃ W1, W1 = (w.alloc (.cells s.cells.toArray 36 (0, 0))).alloc (.cells #[.string ⟨#[]⟩, .slice none 0 0, .int .i64 0, .int .i64 0, .int .i64 0, .bool false, .bool false, .bool false, .bool false, .bool false, .bool false, .bool false, .bool false] 36 (0, 0)) := ⟨_, rfl⟩
  obtain ⟨g, hg⟩ : ∃ g, g = w.heap.size := ⟨_, rfl⟩
  have X1 : Hid (SBox 36 g s W1) := by rw [hW1, hg]; exact (heap_alloc_old _ _ (by simp)).trans (heap_alloc_new _ _)
  have Y1 : Hid (SBox 36 (g + 1) SagaD.zero W1) := by rw [hW1, hg]; exact heap_second _ _ _
  have L1 : Hid (Later w W1) := by rw [hW1]; exact ((Below.refl _ _).alloc (Nat.le_refl _) _).alloc (by simp) _
  have HG0 : Hid (w.heap.size ≤ g) := Nat.le_of_eq hg.symm
  have C : Hid (∀ W, Later W1 W → Calls Tryz.prog 51 #[s.val] W (Gives (.bool true) W)) := fun W hW => by rw [← hq]; exact good_any (StepsAt.kept h (Kept.of_below (L1.out.trans hW) _)) hw h1
  have CS : Hid (∀ W, Later W1 W → Calls Tryz.prog 67 #[s.val] W (Gives (.bool (sealedS l s)) W)) := fun W hW => sealedS_any (StepsAt.kept h (Kept.of_below (L1.out.trans hW) _)) (by omega)
  have CP : Hid (∀ W, Later W1 W → Calls Tryz.prog 68 #[.agg #[.string s.name, .slice s.p s.n s.c]] W fun e w' => e = .returned (.int .i64 ((pivotN l : Nat) : Int)) ∧ Later W w') := fun W hW => pivot_any (StepsAt.kept h (Kept.of_below (L1.out.trans hW) _)) (by omega)
  rw [hse] at CS
  obtain ⟨Q2, hQ2⟩ : ∃ q, (s.step == ((pivotN l : Nat) : Int)) = q := ⟨_, rfl⟩
  obtain rfl : Q2 = true := by rw [← hQ2, hp]; simp
  have HPV := hide hp
  have HW1 := hide hW1.symm
  have HG := hide hg.symm
  clear hW1 hg h hl8 hw h1 hq hse hp hQ2
  have xe := X1.out
  rw [← HW1.out, ← HG.out] at xe
  have XE := hide xe
  clear xe
  go_enter Tryz.func35, Tryz.ntmps35
  go_wp2_with (refine wpList_load_saga (by rfl) _ (by rfl) (by rfl) XE.out ?_; simp only [HW1.out, HG.out])
  refine (C.out _ (Later.refl _)).mono ?_
  rintro e w2 ⟨rfl, hl⟩
  have L12 := hide hl
  have L2 := hide (L1.out.trans hl)
  have X2 := hide (X1.out.below hl)
  have Y2 := hide (Y1.out.below hl)
  clear hl C
  have c2 := X2.out.c2
  rw [hst] at c2
  have HS1 := hide hst
  clear hst
  go_wp2_with (fail)
  have XD := hide (show SBox 36 g s w2.drew from X2.out)
  have YD := hide (show SBox 36 (g + 1) SagaD.zero w2.drew from Y2.out)
  have LD := hide (L2.out.trans (Later.drew w2))
  have LD1 := hide (L12.out.trans (Later.drew w2))
  refine wp_region_L (by kernel_rfl) ?_
  refine wpAnyL_take (i := 0) (d := some 17) (v := ?vaa0) rfl rfl (by kernel_rfl) (by kernel_rfl) (by kernel_rfl) (fun _ _ _ h => h) (by rfl) ?yaa0 ?_
  case yaa0 => (intro w' hw'; go_simp; try (with_reducible rfl))
  simp only [Act.put]; try simp only [List.setIfInBounds_toArray]; try simp only [List.set_cons_zero, List.set_cons_succ]
  refine wpAnyL_take (i := 1) (d := some 18) (v := ?vaa1) rfl rfl (by kernel_rfl) (by kernel_rfl) (by kernel_rfl) (fun _ _ _ h => h) (by rfl) ?yaa1 ?_
  case yaa1 => (intro w' hw'; have c2 := (XD.out.below hw').c2; rw [HS1.out] at c2; go_simp; try (with_reducible rfl))
  simp only [Act.put]; try simp only [List.setIfInBounds_toArray]; try simp only [List.set_cons_zero, List.set_cons_succ]
  refine wpAnyL_take (i := 2) (d := some 19) (v := ?vaa2) rfl rfl (by kernel_rfl) (by kernel_rfl) (by kernel_rfl) (fun _ _ _ h => h) (by rfl) ?yaa2 ?_
  case yaa2 => (intro w' hw'; go_simp; try (with_reducible rfl))
  simp only [Act.put]; try simp only [List.setIfInBounds_toArray]; try simp only [List.set_cons_zero, List.set_cons_succ]
  refine wpAnyL_take (i := 3) (d := some 20) (v := ?vaa3) rfl rfl (by kernel_rfl) (by kernel_rfl) (by kernel_rfl) (fun _ _ _ h => h) (by rfl) ?yaa3 ?_
  case yaa3 => (intro w' hw'; go_simp; try (with_reducible rfl))
  simp only [Act.put]; try simp only [List.setIfInBounds_toArray]; try simp only [List.set_cons_zero, List.set_cons_succ]
  refine wpAnyL_take (i := 4) (d := some 21) (v := s.val) rfl rfl (by kernel_rfl) (by kernel_rfl) (by kernel_rfl) (fun _ _ _ h => h) (by rfl) ?yaa4 ?_
  case yaa4 => (intro w' hw'; exact exec_load_saga _ (by rfl) (by rfl) (XD.out.below hw'))
  simp only [Act.put]; try simp only [List.setIfInBounds_toArray]; try simp only [List.set_cons_zero, List.set_cons_succ]
  refine wpAnyL_only (i := 5) rfl (by kernel_rfl) (by rfl) fun K hK => ?_
  go_simp
  refine (CS.out _ LD1.out).mono ?_
  rintro e w_5 ⟨rfl, hl_⟩
  have L5 := hide (LD.out.trans hl_)
  have L15 := hide (LD1.out.trans hl_)
  have X5 := hide (XD.out.below hl_)
  have Y5 := hide (YD.out.below hl_)
  refine hK.out _ _ hl_ ?_
  clear hl_
  clear hK K
  try (simp only [Act.put]; try simp only [List.setIfInBounds_toArray]; try simp only [List.set_cons_zero, List.set_cons_succ])
  refine wpAnyL_take (i := 6) (d := some 23) (v := ?vaa6) rfl rfl (by kernel_rfl) (by kernel_rfl) (by kernel_rfl) (fun _ _ _ h => h) (by rfl) ?yaa6 ?_
  case yaa6 => (intro w' hw'; go_simp; try (with_reducible rfl))
  simp only [Act.put]; try simp only [List.setIfInBounds_toArray]; try simp only [List.set_cons_zero, List.set_cons_succ]
  refine wpAnyL_take (i := 7) (d := some 24) (v := ?vaa7) rfl rfl (by kernel_rfl) (by kernel_rfl) (by kernel_rfl) (fun _ _ _ h => h) (by rfl) ?yaa7 ?_
  case yaa7 => (intro w' hw'; go_simp; try (with_reducible rfl))
  simp only [Act.put]; try simp only [List.setIfInBounds_toArray]; try simp only [List.set_cons_zero, List.set_cons_succ]
  refine wpAnyL_take (i := 8) (d := some 25) (v := ?vaa8) rfl rfl (by kernel_rfl) (by kernel_rfl) (by kernel_rfl) (fun _ _ _ h => h) (by rfl) ?yaa8 ?_
  case yaa8 => (intro w' hw'; go_simp; try (with_reducible rfl))
  simp only [Act.put]; try simp only [List.setIfInBounds_toArray]; try simp only [List.set_cons_zero, List.set_cons_succ]
  refine wpAnyL_take (i := 9) (d := some 26) (v := ?vaa9) rfl rfl (by kernel_rfl) (by kernel_rfl) (by kernel_rfl) (fun _ _ _ h => h) (by rfl) ?yaa9 ?_
  case yaa9 => (intro w' hw'; have c3 := (X5.out.below hw').c3; go_simp; try (with_reducible rfl))
  simp only [Act.put]; try simp only [List.setIfInBounds_toArray]; try simp only [List.set_cons_zero, List.set_cons_succ]
  refine wpAnyL_take (i := 10) (d := some 27) (v := ?vaa10) rfl rfl (by kernel_rfl) (by kernel_rfl) (by kernel_rfl) (fun _ _ _ h => h) (by rfl) ?yaa10 ?_
  case yaa10 => (intro w' hw'; go_simp; try (with_reducible rfl))
  simp only [Act.put]; try simp only [List.setIfInBounds_toArray]; try simp only [List.set_cons_zero, List.set_cons_succ]
  refine wpAnyL_take (i := 11) (d := some 28) (v := .agg #[.string s.name, .slice s.p s.n s.c]) rfl rfl (by kernel_rfl) (by kernel_rfl) (by kernel_rfl) (fun _ _ _ h => h) (by rfl) ?yaa11 ?_
  case yaa11 => (intro w' hw'; exact exec_load_sdef _ (by rfl) (by rfl) (X5.out.below hw'))
  simp only [Act.put]; try simp only [List.setIfInBounds_toArray]; try simp only [List.set_cons_zero, List.set_cons_succ]
  refine wpAnyL_only (i := 12) rfl (by kernel_rfl) (by rfl) fun K hK => ?_
  go_simp
  refine (CP.out _ L15.out).mono ?_
  rintro e w_12 ⟨rfl, hl_⟩
  have L12a := hide (L5.out.trans hl_)
  have L112 := hide (L15.out.trans hl_)
  have X12 := hide (X5.out.below hl_)
  have Y12 := hide (Y5.out.below hl_)
  refine hK.out _ _ hl_ ?_
  clear hl_
  clear hK K
  try (simp only [Act.put]; try simp only [List.setIfInBounds_toArray]; try simp only [List.set_cons_zero, List.set_cons_succ])
  refine wpAnyL_take (i := 13) (d := some 30) (v := .bool true) rfl rfl (by kernel_rfl) (by kernel_rfl) (by kernel_rfl) (fun _ _ _ h => h) (by rfl) ?yaa13 ?_
  case yaa13 => (intro w' hw'; go_simp; exact HPV.out)
  simp only [Act.put]; try simp only [List.setIfInBounds_toArray]; try simp only [List.set_cons_zero, List.set_cons_succ]
  refine wpAnyL_take (i := 14) (d := some 31) (v := ?vaa14) rfl rfl (by kernel_rfl) (by kernel_rfl) (by kernel_rfl) (fun _ _ _ h => h) (by rfl) ?yaa14 ?_
  case yaa14 => (intro w' hw'; go_simp; try (with_reducible rfl))
  simp only [Act.put]; try simp only [List.setIfInBounds_toArray]; try simp only [List.set_cons_zero, List.set_cons_succ]
  refine wpAnyL_take (i := 15) (d := some 16) (v := ?vaa15) rfl rfl (by kernel_rfl) (by kernel_rfl) (by kernel_rfl) (fun _ _ _ h => h) (by rfl) ?yaa15 ?_
  case yaa15 => (intro w' hw'; go_simp; try (with_reducible rfl))
  simp only [Act.put]; try simp only [List.setIfInBounds_toArray]; try simp only [List.set_cons_zero, List.set_cons_succ]
  refine wpAnyL_done (by kernel_rfl) ?_ _
  go_wp2_with (refine wpList_store_saga (s := SagaD.zero) (by rfl) _ _ (by rfl) (by rfl) Y12.out (by rfl) ?_; intro w8 Z8 G8)
  have HLF : Hid (Later w _) := L12a.out.grown G8 (Below.size L12a.out) (fun k hk => by have := Option.some.inj hk; have := HG0.out; omega)
  refine bodyPost_ret (results_box2 Tryz.results35 _ _ (g + 1) 36 _ _ (by rfl) Z8 Tryz.underlying36 (by rfl) (by kernel_rfl) (.int .i64 10) (by rfl)) (by rfl) ?_
  exact ⟨none, 0, 0, rfl, FlatAt.nil_ _ _ _, HLF.out⟩
set_option maxHeartbeats 4000000 in
theorem cancel_ok {F : Nat → Prop} {s : SagaD} {l : List StepD} (h : StepsAt F w s.v l) (hl8 : l.length ≤ 8) (hw : ∀ x ∈ l, x.wf) (h1 : I64 s.step) (hq : goodF l s = true) (hst : s.st = 1) (hse : sealedS l s = false) (hp : s.step ≠ ((pivotN l : Nat) : Int)) (p1 : 1 ≤ s.step) (p8 : s.step ≤ 8) : Calls Tryz.prog 35 #[s.val] w (CTold (failsS l (s.hitN true)) 0 l w) := by
  obtain ⟨W1, hW1⟩ : ∃ W1, W1 = (w.alloc (.cells s.cells.toArray 36 (0, 0))).alloc (.cells #[.string ⟨#[]⟩, .slice none 0 0, .int .i64 0, .int .i64 0, .int .i64 0, .bool false, .bool false, .bool false, .bool false, .bool false, .bool false, .bool false, .bool false] 36 (0, 0)) := ⟨_, rfl⟩
  obtain ⟨g, hg⟩ : ∃ g, g = w.heap.size := ⟨_, rfl⟩
  have X1 : Hid (SBox 36 g s W1) := by rw [hW1, hg]; exact (heap_alloc_old _ _ (by simp)).trans (heap_alloc_new _ _)
  have Y1 : Hid (SBox 36 (g + 1) SagaD.zero W1) := by rw [hW1, hg]; exact heap_second _ _ _
  have L1 : Hid (Later w W1) := by rw [hW1]; exact ((Below.refl _ _).alloc (Nat.le_refl _) _).alloc (by simp) _
  have HG0 : Hid (w.heap.size ≤ g) := Nat.le_of_eq hg.symm
  have C : Hid (∀ W, Later W1 W → Calls Tryz.prog 51 #[s.val] W (Gives (.bool true) W)) := fun W hW => by rw [← hq]; exact good_any (StepsAt.kept h (Kept.of_below (L1.out.trans hW) _)) hw h1
  have CS : Hid (∀ W, Later W1 W → Calls Tryz.prog 67 #[s.val] W (Gives (.bool (sealedS l s)) W)) := fun W hW => sealedS_any (StepsAt.kept h (Kept.of_below (L1.out.trans hW) _)) (by omega)
  have CP : Hid (∀ W, Later W1 W → Calls Tryz.prog 68 #[.agg #[.string s.name, .slice s.p s.n s.c]] W fun e w' => e = .returned (.int .i64 ((pivotN l : Nat) : Int)) ∧ Later W w') := fun W hW => pivot_any (StepsAt.kept h (Kept.of_below (L1.out.trans hW) _)) (by omega)
  have CH : Hid (∀ W, Later W1 W → Calls Tryz.prog 69 #[s.val, .bool true] W (Gives (s.hitN true).val W)) := fun W _ => hit_any s true p1 p8
  have CF : Hid (∀ W, Later W1 W → Calls Tryz.prog 70 #[(s.hitN true).val] W (Gives (failsS l (s.hitN true)).val W)) := fun W hW => failsS_any (s := s.hitN true) (StepsAt.kept h (Kept.of_below (L1.out.trans hW) _)) (by omega) (by show I64 s.step; unfold I64; omega)
  have CO : Hid (∀ W, Later W1 W → Calls Tryz.prog 66 #[(failsS l (s.hitN true)).val] W (Owns (failsS l (s.hitN true)) l W)) := fun W hW => own_any (s := failsS l (s.hitN true)) (by rw [failsS_v, hitN_v]; exact StepsAt.kept h (Kept.of_below (L1.out.trans hW) _)) (by omega)
  rw [hse] at CS
  obtain ⟨Q2, hQ2⟩ : ∃ q, (s.step == ((pivotN l : Nat) : Int)) = q := ⟨_, rfl⟩
  obtain rfl : Q2 = false := by rw [← hQ2, beq_eq_false_iff_ne]; exact hp
  have HPV := hide hp
  obtain ⟨s2, hs2⟩ : ∃ x, failsS l (s.hitN true) = x := ⟨_, rfl⟩
  rw [hs2] at CF CO ⊢
  have HW1 := hide hW1.symm
  have HG := hide hg.symm
  clear hW1 hg h hl8 hw h1 hq hse hp hQ2 p1 p8 hs2
  have xe := X1.out
  rw [← HW1.out, ← HG.out] at xe
  have XE := hide xe
  clear xe
  go_enter Tryz.func35, Tryz.ntmps35
  go_wp2_with (refine wpList_load_saga (by rfl) _ (by rfl) (by rfl) XE.out ?_; simp only [HW1.out, HG.out])
  refine (C.out _ (Later.refl _)).mono ?_
  rintro e w2 ⟨rfl, hl⟩
  have L12 := hide hl
  have L2 := hide (L1.out.trans hl)
  have X2 := hide (X1.out.below hl)
  have Y2 := hide (Y1.out.below hl)
  clear hl C
  have c2 := X2.out.c2
  rw [hst] at c2
  have HS1 := hide hst
  clear hst
  go_wp2_with (fail)
  have XD := hide (show SBox 36 g s w2.drew from X2.out)
  have YD := hide (show SBox 36 (g + 1) SagaD.zero w2.drew from Y2.out)
  have LD := hide (L2.out.trans (Later.drew w2))
  have LD1 := hide (L12.out.trans (Later.drew w2))
  refine wp_region_L (by kernel_rfl) ?_
  refine wpAnyL_take (i := 0) (d := some 17) (v := ?vaa0) rfl rfl (by kernel_rfl) (by kernel_rfl) (by kernel_rfl) (fun _ _ _ h => h) (by rfl) ?yaa0 ?_
  case yaa0 => (intro w' hw'; go_simp; try (with_reducible rfl))
  simp only [Act.put]; try simp only [List.setIfInBounds_toArray]; try simp only [List.set_cons_zero, List.set_cons_succ]
  refine wpAnyL_take (i := 1) (d := some 18) (v := ?vaa1) rfl rfl (by kernel_rfl) (by kernel_rfl) (by kernel_rfl) (fun _ _ _ h => h) (by rfl) ?yaa1 ?_
  case yaa1 => (intro w' hw'; have c2 := (XD.out.below hw').c2; rw [HS1.out] at c2; go_simp; try (with_reducible rfl))
  simp only [Act.put]; try simp only [List.setIfInBounds_toArray]; try simp only [List.set_cons_zero, List.set_cons_succ]
  refine wpAnyL_take (i := 2) (d := some 19) (v := ?vaa2) rfl rfl (by kernel_rfl) (by kernel_rfl) (by kernel_rfl) (fun _ _ _ h => h) (by rfl) ?yaa2 ?_
  case yaa2 => (intro w' hw'; go_simp; try (with_reducible rfl))
  simp only [Act.put]; try simp only [List.setIfInBounds_toArray]; try simp only [List.set_cons_zero, List.set_cons_succ]
  refine wpAnyL_take (i := 3) (d := some 20) (v := ?vaa3) rfl rfl (by kernel_rfl) (by kernel_rfl) (by kernel_rfl) (fun _ _ _ h => h) (by rfl) ?yaa3 ?_
  case yaa3 => (intro w' hw'; go_simp; try (with_reducible rfl))
  simp only [Act.put]; try simp only [List.setIfInBounds_toArray]; try simp only [List.set_cons_zero, List.set_cons_succ]
  refine wpAnyL_take (i := 4) (d := some 21) (v := s.val) rfl rfl (by kernel_rfl) (by kernel_rfl) (by kernel_rfl) (fun _ _ _ h => h) (by rfl) ?yaa4 ?_
  case yaa4 => (intro w' hw'; exact exec_load_saga _ (by rfl) (by rfl) (XD.out.below hw'))
  simp only [Act.put]; try simp only [List.setIfInBounds_toArray]; try simp only [List.set_cons_zero, List.set_cons_succ]
  refine wpAnyL_only (i := 5) rfl (by kernel_rfl) (by rfl) fun K hK => ?_
  go_simp
  refine (CS.out _ LD1.out).mono ?_
  rintro e w_5 ⟨rfl, hl_⟩
  have L5 := hide (LD.out.trans hl_)
  have L15 := hide (LD1.out.trans hl_)
  have X5 := hide (XD.out.below hl_)
  have Y5 := hide (YD.out.below hl_)
  refine hK.out _ _ hl_ ?_
  clear hl_
  clear hK K
  try (simp only [Act.put]; try simp only [List.setIfInBounds_toArray]; try simp only [List.set_cons_zero, List.set_cons_succ])
  refine wpAnyL_take (i := 6) (d := some 23) (v := ?vaa6) rfl rfl (by kernel_rfl) (by kernel_rfl) (by kernel_rfl) (fun _ _ _ h => h) (by rfl) ?yaa6 ?_
  case yaa6 => (intro w' hw'; go_simp; try (with_reducible rfl))
  simp only [Act.put]; try simp only [List.setIfInBounds_toArray]; try simp only [List.set_cons_zero, List.set_cons_succ]
  refine wpAnyL_take (i := 7) (d := some 24) (v := ?vaa7) rfl rfl (by kernel_rfl) (by kernel_rfl) (by kernel_rfl) (fun _ _ _ h => h) (by rfl) ?yaa7 ?_
  case yaa7 => (intro w' hw'; go_simp; try (with_reducible rfl))
  simp only [Act.put]; try simp only [List.setIfInBounds_toArray]; try simp only [List.set_cons_zero, List.set_cons_succ]
  refine wpAnyL_take (i := 8) (d := some 25) (v := ?vaa8) rfl rfl (by kernel_rfl) (by kernel_rfl) (by kernel_rfl) (fun _ _ _ h => h) (by rfl) ?yaa8 ?_
  case yaa8 => (intro w' hw'; go_simp; try (with_reducible rfl))
  simp only [Act.put]; try simp only [List.setIfInBounds_toArray]; try simp only [List.set_cons_zero, List.set_cons_succ]
  refine wpAnyL_take (i := 9) (d := some 26) (v := ?vaa9) rfl rfl (by kernel_rfl) (by kernel_rfl) (by kernel_rfl) (fun _ _ _ h => h) (by rfl) ?yaa9 ?_
  case yaa9 => (intro w' hw'; have c3 := (X5.out.below hw').c3; go_simp; try (with_reducible rfl))
  simp only [Act.put]; try simp only [List.setIfInBounds_toArray]; try simp only [List.set_cons_zero, List.set_cons_succ]
  refine wpAnyL_take (i := 10) (d := some 27) (v := ?vaa10) rfl rfl (by kernel_rfl) (by kernel_rfl) (by kernel_rfl) (fun _ _ _ h => h) (by rfl) ?yaa10 ?_
  case yaa10 => (intro w' hw'; go_simp; try (with_reducible rfl))
  simp only [Act.put]; try simp only [List.setIfInBounds_toArray]; try simp only [List.set_cons_zero, List.set_cons_succ]
  refine wpAnyL_take (i := 11) (d := some 28) (v := .agg #[.string s.name, .slice s.p s.n s.c]) rfl rfl (by kernel_rfl) (by kernel_rfl) (by kernel_rfl) (fun _ _ _ h => h) (by rfl) ?yaa11 ?_
  case yaa11 => (intro w' hw'; exact exec_load_sdef _ (by rfl) (by rfl) (X5.out.below hw'))
  simp only [Act.put]; try simp only [List.setIfInBounds_toArray]; try simp only [List.set_cons_zero, List.set_cons_succ]
  refine wpAnyL_only (i := 12) rfl (by kernel_rfl) (by rfl) fun K hK => ?_
  go_simp
  refine (CP.out _ L15.out).mono ?_
  rintro e w_12 ⟨rfl, hl_⟩
  have L12a := hide (L5.out.trans hl_)
  have L112 := hide (L15.out.trans hl_)
  have X12 := hide (X5.out.below hl_)
  have Y12 := hide (Y5.out.below hl_)
  refine hK.out _ _ hl_ ?_
  clear hl_
  clear hK K
  try (simp only [Act.put]; try simp only [List.setIfInBounds_toArray]; try simp only [List.set_cons_zero, List.set_cons_succ])
  refine wpAnyL_take (i := 13) (d := some 30) (v := .bool false) rfl rfl (by kernel_rfl) (by kernel_rfl) (by kernel_rfl) (fun _ _ _ h => h) (by rfl) ?yaa13 ?_
  case yaa13 => (intro w' hw'; go_simp; exact HPV.out)
  simp only [Act.put]; try simp only [List.setIfInBounds_toArray]; try simp only [List.set_cons_zero, List.set_cons_succ]
  refine wpAnyL_take (i := 14) (d := some 31) (v := ?vaa14) rfl rfl (by kernel_rfl) (by kernel_rfl) (by kernel_rfl) (fun _ _ _ h => h) (by rfl) ?yaa14 ?_
  case yaa14 => (intro w' hw'; go_simp; try (with_reducible rfl))
  simp only [Act.put]; try simp only [List.setIfInBounds_toArray]; try simp only [List.set_cons_zero, List.set_cons_succ]
  refine wpAnyL_take (i := 15) (d := some 16) (v := ?vaa15) rfl rfl (by kernel_rfl) (by kernel_rfl) (by kernel_rfl) (fun _ _ _ h => h) (by rfl) ?yaa15 ?_
  case yaa15 => (intro w' hw'; go_simp; try (with_reducible rfl))
  simp only [Act.put]; try simp only [List.setIfInBounds_toArray]; try simp only [List.set_cons_zero, List.set_cons_succ]
  refine wpAnyL_done (by kernel_rfl) ?_ _
  go_wp2_with (refine wpList_load_saga (by rfl) _ (by rfl) (by rfl) X12.out ?_)
  refine (CH.out _ L112.out).mono ?_
  rintro e w21 ⟨rfl, hl⟩
  have L121 := hide (L112.out.trans hl)
  have L21 := hide (L12a.out.trans hl)
  have Y21 := hide (Y12.out.below hl)
  clear hl
  go_wp2_with (fail)
  refine (CF.out _ L121.out).mono ?_
  rintro e w22 ⟨rfl, hl⟩
  have L122 := hide (L121.out.trans hl)
  have L22 := hide (L21.out.trans hl)
  have Y22 := hide (Y21.out.below hl)
  clear hl
  go_wp2_with (fail)
  refine (CO.out _ L122.out).mono ?_
  rintro e w23 ⟨P, N, K, rfl, hs, hl⟩
  have HS9 := hide hs
  have HLT := hide (Y22.out.lt)
  have L23 := hide (L22.out.trans hl)
  have HSZ := hide (Below.size L22.out)
  have Y23 := hide (Y22.out.below hl)
  clear hl hs
  go_wp2_with (first | (refine wpList_load_saga (by rfl) _ (by rfl) (by rfl) X12.out ?_) | (refine wpList_store_saga (by rfl) _ _ (by rfl) (by rfl) Y23.out (by rfl) ?_; intro w24 Z24 G24))
  have S9 : Hid (StepsAt (w.heap.size ≤ ·) w24 (.slice P N K) l) := FlatAt.mono (own_kept HS9.out HLT.out G24) (fun i _ hf => Nat.le_trans HSZ.out hf)
  have HLF : Hid (Later w _) := L23.out.grown G24 (Below.size L23.out) (fun k hk => by have := Option.some.inj hk; have := HG0.out; omega)
  refine bodyPost_ret (results_box2 Tryz.results35 _ _ (g + 1) 36 _ _ (by rfl) Z24 Tryz.underlying36 (by rfl) (by kernel_rfl) (.int .i64 0) (by rfl)) (by rfl) ?_
  exact ⟨P, N, K, rfl, S9.out, HLF.out⟩
/-- The list of steps that Cancel tells. -/
def cancelL (l : List StepD) (s : SagaD) : List StepD := if (cancelF l s).2 = 10 then [] else l
theorem cancel_any {F : Nat → Prop} {s : SagaD} {l : List StepD} (h : StepsAt F w s.v l) (hl6 : l.length ≤ 1000000) (hw : ∀ x ∈ l, x.wf) (h1 : I64 s.step) : Calls Tryz.prog 35 #[s.val] w (CTold (cancelF l s).1 (cancelF l s).2 (cancelL l s) w) := by
  unfold cancelL cancelF
  cases hq : goodF l s with
  | false => exact cancel_arg h hl6 hw h1 hq
  | true =>
    rw [if_pos rfl]
    have he : (checkF s.name l).2 = 0 := by
      unfold goodF at hq
      by_cases he : (checkF s.name l).2 = 0
      · exact he
      · rw [if_pos he] at hq; cases hq
    have hl8 := (check_good he).1
    by_cases n2 : s.st = 2
    · rw [if_pos n2]; exact cancel_undo h hl6 hw h1 hq n2
    · rw [if_neg n2]
      by_cases n1 : s.st = 1
      · have hwb : wantsB l s = true := by unfold wantsB; rw [hq, n1]; rfl
        obtain ⟨_, p1, p2, p3, _⟩ := wants_parts hwb
        cases hse : sealedS l s with
        | true =>
          rw [show lateB l s = true from by unfold lateB; rw [hse]; simp]
          exact cancel_late2 h hl8 hw h1 hq n1 hse
        | false =>
          by_cases hp : s.step = ((pivotN l : Nat) : Int)
          · rw [show lateB l s = true from by unfold lateB; rw [decide_eq_true hp]; simp]
            exact cancel_late3 h hl8 hw h1 hq n1 hse hp
          · rw [show lateB l s = false from by unfold lateB; rw [hse, decide_eq_false hp, n1]; rfl]
            exact cancel_ok h hl8 hw h1 hq n1 hse hp p1 p3
      · rw [show lateB l s = true from by unfold lateB; rw [decide_eq_true n1]; rfl]
        exact cancel_late1 h hl8 hw h1 hq n1 n2
end
end Go.Proofs.YtpicnoinnngpeaaGreat
/- Something happens to a saga. -/
namespace Go.Proofs.YtpicnoinnngpeaaGreat
open Go.RowKit
structure EvD where
  kind : Int
  step : Int
  tr : Int
  back : Bool
  good : Bool
def EvD.cells (c : EvD) : List Value := [.int .i64 c.kind, .int .i64 c.step, .int .i64 c.tr, .bool c.back, .bool c.good]
abbrev EvD.val (c : EvD) : Value := .agg c.cells.toArray
/-- What it makes of a saga; did it do something? -/
def happenF (l : List StepD) (s : SagaD) (e : EvD) : SagaD × Bool :=
  if e.kind = 0 then (reportF l s e.step e.tr e.back e.good, isIt l s e.step e.tr e.back)
  else if e.kind = 1 then (lapseF l s e.step e.tr e.back, isIt l s e.step e.tr e.back)
  else if e.kind = 2 then ((cancelF l s).1, decide ((cancelF l s).2 = 0))
  else if e.kind = 3 then (reportF l s (wantsC l s).step (wantsC l s).tr (wantsC l s).back true, isIt l s (wantsC l s).step (wantsC l s).tr (wantsC l s).back)
  else if e.kind = 4 then (reportF l s (wantsC l s).step (wantsC l s).tr (wantsC l s).back false, isIt l s (wantsC l s).step (wantsC l s).tr (wantsC l s).back)
  else (lapseF l s (wantsC l s).step (wantsC l s).tr (wantsC l s).back, isIt l s (wantsC l s).step (wantsC l s).tr (wantsC l s).back)
def happenL (l : List StepD) (s : SagaD) (e : EvD) : List StepD := if e.kind = 2 then cancelL l s else l
section
variable {w : World}
end
end Go.Proofs.YtpicnoinnngpeaaGreat
/- What comes of a saga, event by event: what is hit, what is told, and how many commands are left. -/
namespace Go.Proofs.YtpicnoinnngpeaaGreat
open Go.RowKit

theorem up_get {m : Nat} {i : Nat} (h : i < 8) : (upH (m : Int)).l[i]? = some (decide (i < m)) := by
  have hc : i = 0 ∨ i = 1 ∨ i = 2 ∨ i = 3 ∨ i = 4 ∨ i = 5 ∨ i = 6 ∨ i = 7 := by omega
  rcases hc with rfl | rfl | rfl | rfl | rfl | rfl | rfl | rfl <;> simp only [upH, Hits.l, List.getElem?_cons_zero, List.getElem?_cons_succ] <;> congr 1 <;> simp only [decide_eq_decide] <;> omega
theorem up_set_on {m : Nat} (h : m < 8) : (upH (m : Int)).set m true = upH ((m : Int) + 1) := by
  have hc : m = 0 ∨ m = 1 ∨ m = 2 ∨ m = 3 ∨ m = 4 ∨ m = 5 ∨ m = 6 ∨ m = 7 := by omega
  rcases hc with rfl | rfl | rfl | rfl | rfl | rfl | rfl | rfl <;> rfl
theorem up_set_same {m : Nat} (h : m < 8) : (upH ((m : Int) + 1)).set m true = upH ((m : Int) + 1) := by
  have hc : m = 0 ∨ m = 1 ∨ m = 2 ∨ m = 3 ∨ m = 4 ∨ m = 5 ∨ m = 6 ∨ m = 7 := by omega
  rcases hc with rfl | rfl | rfl | rfl | rfl | rfl | rfl | rfl <;> rfl
theorem up_set_off {m : Nat} (h : m < 8) : (upH ((m : Int) + 1)).set m false = upH (m : Int) := by
  have hc : m = 0 ∨ m = 1 ∨ m = 2 ∨ m = 3 ∨ m = 4 ∨ m = 5 ∨ m = 6 ∨ m = 7 := by omega
  rcases hc with rfl | rfl | rfl | rfl | rfl | rfl | rfl | rfl <;> rfl

/-- Each step ahead of the pivot has a way back. -/
theorem undo_free : ∀ (l done : List StepD), (firstBad done l).2 = 0 → pivotB done = false → ∀ (i : Nat) (s : StepD), l[i]? = some s → (l.take (i + 1)).any (fun a => a.pivot) = false → s.undo = true
  | [], _, _, _, i, s, hs, _ => by simp at hs
  | x :: r, done, h, hd, i, s, hs, hp => by
    unfold firstBad at h
    split at h
    · rename_i h0
      have hxp : x.pivot = false := by
        rw [List.take_succ_cons, List.any_cons] at hp
        cases hq : x.pivot <;> simp_all
      cases i with
      | zero =>
        obtain rfl : x = s := by simpa using hs
        unfold stepErr at h0
        split at h0
        · cases h0
        · split at h0
          · cases h0
          · split at h0
            · cases h0
            · rename_i hu
              rw [hd, hxp] at hu
              simpa using hu
      | succ i =>
        refine undo_free r (done ++ [x]) h ?_ i s (by simpa using hs) ?_
        · unfold pivotB at hd ⊢
          rw [List.any_append, hd]
          simp [hxp]
        · rw [List.take_succ_cons, List.any_cons] at hp
          cases hq : (r.take (i + 1)).any (fun a => a.pivot) <;> simp_all
    · exact absurd h ‹_›
theorem undo_has : ∀ (l done : List StepD), (firstBad done l).2 = 0 → ∀ (i : Nat) (s : StepD), l[i]? = some s → s.undo = true → pivotB (done ++ l.take (i + 1)) = false
  | [], _, _, i, s, hs, _ => by simp at hs
  | x :: r, done, h, i, s, hs, hu => by
    unfold firstBad at h
    split at h
    · rename_i h0
      cases i with
      | zero =>
        obtain rfl : x = s := by simpa using hs
        unfold stepErr at h0
        split at h0
        · cases h0
        · split at h0
          · cases h0
          · split at h0
            · cases h0
            · rename_i hne
              rw [hu] at hne
              unfold pivotB at hne ⊢
              rw [List.any_append]
              simp at hne ⊢
              exact hne
      | succ i =>
        have := undo_has r (done ++ [x]) h i s (by simpa using hs) hu
        rw [List.take_succ_cons]
        simpa using this
    · exact absurd h ‹_›
theorem check_first {name : ByteArray} {l : List StepD} (h : (checkF name l).2 = 0) : (firstBad [] l).2 = 0 := by
  unfold checkF at h
  split at h
  · cases h
  · exact h
/-- The first m steps can all be undone. -/
def Free (l : List StepD) (m : Nat) : Prop := (l.take m).any (fun a => a.pivot) = false
theorem Free.undo {name : ByteArray} {l : List StepD} (hc : (checkF name l).2 = 0) {m : Nat} (h : Free l m) {i : Nat} {s : StepD} (hi : i < m) (hs : l[i]? = some s) : s.undo = true := by
  refine undo_free l [] (check_first hc) rfl i s hs ?_
  unfold Free at h
  rw [List.any_eq_false] at h ⊢
  intro x hx
  refine h x ?_
  obtain ⟨j, hj, rfl⟩ := List.mem_iff_getElem.1 hx
  have hj2 : j < i + 1 := by rw [List.length_take] at hj; omega
  rw [List.getElem_take]
  have hjl : j < l.length := by rw [List.length_take] at hj; omega
  exact List.mem_iff_getElem.2 ⟨j, by rw [List.length_take]; omega, by rw [List.getElem_take]⟩
theorem free_of_undo {name : ByteArray} {l : List StepD} (hc : (checkF name l).2 = 0) {i : Nat} {s : StepD} (hs : l[i]? = some s) (hu : s.undo = true) : Free l (i + 1) := by
  exact undo_has l [] (check_first hc) i s hs hu
theorem Free.le {l : List StepD} {m k : Nat} (h : Free l m) (hk : k ≤ m) : Free l k := by
  unfold Free at h ⊢
  rw [List.any_eq_false] at h ⊢
  intro x hx
  refine h x ?_
  obtain ⟨j, hj, rfl⟩ := List.mem_iff_getElem.1 hx
  rw [List.length_take] at hj
  rw [List.getElem_take]
  exact List.mem_iff_getElem.2 ⟨j, by rw [List.length_take]; omega, by rw [List.getElem_take]⟩
/-- What is not sealed can be undone. -/
theorem free_of_open {l : List StepD} {m : Nat} (h8 : l.length ≤ 8) (hm : m ≤ l.length) (h : sealedF l (upH (m : Int)).l = false) : Free l m := by
  unfold Free
  cases hq : (l.take m).any (fun a => a.pivot) with
  | false => rfl
  | true =>
    exfalso
    rw [List.any_eq_true] at hq
    obtain ⟨x, hx, hxp⟩ := hq
    obtain ⟨j, hj, rfl⟩ := List.mem_iff_getElem.1 hx
    rw [List.length_take] at hj
    rw [List.getElem_take] at hxp
    have hle : l.findIdx (fun s => s.pivot) ≤ j := by
      rcases Nat.lt_or_ge j (l.findIdx (fun s => s.pivot)) with hlt | hge
      · exact absurd hxp (by simpa using List.not_of_lt_findIdx hlt)
      · exact hge
    have hp : pivotN l = l.findIdx (fun s => s.pivot) + 1 := by unfold pivotN; rw [if_pos (by omega)]
    unfold sealedF at h
    rw [hp] at h
    have hg := up_get (m := m) (i := l.findIdx (fun s => s.pivot)) (by omega)
    rw [show ((l.findIdx (fun s => s.pivot) + 1 : Nat) : Int) = (l.findIdx (fun s => s.pivot) : Int) + 1 from by omega, hit_at hg] at h
    simp at h
    omega
theorem down_up {name : ByteArray} {l : List StepD} (hc : (checkF name l).2 = 0) {m : Nat} (hm : m ≤ l.length) (hf : Free l m) : ∀ (K : Nat), m ≤ K → K ≤ l.length → downN l (upH (m : Int)).l K = m
  | 0, h, _ => by
    obtain rfl : m = 0 := by omega
    rfl
  | K + 1, h, hK => by
    have h8 := (check_good hc).1
    have hg := up_get (m := m) (i := K) (by omega)
    have hl : l[K]? = some l[K] := List.getElem?_eq_getElem (by omega)
    have e : okAt l (upH (m : Int)).l K = decide (K < m) := by
      unfold okAt
      rw [hl, hg]
      by_cases hq : K < m
      · simp [Free.undo hc hf hq hl]
      · simp [hq]
    unfold downN
    rw [e]
    by_cases hq : K < m
    · rw [if_pos (by simpa using hq)]; omega
    · rw [if_neg (by simpa using hq)]
      exact down_up hc hm hf K (by omega) (by omega)
theorem downF_up {name : ByteArray} {l : List StepD} (hc : (checkF name l).2 = 0) {m : Nat} {k : Int} (hm : (m : Int) ≤ k) (hk : k ≤ (l.length : Int)) (hf : Free l m) : downF l (upH (m : Int)).l k = m := by
  unfold downF
  rw [Int.min_eq_left hk]
  exact down_up hc (by omega) hf _ (by omega) (by omega)

/-- How many commands the first k steps take, and those of them that can be undone. -/
def sumT : List StepD → Int
  | [] => 0
  | s :: r => triesF s + sumT r
def sumU : List StepD → Int
  | [] => 0
  | s :: r => (if s.undo then triesF s else 0) + sumU r
theorem sumT_app : ∀ (l : List StepD) (s : StepD), sumT (l ++ [s]) = sumT l + triesF s
  | [], s => by simp [sumT]
  | x :: r, s => by rw [List.cons_append, sumT, sumT, sumT_app r s]; omega
theorem sumU_app : ∀ (l : List StepD) (s : StepD), sumU (l ++ [s]) = sumU l + (if s.undo then triesF s else 0)
  | [], s => by simp [sumU]
  | x :: r, s => by rw [List.cons_append, sumU, sumU, sumU_app r s]; omega
theorem sum_both : ∀ (l : List StepD), sumL triesF l = sumT l + sumU l
  | [] => rfl
  | s :: r => by
    rw [sumL, sumT, sumU, sum_both r]
    split <;> omega
theorem take_next {l : List StepD} {i : Nat} {s : StepD} (h : l[i]? = some s) : l.take (i + 1) = l.take i ++ [s] := by
  obtain ⟨hi, rfl⟩ := List.getElem?_eq_some_iff.1 h
  exact List.take_succ_eq_append_getElem hi
def A (l : List StepD) (k : Nat) : Int := sumT (l.take k)
def U (l : List StepD) (k : Nat) : Int := sumU (l.take k)
theorem A_next {l : List StepD} {i : Nat} {s : StepD} (h : l[i]? = some s) : A l (i + 1) = A l i + triesF s := by unfold A; rw [take_next h, sumT_app]
theorem U_next {l : List StepD} {i : Nat} {s : StepD} (h : l[i]? = some s) : U l (i + 1) = U l i + (if s.undo then triesF s else 0) := by unfold U; rw [take_next h, sumU_app]
theorem A_le {name : ByteArray} {l : List StepD} (hc : (checkF name l).2 = 0) {i : Nat} : ∀ (d : Nat), i + d ≤ l.length → A l i ≤ A l (i + d)
  | 0, _ => Int.le_refl _
  | d + 1, h => by
    have hl : l[i + d]? = some l[i + d] := List.getElem?_eq_getElem (by omega)
    have h1 := A_le hc (i := i) d (by omega)
    have h2 := A_next hl
    have h3 := tries_range ((check_good hc).2.2.2 _ (List.getElem_mem (show i + d < l.length by omega)))
    rw [show i + (d + 1) = i + d + 1 from rfl]
    omega
theorem U_le {name : ByteArray} {l : List StepD} (hc : (checkF name l).2 = 0) {i : Nat} : ∀ (d : Nat), i + d ≤ l.length → U l i ≤ U l (i + d)
  | 0, _ => Int.le_refl _
  | d + 1, h => by
    have hl : l[i + d]? = some l[i + d] := List.getElem?_eq_getElem (by omega)
    have h1 := U_le hc (i := i) d (by omega)
    have h2 := U_next hl
    have h3 := tries_range ((check_good hc).2.2.2 _ (List.getElem_mem (show i + d < l.length by omega)))
    rw [show i + (d + 1) = i + d + 1 from rfl]
    split at h2 <;> omega

/-- A saga that is running at step q + 1. -/
structure Runs (l : List StepD) (s : SagaD) (q : Nat) : Prop where
  st : s.st = 1
  step : s.step = (q : Int) + 1
  lt : q < l.length
  lo : 1 ≤ s.tr
  hi : s.tr ≤ triesN l s.step
  hit : s.hit = upH (q : Int) ∨ s.hit = upH ((q : Int) + 1)
/-- One on its way back, at step q + 1. -/
structure Backs (l : List StepD) (s : SagaD) (q : Nat) : Prop where
  st : s.st = 2
  step : s.step = (q : Int) + 1
  lt : q < l.length
  lo : 1 ≤ s.tr
  hi : s.tr ≤ triesN l s.step
  hit : s.hit = upH ((q : Int) + 1)
  free : Free l (q + 1)
section
variable {l : List StepD} {s : SagaD} {q : Nat}
theorem Runs.wants (hc : (checkF s.name l).2 = 0) (h : Runs l s q) : wantsB l s = true := by
  unfold wantsB goodF cameF
  rw [if_neg (by rw [hc]; decide), if_pos h.st, h.st, decide_eq_true h.lo, decide_eq_true h.hi, h.step, show (q : Int) + 1 - 1 = (q : Int) from by omega]
  rcases h.hit with e | e <;> simp [e]
theorem Backs.wants (hc : (checkF s.name l).2 = 0) (h : Backs l s q) : wantsB l s = true := by
  have hl : l[q]? = some (l[q]'h.lt) := List.getElem?_eq_getElem h.lt
  have hu := Free.undo hc h.free (Nat.lt_succ_self q) hl
  unfold wantsB goodF undoAt
  rw [if_neg (by rw [hc]; decide), if_neg (by rw [h.st]; decide), if_pos h.st, h.st, decide_eq_true h.lo, decide_eq_true h.hi, h.step, h.hit, show ((q : Int) + 1 - 1).toNat = q from by omega, hl]
  simp [hu]
theorem done_wants (h1 : s.st ≠ 1) (h2 : s.st ≠ 2) : wantsB l s = false := by unfold wantsB; simp [h1, h2]
theorem tries_one (hc : (checkF s.name l).2 = 0) {k : Nat} (hk : k < l.length) : 1 ≤ triesN l ((k : Int) + 1) := by
  have hl : l[k]? = some l[k] := List.getElem?_eq_getElem hk
  rw [triesN_at hl]
  have hg := (check_good hc).2.2.2 _ (List.getElem_mem hk)
  rw [tries_good hg]
  have := good_nums hg
  omega
/-- Where nothing is sealed, a saga of which m steps are hit goes back to step m. -/
theorem down_to (hc : (checkF s.name l).2 = 0) {m : Nat} (hh : s.hit = upH (m : Int)) (hm : (m : Int) ≤ s.step) (hs : s.step ≤ (l.length : Int)) (hf : Free l m) : downS l s = if m = 0 then s.ended 4 0 else s.at_ 2 (m : Int) := by
  unfold downS
  rw [hh, downF_up hc hm hs hf]
theorem back_at (hc : (checkF s.name l).2 = 0) {m : Nat} (hh : s.hit = upH ((m : Int) + 1)) (hm : m < l.length) (hf : Free l (m + 1)) : Backs l (s.at_ 2 ((m : Int) + 1)) m :=
  ⟨rfl, rfl, hm, Int.le_refl 1, tries_one (s := s) hc hm, hh, hf⟩
/-- What comes of a saga, of which m steps are hit, when it fails. -/
theorem fails_case (hc : (checkF s.name l).2 = 0) {m : Nat} (hh : s.hit = upH (m : Int)) (hm : (m : Int) ≤ s.step) (hs : s.step ≤ (l.length : Int)) :
    failsS l s = s.ended 5 s.step ∨ (m = 0 ∧ failsS l s = s.ended 4 0) ∨ (∃ k, m = k + 1 ∧ failsS l s = s.at_ 2 ((k : Int) + 1) ∧ Backs l (s.at_ 2 ((k : Int) + 1)) k) := by
  unfold failsS
  cases hq : sealedS l s with
  | true => exact .inl (by rw [if_pos rfl])
  | false =>
    rw [if_neg (by simp)]
    have hf : Free l m := free_of_open (check_good hc).1 (by omega) (by unfold sealedS at hq; rw [hh] at hq; exact hq)
    rw [down_to hc hh hm hs hf]
    cases m with
    | zero => exact .inr (.inl ⟨rfl, by rw [if_pos rfl]⟩)
    | succ k =>
      rw [if_neg (by omega), show ((k + 1 : Nat) : Int) = (k : Int) + 1 from by omega]
      exact .inr (.inr ⟨k, rfl, rfl, back_at hc (by rw [hh]; rfl) (by omega) hf⟩)
end
end Go.Proofs.YtpicnoinnngpeaaGreat
/- What an event makes of a saga that is running or on its way back, and how many commands are left. -/
namespace Go.Proofs.YtpicnoinnngpeaaGreat
open Go.RowKit
section
variable {l : List StepD} {s : SagaD} {q : Nat} {ev : EvD}
theorem wants_fields (h : wantsB l s = true) : (wantsC l s).step = s.step ∧ (wantsC l s).tr = s.tr ∧ (wantsC l s).back = decide (s.st = 2) := by
  unfold wantsC
  rw [h]
  exact ⟨rfl, rfl, rfl⟩
theorem is_wanted (h : wantsB l s = true) : isIt l s (wantsC l s).step (wantsC l s).tr (wantsC l s).back = true := by
  obtain ⟨e1, e2, e3⟩ := wants_fields h
  unfold isIt
  rw [h, e1, e2, e3]
  simp
/-- What an event that is about what is wanted makes of a saga. -/
def evE (l : List StepD) (s : SagaD) (k : Int) : SagaD := if k = 3 then reportE l s (decide (s.st = 2)) true else if k = 4 then missedS l s else lapseE l s
theorem hap_it (h : wantsB l s = true) (hk : 3 ≤ ev.kind) : happenF l s ev = (evE l s ev.kind, true) := by
  have hi := is_wanted h
  obtain ⟨e1, e2, e3⟩ := wants_fields h
  unfold happenF evE
  rw [if_neg (by omega), if_neg (by omega), if_neg (by omega)]
  unfold reportF lapseF
  rw [hi, e3]
  split
  · rfl
  · split <;> rfl
theorem hap_off (h : wantsB l s = false) (hk : ev.kind ≠ 2) : happenF l s ev = (s, false) := by
  have hi : ∀ a b c, isIt l s a b c = false := fun a b c => by unfold isIt; rw [h]; rfl
  unfold happenF reportF lapseF
  rw [hi, hi]
  simp [hk]
theorem Runs.withV (h : Runs l s q) (p : Option Addr) (n c : Nat) : Runs l (s.withV p n c) q := ⟨h.st, h.step, h.lt, h.lo, h.hi, h.hit⟩
theorem Backs.withV (h : Backs l s q) (p : Option Addr) (n c : Nat) : Backs l (s.withV p n c) q := ⟨h.st, h.step, h.lt, h.lo, h.hi, h.hit, h.free⟩
/-- A saga that is missed, of which m steps are hit. -/
theorem missed_run (hc : (checkF s.name l).2 = 0) (h : Runs l s q) {m : Nat} (hh : s.hit = upH (m : Int)) (hm : m = q ∨ m = q + 1) :
    (missedS l s).name = s.name ∧ ((Runs l (missedS l s) q ∧ (missedS l s).tr = s.tr + 1) ∨ (missedS l s).st = 5 ∨ (q = 0 ∧ (missedS l s).st = 4) ∨ (∃ k, Backs l (missedS l s) k ∧ (missedS l s).tr = 1 ∧ q ≤ k + 1 ∧ k ≤ q)) := by
  unfold missedS
  by_cases ht : s.tr < triesN l s.step
  · rw [if_pos ht]
    exact ⟨rfl, .inl ⟨⟨h.st, h.step, h.lt, by show 1 ≤ s.tr + 1; have := h.lo; omega, by show s.tr + 1 ≤ triesN l s.step; omega, h.hit⟩, rfl⟩⟩
  · rw [if_neg ht, if_neg (by rw [h.st]; decide)]
    have hlt := h.lt
    rcases fails_case hc hh (by have := h.step; omega) (by have := h.step; omega) with e | ⟨h0, e⟩ | ⟨k, hk, e, hb⟩
    · rw [e]; exact ⟨rfl, .inr (.inl rfl)⟩
    · rw [e]; exact ⟨rfl, .inr (.inr (.inl ⟨by omega, rfl⟩))⟩
    · rw [e]; exact ⟨rfl, .inr (.inr (.inr ⟨k, hb, rfl, by omega, by omega⟩))⟩
theorem missed_back (h : Backs l s q) : (missedS l s).name = s.name ∧ ((Backs l (missedS l s) q ∧ (missedS l s).tr = s.tr + 1) ∨ (missedS l s).st = 5) := by
  unfold missedS
  by_cases ht : s.tr < triesN l s.step
  · rw [if_pos ht]
    exact ⟨rfl, .inl ⟨⟨h.st, h.step, h.lt, by show 1 ≤ s.tr + 1; have := h.lo; omega, by show s.tr + 1 ≤ triesN l s.step; omega, h.hit, h.free⟩, rfl⟩⟩
  · rw [if_neg ht, if_pos h.st]
    exact ⟨rfl, .inr rfl⟩
theorem hitN_step (h : s.step = (q : Int) + 1) (b : Bool) : s.hitN b = ⟨s.name, s.p, s.n, s.c, s.st, s.step, s.tr, s.hit.set q b⟩ := by
  unfold SagaD.hitN
  rw [h, show ((q : Int) + 1 - 1).toNat = q from by omega]
theorem Runs.hitOn (hc : (checkF s.name l).2 = 0) (h : Runs l s q) : (s.hitN true).hit = upH ((q : Int) + 1) := by
  have h8 := (check_good hc).1
  have hlt := h.lt
  rw [hitN_step h.step]
  show s.hit.set q true = _
  rcases h.hit with e | e
  · rw [e]; exact up_set_on (by omega)
  · rw [e]; exact up_set_same (by omega)
theorem Runs.on (hc : (checkF s.name l).2 = 0) (h : Runs l s q) : Runs l (s.hitN true) q := ⟨h.st, h.step, h.lt, h.lo, h.hi, .inr (h.hitOn hc)⟩
theorem Backs.hitOn (hc : (checkF s.name l).2 = 0) (h : Backs l s q) : (s.hitN true).hit = upH ((q : Int) + 1) := by
  have h8 := (check_good hc).1
  have hlt := h.lt
  rw [hitN_step h.step]
  show s.hit.set q true = _
  rw [h.hit]; exact up_set_same (by omega)
theorem Backs.on (hc : (checkF s.name l).2 = 0) (h : Backs l s q) : Backs l (s.hitN true) q := ⟨h.st, h.step, h.lt, h.lo, h.hi, h.hitOn hc, h.free⟩
/-- What an event makes of a saga that is running. -/
def RunOut (l : List StepD) (s : SagaD) (q : Nat) (k : Int) (t : SagaD) : Prop :=
  (k = 3 ∧ q + 1 = l.length ∧ t.st = 3) ∨ (k = 3 ∧ Runs l t (q + 1) ∧ t.tr = 1) ∨ (k ≠ 3 ∧ Runs l t q ∧ t.tr = s.tr + 1) ∨ (k ≠ 3 ∧ t.st = 5) ∨ (k ≠ 3 ∧ q = 0 ∧ t.st = 4) ∨ (k ≠ 3 ∧ ∃ j, Backs l t j ∧ t.tr = 1 ∧ q ≤ j + 1 ∧ j ≤ q)
theorem run_ev (hc : (checkF s.name l).2 = 0) (h : Runs l s q) (k : Int) : (evE l s k).name = s.name ∧ RunOut l s q k (evE l s k) := by
  unfold evE
  have hst := h.st
  by_cases h3 : k = 3
  · rw [if_pos h3]
    unfold reportE
    rw [show decide (s.st = 2) = false from by rw [hst]; rfl]
    simp only [if_pos, Bool.false_eq_true, if_false]
    unfold nextS
    have hs : (s.hitN true).step = (q : Int) + 1 := h.step
    rw [hs]
    by_cases hn : (q : Int) + 1 = (l.length : Int)
    · rw [if_pos hn]
      exact ⟨rfl, .inl ⟨h3, by omega, rfl⟩⟩
    · rw [if_neg hn]
      have hlt := h.lt
      refine ⟨rfl, .inr (.inl ⟨h3, ⟨rfl, rfl, by omega, Int.le_refl 1, tries_one (s := s) hc (k := q + 1) (by omega), .inl ?_⟩, rfl⟩)⟩
      exact h.hitOn hc
  · rw [if_neg h3]
    by_cases h4 : k = 4
    · rw [if_pos h4]
      have hm : ∃ m : Nat, s.hit = upH (m : Int) ∧ (m = q ∨ m = q + 1) := by
        rcases h.hit with e | e
        · exact ⟨q, e, .inl rfl⟩
        · exact ⟨q + 1, by rw [e]; rfl, .inr rfl⟩
      obtain ⟨m, hh, hm⟩ := hm
      obtain ⟨e1, e2 | e2 | e2 | e2⟩ := missed_run hc h hh hm
      · exact ⟨e1, .inr (.inr (.inl ⟨h3, e2⟩))⟩
      · exact ⟨e1, .inr (.inr (.inr (.inl ⟨h3, e2⟩)))⟩
      · exact ⟨e1, .inr (.inr (.inr (.inr (.inl ⟨h3, e2⟩))))⟩
      · exact ⟨e1, .inr (.inr (.inr (.inr (.inr ⟨h3, e2⟩))))⟩
    · rw [if_neg h4]
      unfold lapseE
      obtain ⟨e1, e2 | e2 | e2 | e2⟩ := missed_run (s := s.hitN true) hc (h.on hc) (m := q + 1) (by rw [h.hitOn hc]; rfl) (.inr rfl)
      · exact ⟨e1, .inr (.inr (.inl ⟨h3, e2⟩))⟩
      · exact ⟨e1, .inr (.inr (.inr (.inl ⟨h3, e2⟩)))⟩
      · exact ⟨e1, .inr (.inr (.inr (.inr (.inl ⟨h3, e2⟩))))⟩
      · exact ⟨e1, .inr (.inr (.inr (.inr (.inr ⟨h3, e2⟩))))⟩
/-- What an event makes of one on its way back. -/
def BackOut (l : List StepD) (s : SagaD) (q : Nat) (k : Int) (t : SagaD) : Prop :=
  (k = 3 ∧ q = 0 ∧ t.st = 4) ∨ (k = 3 ∧ ∃ j, q = j + 1 ∧ Backs l t j ∧ t.tr = 1) ∨ (k ≠ 3 ∧ Backs l t q ∧ t.tr = s.tr + 1) ∨ (k ≠ 3 ∧ t.st = 5)
theorem back_ev (hc : (checkF s.name l).2 = 0) (h : Backs l s q) (k : Int) : (evE l s k).name = s.name ∧ BackOut l s q k (evE l s k) := by
  unfold evE
  have hst := h.st
  have h8 := (check_good hc).1
  have hlt := h.lt
  by_cases h3 : k = 3
  · rw [if_pos h3]
    unfold reportE
    rw [show decide (s.st = 2) = true from by rw [hst]; rfl]
    simp only [if_pos]
    have hh : (s.hitN false).hit = upH (q : Int) := by
      rw [hitN_step h.step]
      show s.hit.set q false = _
      rw [h.hit]
      exact up_set_off (by omega)
    have hs : (s.hitN false).step = (q : Int) + 1 := h.step
    have hd := down_to (s := s.hitN false) hc hh (by rw [hs]; omega) (by rw [hs]; omega) (h.free.le (by omega))
    rw [hd]
    cases q with
    | zero => rw [if_pos rfl]; exact ⟨rfl, .inl ⟨h3, rfl, rfl⟩⟩
    | succ j =>
      rw [if_neg (by omega)]
      refine ⟨rfl, .inr (.inl ⟨h3, j, rfl, ?_, rfl⟩)⟩
      rw [show ((j + 1 : Nat) : Int) = (j : Int) + 1 from by omega]
      exact back_at (s := s.hitN false) hc (by rw [hh]; rfl) (by omega) (h.free.le (by omega))
  · rw [if_neg h3]
    by_cases h4 : k = 4
    · rw [if_pos h4]
      obtain ⟨e1, e2 | e2⟩ := missed_back h
      · exact ⟨e1, .inr (.inr (.inl ⟨h3, e2⟩))⟩
      · exact ⟨e1, .inr (.inr (.inr ⟨h3, e2⟩))⟩
    · rw [if_neg h4]
      unfold lapseE
      obtain ⟨e1, e2 | e2⟩ := missed_back (h.on hc)
      · exact ⟨e1, .inr (.inr (.inl ⟨h3, e2⟩))⟩
      · exact ⟨e1, .inr (.inr (.inr ⟨h3, e2⟩))⟩
/-- Cancelled, while it is running. -/
theorem cancel_run (hc : (checkF s.name l).2 = 0) (h : Runs l s q) : ((cancelF l s).2 = 10 ∧ (cancelF l s).1 = SagaD.zero) ∨ ((cancelF l s).2 = 0 ∧ (cancelF l s).1.name = s.name ∧ ((cancelF l s).1.st = 5 ∨ Backs l (cancelF l s).1 q)) := by
  have hw := wants_parts (h.wants hc)
  unfold cancelF
  rw [if_pos hw.2.2.2.2.2.2.2, if_neg (by rw [h.st]; decide)]
  cases lateB l s with
  | true => exact .inl ⟨rfl, rfl⟩
  | false =>
    have hlt := h.lt
    have hs : (s.hitN true).step = (q : Int) + 1 := h.step
    rw [if_neg (by simp)]
    refine .inr ⟨rfl, ?_⟩
    rcases fails_case (s := s.hitN true) hc (m := q + 1) (by rw [h.hitOn hc]; rfl) (by rw [hs]; omega) (by rw [hs]; omega) with e | ⟨h0, e⟩ | ⟨k, hk, e, hb⟩
    · rw [e]; exact ⟨rfl, .inl rfl⟩
    · omega
    · obtain rfl : q = k := by omega
      rw [e]; exact ⟨rfl, .inr hb⟩
theorem cancel_back (hc : (checkF s.name l).2 = 0) (h : Backs l s q) : cancelF l s = (s, 0) := by
  have hw := wants_parts (h.wants hc)
  unfold cancelF
  rw [if_pos hw.2.2.2.2.2.2.2, if_pos h.st]
theorem cancel_off (h2 : s.st ≠ 2) (h1 : s.st ≠ 1) : ((cancelF l s).2 = 10 ∧ (cancelF l s).1 = SagaD.zero) ∨ ((cancelF l s).2 = 2 ∧ (cancelF l s).1 = s) := by
  unfold cancelF
  cases goodF l s with
  | false => exact .inr ⟨rfl, rfl⟩
  | true =>
    rw [if_pos rfl, if_neg h2, show lateB l s = true from by unfold lateB; simp [h1]]
    exact .inl ⟨rfl, rfl⟩

theorem downS_step (l : List StepD) (s : SagaD) : 0 ≤ (downS l s).step ∧ (downS l s).step ≤ (l.length : Int) := by
  have := downF_le l s.hit.l s.step
  unfold downS
  split
  · exact ⟨Int.le_refl 0, by show (0 : Int) ≤ _; omega⟩
  · exact ⟨by show (0 : Int) ≤ ((downF l s.hit.l s.step : Nat) : Int); omega, by show ((downF l s.hit.l s.step : Nat) : Int) ≤ _; omega⟩
theorem failsS_step {l : List StepD} {s : SagaD} (h0 : 0 ≤ s.step) (h1 : s.step ≤ 8) (hl : l.length ≤ 8) : 0 ≤ (failsS l s).step ∧ (failsS l s).step ≤ 9 := by
  unfold failsS
  split
  · exact ⟨h0, by show s.step ≤ 9; omega⟩
  · have := downS_step l s; omega
theorem missedS_step {l : List StepD} {s : SagaD} (h0 : 0 ≤ s.step) (h1 : s.step ≤ 8) (hl : l.length ≤ 8) : 0 ≤ (missedS l s).step ∧ (missedS l s).step ≤ 9 := by
  unfold missedS
  split
  · exact ⟨h0, by show s.step ≤ 9; omega⟩
  · split
    · exact ⟨h0, by show s.step ≤ 9; omega⟩
    · exact failsS_step h0 h1 hl
theorem ev_step {l : List StepD} {s : SagaD} (k : Int) (h0 : 0 ≤ s.step) (h1 : s.step ≤ 8) (hl : l.length ≤ 8) : 0 ≤ (evE l s k).step ∧ (evE l s k).step ≤ 9 := by
  unfold evE
  split
  · unfold reportE
    split
    · split
      · have := downS_step l (s.hitN false); omega
      · unfold nextS
        split
        · exact ⟨Int.le_refl 0, by show (0 : Int) ≤ 9; omega⟩
        · exact ⟨by show 0 ≤ s.step + 1; omega, by show s.step + 1 ≤ 9; omega⟩
    · exact missedS_step h0 h1 hl
  · split
    · exact missedS_step h0 h1 hl
    · exact missedS_step (s := s.hitN true) h0 h1 hl
theorem cancel_step {l : List StepD} {s : SagaD} (h0 : 0 ≤ s.step) (h1 : s.step ≤ 8) (hl : l.length ≤ 8) : 0 ≤ (cancelF l s).1.step ∧ (cancelF l s).1.step ≤ 9 := by
  unfold cancelF
  split
  · split
    · exact ⟨h0, by show s.step ≤ 9; omega⟩
    · split
      · exact ⟨Int.le_refl 0, by show (0 : Int) ≤ 9; omega⟩
      · exact failsS_step (s := s.hitN true) h0 h1 hl
  · exact ⟨h0, by show s.step ≤ 9; omega⟩

/-- How many commands are left at most. -/
def phi (l : List StepD) (s : SagaD) : Int :=
  if s.st = 1 then A l l.length - A l (s.step - 1).toNat - s.tr + 1 + U l l.length else if s.st = 2 then U l (s.step - 1).toNat + triesN l s.step - s.tr + 1 else 0
theorem Runs.phi (h : Runs l s q) : phi l s = A l l.length - A l q - s.tr + 1 + U l l.length := by
  unfold Proofs.YtpicnoinnngpeaaGreat.phi
  rw [if_pos h.st, h.step, show ((q : Int) + 1 - 1).toNat = q from by omega]
theorem Backs.phi (h : Backs l s q) : phi l s = U l q + triesN l ((q : Int) + 1) - s.tr + 1 := by
  unfold Proofs.YtpicnoinnngpeaaGreat.phi
  rw [if_neg (by rw [h.st]; decide), if_pos h.st, h.step, show ((q : Int) + 1 - 1).toNat = q from by omega]
theorem phi_off (h1 : s.st ≠ 1) (h2 : s.st ≠ 2) : phi l s = 0 := by unfold phi; rw [if_neg h1, if_neg h2]
theorem U_nn {name : ByteArray} (hc : (checkF name l).2 = 0) {k : Nat} (hk : k ≤ l.length) : 0 ≤ U l k := by
  have := U_le hc (i := 0) k (by omega)
  rw [Nat.zero_add] at this
  exact this
theorem Runs.pos (hc : (checkF s.name l).2 = 0) (h : Runs l s q) : 1 + U l l.length ≤ Proofs.YtpicnoinnngpeaaGreat.phi l s := by
  have hl : l[q]? = some (l[q]'h.lt) := List.getElem?_eq_getElem h.lt
  have h1 := A_next hl
  have hlt := h.lt
  have h2 := A_le hc (i := q + 1) (l.length - (q + 1)) (by omega)
  rw [show q + 1 + (l.length - (q + 1)) = l.length from by omega] at h2
  have h3 := h.hi
  rw [h.step, triesN_at hl] at h3
  rw [h.phi]
  omega
theorem Backs.pos (_hc : (checkF s.name l).2 = 0) (h : Backs l s q) : 1 + U l q ≤ Proofs.YtpicnoinnngpeaaGreat.phi l s := by
  have h3 := h.hi
  rw [h.step] at h3
  rw [h.phi]
  omega
theorem Backs.top {name : ByteArray} (hc : (checkF name l).2 = 0) (h : Backs l s q) (ht : s.tr = 1) : Proofs.YtpicnoinnngpeaaGreat.phi l s = U l (q + 1) := by
  have hl : l[q]? = some (l[q]'h.lt) := List.getElem?_eq_getElem h.lt
  have h1 := U_next hl
  rw [Free.undo hc h.free (Nat.lt_succ_self q) hl, if_pos rfl] at h1
  rw [h.phi, ht, triesN_at hl, h1]
  omega
theorem run_less (hc : (checkF s.name l).2 = 0) (h : Runs l s q) {k : Int} {t : SagaD} (ht : RunOut l s q k t) : Proofs.YtpicnoinnngpeaaGreat.phi l t + 1 ≤ Proofs.YtpicnoinnngpeaaGreat.phi l s := by
  have h0 := h.pos hc
  have hu := U_nn hc (Nat.le_refl l.length)
  have hlt := h.lt
  rcases ht with ⟨_, _, e⟩ | ⟨_, e, e2⟩ | ⟨_, e, e2⟩ | ⟨_, e⟩ | ⟨_, _, e⟩ | ⟨_, j, e, e2, _, _⟩
  · rw [phi_off (s := t) (by rw [e]; decide) (by rw [e]; decide)]; omega
  · have hl : l[q]? = some (l[q]'h.lt) := List.getElem?_eq_getElem h.lt
    have h1 := A_next hl
    have h3 := h.hi
    rw [h.step, triesN_at hl] at h3
    rw [e.phi, h.phi, e2]
    omega
  · rw [e.phi, h.phi, e2]; omega
  · rw [phi_off (s := t) (by rw [e]; decide) (by rw [e]; decide)]; omega
  · rw [phi_off (s := t) (by rw [e]; decide) (by rw [e]; decide)]; omega
  · have := e.lt
    rw [e.top hc e2]
    have h4 := U_le hc (i := j + 1) (l.length - (j + 1)) (by omega)
    rw [show j + 1 + (l.length - (j + 1)) = l.length from by omega] at h4
    omega
theorem back_less (hc : (checkF s.name l).2 = 0) (h : Backs l s q) {k : Int} {t : SagaD} (ht : BackOut l s q k t) : Proofs.YtpicnoinnngpeaaGreat.phi l t + 1 ≤ Proofs.YtpicnoinnngpeaaGreat.phi l s := by
  have h0 := h.pos hc
  have hlt := h.lt
  have hu := U_nn hc (k := q) (by omega)
  rcases ht with ⟨_, _, e⟩ | ⟨_, j, hj, e, e2⟩ | ⟨_, e, e2⟩ | ⟨_, e⟩
  · rw [phi_off (s := t) (by rw [e]; decide) (by rw [e]; decide)]; omega
  · rw [e.top hc e2, ← hj]; omega
  · rw [e.phi, h.phi, e2]; omega
  · rw [phi_off (s := t) (by rw [e]; decide) (by rw [e]; decide)]; omega
theorem begin_runs {name : ByteArray} (hc : (checkF name l).2 = 0) (p : Option Addr) (n c : Nat) : Runs l ⟨name, p, n, c, 1, 1, 1, upH 0⟩ 0 :=
  ⟨rfl, rfl, (check_good hc).2.1, Int.le_refl 1, tries_one (s := ⟨name, p, n, c, 1, 1, 1, upH 0⟩) hc (k := 0) (check_good hc).2.1, .inl rfl⟩
theorem begin_phi {name : ByteArray} (hc : (checkF name l).2 = 0) (p : Option Addr) (n c : Nat) : Proofs.YtpicnoinnngpeaaGreat.phi l ⟨name, p, n, c, 1, 1, 1, upH 0⟩ = sumF triesF name l := by
  rw [(begin_runs hc p n c).phi]
  unfold sumF
  rw [if_pos hc, sum_both]
  unfold A U
  rw [List.take_length, List.take_zero]
  show sumT l - 0 - 1 + 1 + sumU l = _
  omega
end
end Go.Proofs.YtpicnoinnngpeaaGreat
/- A saga behind an event: behind of package book. -/
namespace Go.Proofs.YtpicnoinnngpeaaGreat
open Go.RowKit Go.Maps
/-- 'm[k] = v', at an operation of a region that draws its order. -/
theorem wp_mapUpdate_any {P : Program} {w : World} {o : Oper} {a : Act} {Q : Exit → Act → World → Prop} {K : Act → World → Prop} (m x v : Operand) (t : TypeId) (hop : o.op = Op.mapUpdate t m x v) (k e : TypeId) (Kd : Maps.Keyed P k) (ht : P.underlying t = some (.map k e)) (b n : Nat) (L : List (Int × Value))
    (hm : a.eval m = .map (some b)) (hown : w.ownsMap P k heldR b n (mapD L)) (hn : n < maxLen) (key : Int) (val : Value) (hx : a.eval x = .int .i64 key) (hv : a.eval v = val) (hkey : keyOf P k (Value.int .i64 key) = some (Lit.int .i64 key))
    (hK : ∀ w', w'.ownsMap P k heldR b (n + 1) ((mapD L).put (.int .i64 key) (.held val)) → w.mapTurned w' b → K (a.put o.dst undef) w') : Oper.wp P o a w K Q := by
  obtain ⟨w', hrun, r1, r2⟩ := hown.store Kd ht hn hkey (val := val) (d := .held val) (ps := []) rfl
  unfold Oper.wp
  simp [execOp, hop, hm, hx, hv, hrun, Result.andThen]
  exact hK w' r1 r2
theorem statusF_put {L : List Ent} (x : Ent) (hr : RiseE L) : statusF (putE x L) x.id = ⟨0, x.id, x.s.st, x.s.step⟩ := by
  unfold statusF
  rw [entAt_putE x hr]
theorem BookAt.more {F : Nat → Prop} {w : World} {g b k m : Nat} {most : Int} {t : BkS} (h : BookAt F w g b k most t) (hk : k ≤ m) : BookAt F w g b m most t := by
  obtain ⟨f, hm, hs⟩ := h.body
  exact ⟨h.cell, ⟨f, hm.mono hk, hs⟩, h.ok, h.apart⟩
/-- What a call on a book says and leaves. -/
def Did (F : Nat → Prop) (g b k : Nat) (most : Int) (r : RepD) (t : BkS) (w : World) (e : Ending) (w' : World) : Prop :=
  e = .returned r.val ∧ BookAt F w' g b k most t ∧ Turned (fun i => i = g ∨ i = b) w w'
/-- What an event says of a saga: another one, its steps in new memory, and an error's number. -/
def EvT (r : SagaD × Int) (l : List StepD) (w : World) (e : Ending) (w' : World) : Prop :=
  ∃ p n c, e = .returned (.tuple #[(r.1.withV p n c).val, .int .i64 r.2]) ∧ (r.2 = 0 → StepsAt (w.heap.size ≤ ·) w' (.slice p n c) l) ∧ Later w w'
section
variable {F : Nat → Prop} {w : World} {g b k : Nat} {most : Int} {t : BkS}
set_option maxHeartbeats 4000000 in
set_option maxRecDepth 100000 in
theorem behind_none (h : BookAt F w g b k most t) {id : Int} (hid : I64 id) (hx : entAt t.L id = none) (gf : Nat) (cb : Array Value) :
    Calls Tryz.prog 34 #[.pointer (some ⟨g, 0, none⟩), .int .i64 id, .func (.func gf) #[] cb] w (Did F g b (k + 1) most (errR 8) t w) := by
  have hlt := h.lt
  obtain ⟨W1, hW1⟩ : ∃ W1, W1 = w.alloc (.cells #[.int .i64 0, .int .i64 0, .int .i64 0, .int .i64 0] 44 (0, 0)) := ⟨_, rfl⟩
  obtain ⟨y, hy⟩ : ∃ y, y = w.heap.size := ⟨_, rfl⟩
  have Y1 : Hid (RBox y (errR 0) W1) := by rw [hW1, hy]; exact heap_alloc_new _ _
  have L1 : Hid (Later w W1) := by rw [hW1]; exact (Below.refl _ _).alloc (Nat.le_refl _) _
  have HYG : Hid (g < y ∧ b < y) := by rw [hy]; exact hlt
  have HY : Hid (w.heap.size ≤ y) := Nat.le_of_eq hy.symm
  have HYW : Hid (y < W1.heap.size) := lt_of_block Y1.out
  have h1 : BookAt (fun i => F i ∧ i ≠ y) W1 g b k most t := (h.mono (G := fun i => F i ∧ i ≠ y) (fun i hi hf => ⟨hf, by omega⟩) (fun e => h.apart.2.1 e.1) (fun e => h.apart.2.2 e.1)).later L1.out
  have C := hide (at_none h1 hid hx)
  have H1 := hide h1
  have HA := hide h.apart
  have HW1 := hide hW1.symm
  have HG := hide hy.symm
  clear h hid hx hW1 hy h1 hlt
  go_enter Tryz.func34, Tryz.ntmps34
  go_wp2_with (fail)
  simp only [HW1.out, HG.out]
  refine C.out.mono ?_
  rintro e w2 ⟨rfl, hl2⟩
  have T2 : Hid (SBox 36 w2.heap.size SagaD.zero (w2.alloc (.cells #[.string ⟨#[]⟩, .slice none 0 0, .int .i64 0, .int .i64 0, .int .i64 0, .bool false, .bool false, .bool false, .bool false, .bool false, .bool false, .bool false, .bool false] 36 (0, 0)))) := heap_alloc_new _ _
  have L2b : Hid (Later w2 (w2.alloc (.cells #[.string ⟨#[]⟩, .slice none 0 0, .int .i64 0, .int .i64 0, .int .i64 0, .bool false, .bool false, .bool false, .bool false, .bool false, .bool false, .bool false, .bool false] 36 (0, 0)))) := (Below.refl _ _).alloc (Nat.le_refl _) _
  have L2 : Hid (Later W1 w2) := hl2
  clear hl2 C
  go_wp2_with (refine wpList_store_saga (s := SagaD.zero) (by rfl) _ _ (by rfl) (by rfl) T2.out (by rfl) ?_)
  intro w3 X3 G3
  have L3a : Later w2 w3 := L2b.out.grown G3 (by simp) (fun k hk => by have := Option.some.inj hk; omega)
  have L3b : Later W1 w2 := L2.out
  have L3 : Hid (Later W1 w3) := Later.trans L3b L3a
  have Y3 : Hid (RBox y (errR 0) w3) := Y1.out.below L3.out
  clear X3 G3 L3a L3b
  go_wp2_with (refine wpList_store_rep (r := errR 8) (by rfl) _ _ (by rfl) (by rfl) Y3.out (by rfl) ?_)
  intro w4 Z4 G4
  have HZ := hide Z4
  have T4 : Hid (Turned (fun i => i = y) w3 w4) := Turned.of_grown G4 (fun g e => (Option.some.inj e).symm)
  clear Z4 G4
  go_wp2
  refine bodyPost_ret (results_cell_row Tryz.results34 _ _ y 44 _ (0, 0) _ (by rfl) HZ.out Tryz.underlying44 (by rfl) (by kernel_rfl)) (by rfl) ?_
  have B4 := (H1.out.later L3.out).turned T4.out (by have := HYG.out; omega) (by have := HYG.out; omega) (fun i hi => hi.2)
  have La : Later w W1 := L1.out
  have Lb : Later w w3 := Later.trans La L3.out
  exact ⟨rfl, (B4.mono (fun i _ hf => hf.1) HA.out.2.1 HA.out.2.2).more (by omega), (Turned.of_below Lb _).onto T4.out (fun i hi => .inr (by have := HY.out; omega))⟩
set_option maxHeartbeats 4000000 in
set_option maxRecDepth 100000 in
theorem behind_bad (h : BookAt F w g b k most t) {id : Int} (hid : I64 id) {x : Ent} (hx : entAt t.L id = some x) (gf : Nat) (cb : Array Value) (ev : List StepD → SagaD → SagaD × Int)
    (eg : ∀ args w, (callFunc gf args).run Tryz.prog w = .ok (.enter gf args) w)
    (hc : ∀ W, Later w W → ∀ (q : Option Addr) (n c : Nat), StepsAt F W (.slice q n c) x.l → Calls Tryz.prog gf (#[(x.s.withV q n c).val] ++ cb) W (EvT (ev x.l x.s) x.l W)) (he : (ev x.l x.s).2 ≠ 0) :
    Calls Tryz.prog 34 #[.pointer (some ⟨g, 0, none⟩), .int .i64 id, .func (.func gf) #[] cb] w (Did F g b (k + 1) most (errR (ev x.l x.s).2) t w) := by
  have hlt := h.lt
  obtain ⟨W1, hW1⟩ : ∃ W1, W1 = w.alloc (.cells #[.int .i64 0, .int .i64 0, .int .i64 0, .int .i64 0] 44 (0, 0)) := ⟨_, rfl⟩
  obtain ⟨y, hy⟩ : ∃ y, y = w.heap.size := ⟨_, rfl⟩
  have Y1 : Hid (RBox y (errR 0) W1) := by rw [hW1, hy]; exact heap_alloc_new _ _
  have L1 : Hid (Later w W1) := by rw [hW1]; exact (Below.refl _ _).alloc (Nat.le_refl _) _
  have HYG : Hid (g < y ∧ b < y) := by rw [hy]; exact hlt
  have HY : Hid (w.heap.size ≤ y) := Nat.le_of_eq hy.symm
  have HYW : Hid (y < W1.heap.size) := lt_of_block Y1.out
  have h1 : BookAt (fun i => F i ∧ i ≠ y) W1 g b k most t := (h.mono (G := fun i => F i ∧ i ≠ y) (fun i hi hf => ⟨hf, by omega⟩) (fun e => h.apart.2.1 e.1) (fun e => h.apart.2.2 e.1)).later L1.out
  have C := hide (at_some h1 hid hx)
  have H1 := hide h1
  have HA := hide h.apart
  have HC : Hid (∀ W, Later W1 W → ∀ (q : Option Addr) (n c : Nat), StepsAt F W (.slice q n c) x.l → Calls Tryz.prog gf (#[(x.s.withV q n c).val] ++ cb) W (EvT (ev x.l x.s) x.l W)) := fun W hW q n c hq => by
    have La : Later w W1 := L1.out
    exact hc W (Later.trans La hW) q n c hq
  have HX := hide hx
  have HI := hide hid
  obtain ⟨xi, xs, xl⟩ := x
  obtain rfl : xi = id := (entAt_mem hx).2
  simp only at HC
  obtain ⟨s9, hs9⟩ : ∃ s9, (ev xl xs).1 = s9 := ⟨_, rfl⟩
  obtain ⟨e9, he9⟩ : ∃ e9, (ev xl xs).2 = e9 := ⟨_, rfl⟩
  have HEV : Hid (ev xl xs = (s9, e9)) := by show _ = _; rw [← hs9, ← he9]
  rw [HEV.out] at HC
  simp only at he
  rw [he9] at he ⊢
  have ne9 : (e9 != 0) = true := by simpa using he
  clear he
  have HW1 := hide hW1.symm
  have HG := hide hy.symm
  clear h hid hx hW1 hy h1 hlt hc hs9 he9
  go_enter Tryz.func34, Tryz.ntmps34
  go_wp2_with (fail)
  simp only [HW1.out, HG.out]
  refine C.out.mono ?_
  rintro e w2 ⟨p, n, c, rfl, hs, hl2⟩
  obtain ⟨s2, hs2⟩ : ∃ s2, xs.withV p n c = s2 := ⟨_, rfl⟩
  rw [hs2]
  have HS2 := hide hs2
  have HS := hide hs
  have T2 : Hid (SBox 36 w2.heap.size SagaD.zero (w2.alloc (.cells #[.string ⟨#[]⟩, .slice none 0 0, .int .i64 0, .int .i64 0, .int .i64 0, .bool false, .bool false, .bool false, .bool false, .bool false, .bool false, .bool false, .bool false] 36 (0, 0)))) := heap_alloc_new _ _
  have L2b : Hid (Later w2 (w2.alloc (.cells #[.string ⟨#[]⟩, .slice none 0 0, .int .i64 0, .int .i64 0, .int .i64 0, .bool false, .bool false, .bool false, .bool false, .bool false, .bool false, .bool false, .bool false] 36 (0, 0)))) := (Below.refl _ _).alloc (Nat.le_refl _) _
  have L2 : Hid (Later W1 w2) := hl2
  clear hl2 C hs hs2
  go_wp2_with (refine wpList_store_saga (s := s2) (by rfl) _ _ (by rfl) (by rfl) T2.out (by rfl) ?_)
  intro w3 X3 G3
  have HX3 := hide X3
  have L3a : Later w2 w3 := L2b.out.grown G3 (by simp) (fun k hk => by have := Option.some.inj hk; omega)
  have L3b : Later W1 w2 := L2.out
  have L3 : Hid (Later W1 w3) := Later.trans L3b L3a
  have HCALL := HC.out w3 L3.out p n c (StepsAt.mono (StepsAt.kept HS.out (Kept.of_below L3a _)) (fun i _ hf => hf.1))
  rw [HS2.out] at HCALL
  clear X3 G3 L3a L3b
  go_wp2_with (refine wpList_load_saga (by rfl) _ (by rfl) (by rfl) HX3.out ?_)
  go_at_fn gf
  refine HCALL.mono ?_
  rintro e w4 ⟨p4, n4, c4, rfl, hs4, hl4⟩
  have HS4 := hide hs4
  have L4a : Later W1 w3 := L3.out
  have L4 : Hid (Later W1 w4) := Later.trans L4a hl4
  have HL34 : Hid (Later w3 w4) := hl4
  have T4 : Hid (SBox 36 w4.heap.size SagaD.zero (w4.alloc (.cells #[.string ⟨#[]⟩, .slice none 0 0, .int .i64 0, .int .i64 0, .int .i64 0, .bool false, .bool false, .bool false, .bool false, .bool false, .bool false, .bool false, .bool false] 36 (0, 0)))) := heap_alloc_new _ _
  have L4b : Hid (Later w4 (w4.alloc (.cells #[.string ⟨#[]⟩, .slice none 0 0, .int .i64 0, .int .i64 0, .int .i64 0, .bool false, .bool false, .bool false, .bool false, .bool false, .bool false, .bool false, .bool false] 36 (0, 0)))) := (Below.refl _ _).alloc (Nat.le_refl _) _
  clear hs4 hl4 L4a HCALL
  go_wp2_with (refine wpList_store_saga (s := s9.withV p4 n4 c4) (by rfl) _ _ (by rfl) (by rfl) T4.out (by rfl) ?_)
  intro w5 X5 G5
  have HX5 := hide X5
  have L5a : Later w4 w5 := L4b.out.grown G5 (by simp) (fun k hk => by have := Option.some.inj hk; omega)
  have L5b : Later W1 w4 := L4.out
  have L5 : Hid (Later W1 w5) := Later.trans L5b L5a
  have HL45 : Hid (Later w4 w5) := L5a
  have Y5 : Hid (RBox y (errR 0) w5) := Y1.out.below L5.out
  clear X5 G5 L5a L5b
  go_wp2_with (refine wpList_store_rep (r := errR e9) (by rfl) _ _ (by rfl) (by rfl) Y5.out (by rfl) ?_)
  intro w6 Z6 G6
  have HZ := hide Z6
  have T6 : Hid (Turned (fun i => i = y) w5 w6) := Turned.of_grown G6 (fun g e => (Option.some.inj e).symm)
  clear Z6 G6
  go_wp2
  refine bodyPost_ret (results_cell_row Tryz.results34 _ _ y 44 _ (0, 0) _ (by rfl) HZ.out Tryz.underlying44 (by rfl) (by kernel_rfl)) (by rfl) ?_
  have B6 := (H1.out.later L5.out).turned T6.out (by have := HYG.out; omega) (by have := HYG.out; omega) (fun i hi => hi.2)
  have La : Later w W1 := L1.out
  have Lb : Later w w5 := Later.trans La L5.out
  exact ⟨rfl, (B6.mono (fun i _ hf => hf.1) HA.out.2.1 HA.out.2.2).more (by omega), (Turned.of_below Lb _).onto T6.out (fun i hi => .inr (by have := HY.out; omega))⟩
set_option maxHeartbeats 4000000 in
set_option maxRecDepth 100000 in
theorem behind_ok (h : BookAt F w g b k most t) {id : Int} (hid : I64 id) {x : Ent} (hx : entAt t.L id = some x) (gf : Nat) (cb : Array Value) (ev : List StepD → SagaD → SagaD × Int)
    (eg : ∀ args w, (callFunc gf args).run Tryz.prog w = .ok (.enter gf args) w)
    (hc : ∀ W, Later w W → ∀ (q : Option Addr) (n c : Nat), StepsAt F W (.slice q n c) x.l → Calls Tryz.prog gf (#[(x.s.withV q n c).val] ++ cb) W (EvT (ev x.l x.s) x.l W)) (hk : k ≤ 1000000) (he : (ev x.l x.s).2 = 0) (hst : 0 ≤ (ev x.l x.s).1.step ∧ (ev x.l x.s).1.step ≤ 9) (hF : ∀ i, w.heap.size ≤ i → F i) :
    Calls Tryz.prog 34 #[.pointer (some ⟨g, 0, none⟩), .int .i64 id, .func (.func gf) #[] cb] w (Did F g b (k + 1) most ⟨0, id, (ev x.l x.s).1.st, (ev x.l x.s).1.step⟩ ⟨t.last, putE ⟨id, (ev x.l x.s).1, x.l⟩ t.L⟩ w) := by
  have hlt := h.lt
  obtain ⟨W1, hW1⟩ : ∃ W1, W1 = w.alloc (.cells #[.int .i64 0, .int .i64 0, .int .i64 0, .int .i64 0] 44 (0, 0)) := ⟨_, rfl⟩
  obtain ⟨y, hy⟩ : ∃ y, y = w.heap.size := ⟨_, rfl⟩
  have Y1 : Hid (RBox y (errR 0) W1) := by rw [hW1, hy]; exact heap_alloc_new _ _
  have L1 : Hid (Later w W1) := by rw [hW1]; exact (Below.refl _ _).alloc (Nat.le_refl _) _
  have HYG : Hid (g < y ∧ b < y) := by rw [hy]; exact hlt
  have HY : Hid (w.heap.size ≤ y) := Nat.le_of_eq hy.symm
  have HYW : Hid (y < W1.heap.size) := lt_of_block Y1.out
  have h1 : BookAt (fun i => F i ∧ i ≠ y) W1 g b k most t := (h.mono (G := fun i => F i ∧ i ≠ y) (fun i hi hf => ⟨hf, by omega⟩) (fun e => h.apart.2.1 e.1) (fun e => h.apart.2.2 e.1)).later L1.out
  have C := hide (at_some h1 hid hx)
  have H1 := hide h1
  have HA := hide h.apart
  have HC : Hid (∀ W, Later W1 W → ∀ (q : Option Addr) (n c : Nat), StepsAt F W (.slice q n c) x.l → Calls Tryz.prog gf (#[(x.s.withV q n c).val] ++ cb) W (EvT (ev x.l x.s) x.l W)) := fun W hW q n c hq => by
    have La : Later w W1 := L1.out
    exact hc W (Later.trans La hW) q n c hq
  have HX := hide hx
  have HI := hide hid
  obtain ⟨xi, xs, xl⟩ := x
  obtain rfl : xi = id := (entAt_mem hx).2
  simp only at HC
  obtain ⟨s9, hs9⟩ : ∃ s9, (ev xl xs).1 = s9 := ⟨_, rfl⟩
  obtain ⟨e9, he9⟩ : ∃ e9, (ev xl xs).2 = e9 := ⟨_, rfl⟩
  have HEV : Hid (ev xl xs = (s9, e9)) := by show _ = _; rw [← hs9, ← he9]
  rw [HEV.out] at HC
  simp only at he hst
  rw [he9] at he
  rw [hs9] at hst ⊢
  subst he
  have HST := hide hst
  have HF := hide hF
  clear hst hF
  have HW1 := hide hW1.symm
  have HG := hide hy.symm
  clear h hid hx hW1 hy h1 hlt hc hs9 he9
  go_enter Tryz.func34, Tryz.ntmps34
  go_wp2_with (fail)
  simp only [HW1.out, HG.out]
  refine C.out.mono ?_
  rintro e w2 ⟨p, n, c, rfl, hs, hl2⟩
  obtain ⟨s2, hs2⟩ : ∃ s2, xs.withV p n c = s2 := ⟨_, rfl⟩
  rw [hs2]
  have HS2 := hide hs2
  have HS := hide hs
  have T2 : Hid (SBox 36 w2.heap.size SagaD.zero (w2.alloc (.cells #[.string ⟨#[]⟩, .slice none 0 0, .int .i64 0, .int .i64 0, .int .i64 0, .bool false, .bool false, .bool false, .bool false, .bool false, .bool false, .bool false, .bool false] 36 (0, 0)))) := heap_alloc_new _ _
  have L2b : Hid (Later w2 (w2.alloc (.cells #[.string ⟨#[]⟩, .slice none 0 0, .int .i64 0, .int .i64 0, .int .i64 0, .bool false, .bool false, .bool false, .bool false, .bool false, .bool false, .bool false, .bool false] 36 (0, 0)))) := (Below.refl _ _).alloc (Nat.le_refl _) _
  have L2 : Hid (Later W1 w2) := hl2
  clear hl2 C hs hs2
  go_wp2_with (refine wpList_store_saga (s := s2) (by rfl) _ _ (by rfl) (by rfl) T2.out (by rfl) ?_)
  intro w3 X3 G3
  have HX3 := hide X3
  have L3a : Later w2 w3 := L2b.out.grown G3 (by simp) (fun k hk => by have := Option.some.inj hk; omega)
  have L3b : Later W1 w2 := L2.out
  have L3 : Hid (Later W1 w3) := Later.trans L3b L3a
  have HCALL := HC.out w3 L3.out p n c (StepsAt.mono (StepsAt.kept HS.out (Kept.of_below L3a _)) (fun i _ hf => hf.1))
  rw [HS2.out] at HCALL
  clear X3 G3 L3a L3b
  go_wp2_with (refine wpList_load_saga (by rfl) _ (by rfl) (by rfl) HX3.out ?_)
  go_at_fn gf
  refine HCALL.mono ?_
  rintro e w4 ⟨p4, n4, c4, rfl, hs4, hl4⟩
  have HS4 := hide hs4
  have L4a : Later W1 w3 := L3.out
  have L4 : Hid (Later W1 w4) := Later.trans L4a hl4
  have HL34 : Hid (Later w3 w4) := hl4
  have T4 : Hid (SBox 36 w4.heap.size SagaD.zero (w4.alloc (.cells #[.string ⟨#[]⟩, .slice none 0 0, .int .i64 0, .int .i64 0, .int .i64 0, .bool false, .bool false, .bool false, .bool false, .bool false, .bool false, .bool false, .bool false] 36 (0, 0)))) := heap_alloc_new _ _
  have L4b : Hid (Later w4 (w4.alloc (.cells #[.string ⟨#[]⟩, .slice none 0 0, .int .i64 0, .int .i64 0, .int .i64 0, .bool false, .bool false, .bool false, .bool false, .bool false, .bool false, .bool false, .bool false] 36 (0, 0)))) := (Below.refl _ _).alloc (Nat.le_refl _) _
  clear hs4 hl4 L4a HCALL
  go_wp2_with (refine wpList_store_saga (s := s9.withV p4 n4 c4) (by rfl) _ _ (by rfl) (by rfl) T4.out (by rfl) ?_)
  intro w5 X5 G5
  have HX5 := hide X5
  have L5a : Later w4 w5 := L4b.out.grown G5 (by simp) (fun k hk => by have := Option.some.inj hk; omega)
  have L5b : Later W1 w4 := L4.out
  have L5 : Hid (Later W1 w5) := Later.trans L5b L5a
  have HL45 : Hid (Later w4 w5) := L5a
  have Y5 : Hid (RBox y (errR 0) w5) := Y1.out.below L5.out
  clear X5 G5 L5a L5b
  have H5 := hide (H1.out.later L5.out)
  obtain ⟨f, hm5, hf5⟩ := H5.out.body
  have HM5 : Hid (w5.drew.ownsMap Tryz.prog 3 heldR b k (mapD (t.L.map (pairE f)))) := hm5.drew
  have HF5 : Hid (∀ y ∈ t.L, StepsAt _ w5.drew (f y.id).v y.l) := fun y hy => StepsAt.kept (hf5 y hy) (Kept.drew _ _)
  have HS5 : Hid (StepsAt (fun i => F i ∧ i ≠ y) w5.drew (.slice p4 n4 c4) xl) := by
    have h9 := StepsAt.kept (StepsAt.kept (HS4.out (by trivial)) (Kept.of_below HL45.out _)) (Kept.drew _ _)
    refine StepsAt.mono h9 fun i _ hi => ?_
    have a1 : w3.heap.size ≤ i := hi
    have a2 := Below.size L3.out
    have a3 := HYW.out
    have a4 := Below.size L1.out
    exact ⟨HF.out i (by omega), by omega⟩
  have hxe := H5.out.ok.2.1 _ (entAt_mem HX.out).1
  have HOK : Hid (EntOk ⟨xi, s9, xl⟩) := ⟨hxe.1.1, hxe.1.2.1, HST.out, hxe.1.2.2.2⟩
  have HIX : Hid (xi ≤ 4611686018427387904) := hxe.2
  have C2 : Hid (w5.cell? ⟨g, 2, none⟩ = some (.map (some b))) := H5.out.c2
  have HGB : Hid (g < w5.heap.size ∧ b < w5.heap.size) := H5.out.lt
  have HB4 : Hid (b ≠ w4.heap.size) := by
    have a1 := (H1.out.later L4.out).lt.2
    exact Nat.ne_of_lt a1
  clear hm5 hf5 hxe
  go_wp2_with (fail)
  refine wp_region_R (R := fun a c => a.grownBy c (some b)) (by kernel_rfl) ?_
  refine wpAnyR_take (pre_grown (some b)) (i := 0) (d := some 30) (v := ?vaa0) rfl rfl (by kernel_rfl) (by kernel_rfl) (by kernel_rfl) (fun _ _ _ h => h) (by rfl) ?yaa0 ?_
  case yaa0 => (intro w' hw'; go_simp; try (with_reducible rfl))
  simp only [Act.put]; try simp only [List.setIfInBounds_toArray]; try simp only [List.set_cons_zero, List.set_cons_succ]
  refine wpAnyR_take (pre_grown (some b)) (i := 1) (d := some 31) (v := ?vaa1) rfl rfl (by kernel_rfl) (by kernel_rfl) (by kernel_rfl) (fun _ _ _ h => h) (by rfl) ?yaa1 ?_
  case yaa1 => (intro w' hw'; go_simp; try (with_reducible rfl))
  simp only [Act.put]; try simp only [List.setIfInBounds_toArray]; try simp only [List.set_cons_zero, List.set_cons_succ]
  refine wpAnyR_take (pre_grown (some b)) (i := 2) (d := some 32) (v := ?vaa2) rfl rfl (by kernel_rfl) (by kernel_rfl) (by kernel_rfl) (fun _ _ _ h => h) (by rfl) ?yaa2 ?_
  case yaa2 => (intro w' hw'; go_simp; try (with_reducible rfl))
  simp only [Act.put]; try simp only [List.setIfInBounds_toArray]; try simp only [List.set_cons_zero, List.set_cons_succ]
  refine wpAnyR_take (pre_grown (some b)) (i := 3) (d := some 33) (v := ?vaa3) rfl rfl (by kernel_rfl) (by kernel_rfl) (by kernel_rfl) (fun _ _ _ h => h) (by rfl) ?yaa3 ?_
  case yaa3 => (intro w' hw'; have hgc : w5.drew.grownBy w' (some b) := hw'; have hc2 : w'.cell? ⟨g, 2, none⟩ = some (.map (some b)) := (World.cell?_of_block (hgc.block g HGB.out.1 (fun e => HA.out.1 (Option.some.inj e)))).trans C2.out; go_simp; try (with_reducible rfl))
  simp only [Act.put]; try simp only [List.setIfInBounds_toArray]; try simp only [List.set_cons_zero, List.set_cons_succ]
  refine wpAnyR_take (pre_grown (some b)) (i := 4) (d := some 34) (v := ?vaa4) rfl rfl (by kernel_rfl) (by kernel_rfl) (by kernel_rfl) (fun _ _ _ h => h) (by rfl) ?yaa4 ?_
  case yaa4 => (intro w' hw'; go_simp; try (with_reducible rfl))
  simp only [Act.put]; try simp only [List.setIfInBounds_toArray]; try simp only [List.set_cons_zero, List.set_cons_succ]
  refine wpAnyR_take (pre_grown (some b)) (i := 5) (d := some 35) (v := (s9.withV p4 n4 c4).val) rfl rfl (by kernel_rfl) (by kernel_rfl) (by kernel_rfl) (fun _ _ _ h => h) (by rfl) ?yaa5 ?_
  case yaa5 => (intro w' hw'; have hgc : w5.drew.grownBy w' (some b) := hw'; exact exec_load_saga _ (by rfl) (by rfl) (show SBox 36 w4.heap.size (s9.withV p4 n4 c4) w' from (hgc.block w4.heap.size (SBox.lt HX5.out) (fun e => HB4.out (Option.some.inj e).symm)).trans HX5.out))
  simp only [Act.put]; try simp only [List.setIfInBounds_toArray]; try simp only [List.set_cons_zero, List.set_cons_succ]
  refine wpAnyR_only (i := 6) rfl (by kernel_rfl) (by rfl) fun K hK => ?_
  refine wp_mapUpdate_any _ _ _ 77 (by rfl) 3 36 Tryz.int_law Tryz.underlying77 b k (t.L.map (pairE f)) (by rfl) HM5.out (by unfold maxLen; omega) xi (s9.withV p4 n4 c4).val (by rfl) (by rfl) (int_key HI.out) ?_
  intro w6 ho6 ht6
  have hp6 := (H5.out.later (Later.drew w5)).put (x := ⟨xi, s9, xl⟩) HF5.out ho6 ht6 HS5.out HOK.out HIX.out
  have HP6 := hide hp6
  have T6 : Hid (Turned (fun i => i = b) w5 w6) := Turned.of_drew (Turned.of_grown ht6.grown (fun g e => (Option.some.inj e).symm))
  refine hK.out _ _ ht6.grown ?_
  clear hp6 ho6 ht6
  clear hK K
  try simp only [Act.put]
  refine wpAnyR_done (by kernel_rfl) ?_ _
  have Y6 : Hid (RBox y (errR 0) w6) := Y5.out.turned T6.out (by have := HYG.out; omega)
  have CS := hide (status_any HP6.out HI.out)
  rw [statusF_put ⟨xi, s9, xl⟩ H5.out.ok.1] at CS
  simp only at CS
  go_wp2_with (fail)
  refine CS.out.mono ?_
  rintro e w7 ⟨rfl, hl7⟩
  have HP7 := hide (HP6.out.later hl7)
  have Y7 : Hid (RBox y (errR 0) w7) := Y6.out.below hl7
  have T7 : Hid (Turned (fun i => i = b) w5 w7) := T6.out.trans (Turned.of_below hl7 _)
  clear hl7 CS
  go_wp2_with (refine wpList_store_rep (r := ⟨0, xi, s9.st, s9.step⟩) (by rfl) _ _ (by rfl) (by rfl) Y7.out (by rfl) ?_)
  intro w8 Z8 G8
  have HZ := hide Z8
  have T8 : Hid (Turned (fun i => i = y) w7 w8) := Turned.of_grown G8 (fun g e => (Option.some.inj e).symm)
  clear Z8 G8
  go_wp2
  refine bodyPost_ret (results_cell_row Tryz.results34 _ _ y 44 _ (0, 0) _ (by rfl) HZ.out Tryz.underlying44 (by rfl) (by kernel_rfl)) (by rfl) ?_
  have B8 := HP7.out.turned T8.out (by have := HYG.out; omega) (by have := HYG.out; omega) (fun i hi => hi.2)
  have La : Later w W1 := L1.out
  have Lb : Later w w5 := Later.trans La L5.out
  have Ta : Turned (fun i => i = g ∨ i = b) w w5 := Turned.of_below Lb _
  exact ⟨rfl, B8.mono (fun i _ hf => hf.1) HA.out.2.1 HA.out.2.2, (Ta.trans (T7.out.mono (fun i hi => .inr hi))).onto T8.out (fun i hi => .inr (by have := HY.out; omega))⟩
end
end Go.Proofs.YtpicnoinnngpeaaGreat
/- A saga more: start of package book. -/
namespace Go.Proofs.YtpicnoinnngpeaaGreat
open Go.RowKit Go.Maps
section
variable {F : Nat → Prop} {w : World} {g b k : Nat} {most : Int} {t : BkS}
theorem BookAt.setLast (h : BookAt F w g b k most t) (v : Int) (h0 : 0 ≤ v) (h1 : v ≤ 4611686018427387904) : BookAt F (w.setCell ⟨g, 1, none⟩ (.int .i64 v)) g b k most ⟨v, t.L⟩ := by
  have hk : Kept F w (w.setCell ⟨g, 1, none⟩ (.int .i64 v)) := ⟨by simp, fun i _ hf => heap_setCell_other _ _ _ _ (fun e => h.apart.2.1 ((show i = g from e) ▸ hf))⟩
  obtain ⟨f, hm, hs⟩ := h.body
  exact ⟨heap_setCell_same w g 1 _ _ _ h.cell, ⟨f, hm.setCell (a := ⟨g, 1, none⟩) h.apart.1.symm _, fun x hx => (hs x hx).kept hk⟩, ⟨h.ok.1, h.ok.2.1, h0, h1⟩, h.apart⟩
theorem turned_setCell (w : World) (g i : Nat) (v : Value) : Turned (fun j => j = g) w (w.setCell ⟨g, i, none⟩ v) :=
  ⟨rfl, rfl, rfl, by simp, fun j _ hj => heap_setCell_other _ _ _ _ (fun e => hj (show j = g from e))⟩
theorem another_zero {L : List Ent} (h : ∀ x ∈ L, 1 ≤ x.id) : L.countP (another 0) = openN L := by
  unfold openN
  refine List.countP_congr fun x hx => ?_
  have := h x hx
  have e : (x.id != 0) = true := by simp; omega
  unfold another
  rw [e, Bool.true_and]
theorem newE_ok {id : Int} {name : ByteArray} {l : List StepD} (hc : (checkF name l).2 = 0) (hw : ∀ a ∈ l, a.wf) (hi : 1 ≤ id) : EntOk (newE id name l) := ⟨hw, (check_good hc).1, ⟨by show (0 : Int) ≤ 1; decide, by show (1 : Int) ≤ 9; decide⟩, hi⟩
theorem roomF_rise {L : List Ent} (h : RiseE L) : RiseE (roomF L) := by
  unfold roomF
  split
  · exact h
  · split
    · exact h
    · exact dropE_rise _ h
set_option maxHeartbeats 4000000 in
set_option maxRecDepth 100000 in
theorem start_err {F0 : Nat → Prop} {name : ByteArray} {A : Option Addr} {n c : Nat} {l : List StepD} (h : BookAt F w g b k most t) (hst : StepsAt F0 w (.slice A n c) l) (he : (checkF name l).2 ≠ 0) :
    Calls Tryz.prog 33 #[.pointer (some ⟨g, 0, none⟩), .agg #[.string name, .slice A n c]] w (Did F g b (k + 1) most (errR ((checkF name l).2 : Nat)) t w) := by
  have hlt := h.lt
  obtain ⟨W1, hW1⟩ : ∃ W1, W1 = (w.alloc (.cells #[.string name, .slice A n c] 31 (0, 0))).alloc (.cells #[.int .i64 0, .int .i64 0, .int .i64 0, .int .i64 0] 44 (0, 0)) := ⟨_, rfl⟩
  obtain ⟨d, hd⟩ : ∃ d, d = w.heap.size := ⟨_, rfl⟩
  have X1 : Hid (DefBox d name (.slice A n c) W1) := by rw [hW1, hd]; exact (heap_alloc_old _ _ (by simp)).trans (heap_alloc_new _ _)
  have Y1 : Hid (RBox (d + 1) (errR 0) W1) := by rw [hW1, hd]; exact heap_second _ _ _
  have L1 : Hid (Later w W1) := by rw [hW1]; exact ((Below.refl _ _).alloc (Nat.le_refl _) _).alloc (by simp) _
  have HYG : Hid (g < d + 1 ∧ b < d + 1) := by rw [hd]; exact ⟨by omega, by omega⟩
  have HY : Hid (w.heap.size ≤ d + 1) := by rw [hd]; exact Nat.le_succ _
  have HYW : Hid (d + 1 < W1.heap.size) := lt_of_block Y1.out
  have h1 : BookAt (fun i => F i ∧ i ≠ d + 1) W1 g b k most t := (h.mono (G := fun i => F i ∧ i ≠ d + 1) (fun i hi hf => ⟨hf, by omega⟩) (fun e => h.apart.2.1 e.1) (fun e => h.apart.2.2 e.1)).later L1.out
  have H1 := hide h1
  have HA := hide h.apart
  have hst1 := StepsAt.kept hst (Kept.of_below L1.out _)
  have c0 : W1.cell? ⟨d, 0, none⟩ = some (.string name) := X1.out.name_
  have c1 : W1.cell? ⟨d, 1, none⟩ = some (.slice A n c) := X1.out.steps
  rw [hW1, hd] at c0 c1
  have C := hide (begin_err hst1 he)
  obtain ⟨e9, he9⟩ : ∃ e9 : Int, (((checkF name l).2 : Nat) : Int) = e9 := ⟨_, rfl⟩
  have ne9 : (e9 != 0) = true := by simp; omega
  rw [he9] at C ⊢
  clear he he9
  have HW1 := hide hW1.symm
  have HG := hide hd.symm
  clear h hst hst1 hW1 hd h1 hlt
  go_enter Tryz.func33, Tryz.ntmps33
  go_wp2_with (fail)
  simp only [HW1.out, HG.out]
  refine C.out.mono ?_
  rintro e w2 ⟨rfl, hl2⟩
  have T2 : Hid (SBox 36 w2.heap.size SagaD.zero (w2.alloc (.cells #[.string ⟨#[]⟩, .slice none 0 0, .int .i64 0, .int .i64 0, .int .i64 0, .bool false, .bool false, .bool false, .bool false, .bool false, .bool false, .bool false, .bool false] 36 (0, 0)))) := heap_alloc_new _ _
  have L2b : Hid (Later w2 (w2.alloc (.cells #[.string ⟨#[]⟩, .slice none 0 0, .int .i64 0, .int .i64 0, .int .i64 0, .bool false, .bool false, .bool false, .bool false, .bool false, .bool false, .bool false, .bool false] 36 (0, 0)))) := (Below.refl _ _).alloc (Nat.le_refl _) _
  have L2 : Hid (Later W1 w2) := hl2
  clear hl2 C
  go_wp2_with (refine wpList_store_saga (s := SagaD.zero) (by rfl) _ _ (by rfl) (by rfl) T2.out (by rfl) ?_)
  intro w3 X3 G3
  have L3a : Later w2 w3 := L2b.out.grown G3 (by simp) (fun k hk => by have := Option.some.inj hk; omega)
  have L3b : Later W1 w2 := L2.out
  have L3 : Hid (Later W1 w3) := Later.trans L3b L3a
  have Y3 : Hid (RBox (d + 1) (errR 0) w3) := Y1.out.below L3.out
  clear X3 G3 L3a L3b
  go_wp2_with (refine wpList_store_rep (r := errR e9) (by rfl) _ _ (by rfl) (by rfl) Y3.out (by rfl) ?_)
  intro w9 Z9 G9
  have HZ := hide Z9
  have T9 : Hid (Turned (fun i => i = d + 1) w3 w9) := Turned.of_grown G9 (fun g e => (Option.some.inj e).symm)
  clear Z9 G9
  go_wp2
  refine bodyPost_ret (results_cell_row Tryz.results33 _ _ (d + 1) 44 _ (0, 0) _ (by rfl) HZ.out Tryz.underlying44 (by rfl) (by kernel_rfl)) (by rfl) ?_
  have B9 := (H1.out.later L3.out).turned T9.out (by have := HYG.out; omega) (by have := HYG.out; omega) (fun i hi => hi.2)
  have La : Later w W1 := L1.out
  have Lb : Later w w3 := Later.trans La L3.out
  exact ⟨rfl, (B9.mono (fun i _ hf => hf.1) HA.out.2.1 HA.out.2.2).more (by omega), (Turned.of_below Lb _).onto T9.out (fun i hi => .inr (by have := HY.out; omega))⟩
set_option maxHeartbeats 4000000 in
set_option maxRecDepth 100000 in
theorem start_full {F0 : Nat → Prop} {name : ByteArray} {A : Option Addr} {n c : Nat} {l : List StepD} (h : BookAt F w g b k most t) (hn : t.L.length ≤ 1000000) (hst : StepsAt F0 w (.slice A n c) l) (he : (checkF name l).2 = 0) (hfu : fullB t.L most 0 = true) :
    Calls Tryz.prog 33 #[.pointer (some ⟨g, 0, none⟩), .agg #[.string name, .slice A n c]] w (Did F g b (k + 1) most (errR 7) t w) := by
  have hlt := h.lt
  obtain ⟨W1, hW1⟩ : ∃ W1, W1 = (w.alloc (.cells #[.string name, .slice A n c] 31 (0, 0))).alloc (.cells #[.int .i64 0, .int .i64 0, .int .i64 0, .int .i64 0] 44 (0, 0)) := ⟨_, rfl⟩
  obtain ⟨d, hd⟩ : ∃ d, d = w.heap.size := ⟨_, rfl⟩
  have X1 : Hid (DefBox d name (.slice A n c) W1) := by rw [hW1, hd]; exact (heap_alloc_old _ _ (by simp)).trans (heap_alloc_new _ _)
  have Y1 : Hid (RBox (d + 1) (errR 0) W1) := by rw [hW1, hd]; exact heap_second _ _ _
  have L1 : Hid (Later w W1) := by rw [hW1]; exact ((Below.refl _ _).alloc (Nat.le_refl _) _).alloc (by simp) _
  have HYG : Hid (g < d + 1 ∧ b < d + 1) := by rw [hd]; exact ⟨by omega, by omega⟩
  have HY : Hid (w.heap.size ≤ d + 1) := by rw [hd]; exact Nat.le_succ _
  have HYW : Hid (d + 1 < W1.heap.size) := lt_of_block Y1.out
  have h1 : BookAt (fun i => F i ∧ i ≠ d + 1) W1 g b k most t := (h.mono (G := fun i => F i ∧ i ≠ d + 1) (fun i hi hf => ⟨hf, by omega⟩) (fun e => h.apart.2.1 e.1) (fun e => h.apart.2.2 e.1)).later L1.out
  have H1 := hide h1
  have HA := hide h.apart
  have hst1 := StepsAt.kept hst (Kept.of_below L1.out _)
  have c0 : W1.cell? ⟨d, 0, none⟩ = some (.string name) := X1.out.name_
  have c1 : W1.cell? ⟨d, 1, none⟩ = some (.slice A n c) := X1.out.steps
  rw [hW1, hd] at c0 c1
  have C := hide (begin_ok hst1 he)
  have HE := hide he
  clear he
  have HW1 := hide hW1.symm
  have HG := hide hd.symm
  clear h hst hst1 hW1 hd h1 hlt
  go_enter Tryz.func33, Tryz.ntmps33
  go_wp2_with (fail)
  simp only [HW1.out, HG.out]
  refine C.out.mono ?_
  rintro e w2 ⟨p, m, q, rfl, hs, hl2⟩
  obtain ⟨s2, hs2⟩ : ∃ s2, SagaD.mk name p m q 1 1 1 (upH 0) = s2 := ⟨_, rfl⟩
  rw [hs2]
  have HS2 := hide hs2
  have HS := hide hs
  have T2 : Hid (SBox 36 w2.heap.size SagaD.zero (w2.alloc (.cells #[.string ⟨#[]⟩, .slice none 0 0, .int .i64 0, .int .i64 0, .int .i64 0, .bool false, .bool false, .bool false, .bool false, .bool false, .bool false, .bool false, .bool false] 36 (0, 0)))) := heap_alloc_new _ _
  have L2b : Hid (Later w2 (w2.alloc (.cells #[.string ⟨#[]⟩, .slice none 0 0, .int .i64 0, .int .i64 0, .int .i64 0, .bool false, .bool false, .bool false, .bool false, .bool false, .bool false, .bool false, .bool false] 36 (0, 0)))) := (Below.refl _ _).alloc (Nat.le_refl _) _
  have L2 : Hid (Later W1 w2) := hl2
  clear hl2 C hs hs2
  go_wp2_with (refine wpList_store_saga (s := s2) (by rfl) _ _ (by rfl) (by rfl) T2.out (by rfl) ?_)
  intro w3 X3 G3
  have HX3 := hide X3
  have L3a : Later w2 w3 := L2b.out.grown G3 (by simp) (fun k hk => by have := Option.some.inj hk; omega)
  have L3b : Later W1 w2 := L2.out
  have L3 : Hid (Later W1 w3) := Later.trans L3b L3a
  have L23 : Hid (Later w2 w3) := L3a
  have Y3 : Hid (RBox (d + 1) (errR 0) w3) := Y1.out.below L3.out
  have H3 := hide (H1.out.later L3.out)
  have CF := hide (full_any 0 H3.out hn)
  obtain ⟨fb, hfb⟩ : ∃ fb, fullB t.L most 0 = fb := ⟨_, rfl⟩
  rw [hfb] at CF
  clear X3 G3 L3a L3b
  rw [hfu] at hfb
  subst hfb
  clear hfu HE
  go_wp2_with (fail)
  refine CF.out.mono ?_
  rintro e w4 ⟨rfl, hl4⟩
  have L4a : Later W1 w3 := L3.out
  have L4 : Hid (Later W1 w4) := Later.trans L4a hl4
  have Y4 : Hid (RBox (d + 1) (errR 0) w4) := Y1.out.below L4.out
  clear hl4 L4a CF
  go_wp2_with (refine wpList_store_rep (r := errR 7) (by rfl) _ _ (by rfl) (by rfl) Y4.out (by rfl) ?_)
  intro w9 Z9 G9
  have HZ := hide Z9
  have T9 : Hid (Turned (fun i => i = d + 1) w4 w9) := Turned.of_grown G9 (fun g e => (Option.some.inj e).symm)
  clear Z9 G9
  go_wp2
  refine bodyPost_ret (results_cell_row Tryz.results33 _ _ (d + 1) 44 _ (0, 0) _ (by rfl) HZ.out Tryz.underlying44 (by rfl) (by kernel_rfl)) (by rfl) ?_
  have B9 := (H1.out.later L4.out).turned T9.out (by have := HYG.out; omega) (by have := HYG.out; omega) (fun i hi => hi.2)
  have La : Later w W1 := L1.out
  have Lb : Later w w4 := Later.trans La L4.out
  exact ⟨rfl, (B9.mono (fun i _ hf => hf.1) HA.out.2.1 HA.out.2.2).more (by omega), (Turned.of_below Lb _).onto T9.out (fun i hi => .inr (by have := HY.out; omega))⟩
set_option maxHeartbeats 4000000 in
set_option maxRecDepth 100000 in
theorem start_ok {F0 : Nat → Prop} {name : ByteArray} {A : Option Addr} {n c : Nat} {l : List StepD} (h : BookAt F w g b k most t) (hk : k ≤ 1000000) (hn : t.L.length ≤ 1000000) (hst : StepsAt F0 w (.slice A n c) l) (hw : ∀ a ∈ l, a.wf) (he : (checkF name l).2 = 0) (hfu : fullB t.L most 0 = false)
    (hla : t.last < 4611686018427387904) (hF : ∀ i, w.heap.size ≤ i → F i) :
    Calls Tryz.prog 33 #[.pointer (some ⟨g, 0, none⟩), .agg #[.string name, .slice A n c]] w (Did F g b (k + 1) most ⟨0, t.last + 1, 1, 1⟩ ⟨t.last + 1, putE (newE (t.last + 1) name l) (roomF t.L)⟩ w) := by
  have HOK := hide (newE_ok (id := t.last + 1) he hw (by have := h.ok.2.2.1; omega))
  have HIX : Hid ((newE (t.last + 1) name l).id ≤ 4611686018427387904) := by show t.last + 1 ≤ _; omega
  have hl0 := h.ok.2.2.1
  have HF := hide hF
  have HRISE := hide (roomF_rise h.ok.1)
  clear hF hw
  obtain ⟨la, hlast⟩ : ∃ la, t.last = la := ⟨_, rfl⟩
  rw [hlast] at HOK HIX hla hl0 ⊢
  have HLA := hide hlast
  clear hlast
  have hlt := h.lt
  obtain ⟨W1, hW1⟩ : ∃ W1, W1 = (w.alloc (.cells #[.string name, .slice A n c] 31 (0, 0))).alloc (.cells #[.int .i64 0, .int .i64 0, .int .i64 0, .int .i64 0] 44 (0, 0)) := ⟨_, rfl⟩
  obtain ⟨d, hd⟩ : ∃ d, d = w.heap.size := ⟨_, rfl⟩
  have X1 : Hid (DefBox d name (.slice A n c) W1) := by rw [hW1, hd]; exact (heap_alloc_old _ _ (by simp)).trans (heap_alloc_new _ _)
  have Y1 : Hid (RBox (d + 1) (errR 0) W1) := by rw [hW1, hd]; exact heap_second _ _ _
  have L1 : Hid (Later w W1) := by rw [hW1]; exact ((Below.refl _ _).alloc (Nat.le_refl _) _).alloc (by simp) _
  have HYG : Hid (g < d + 1 ∧ b < d + 1) := by rw [hd]; exact ⟨by omega, by omega⟩
  have HY : Hid (w.heap.size ≤ d + 1) := by rw [hd]; exact Nat.le_succ _
  have HYW : Hid (d + 1 < W1.heap.size) := lt_of_block Y1.out
  have h1 : BookAt (fun i => F i ∧ i ≠ d + 1) W1 g b k most t := (h.mono (G := fun i => F i ∧ i ≠ d + 1) (fun i hi hf => ⟨hf, by omega⟩) (fun e => h.apart.2.1 e.1) (fun e => h.apart.2.2 e.1)).later L1.out
  have H1 := hide h1
  have HA := hide h.apart
  have hst1 := StepsAt.kept hst (Kept.of_below L1.out _)
  have c0 : W1.cell? ⟨d, 0, none⟩ = some (.string name) := X1.out.name_
  have c1 : W1.cell? ⟨d, 1, none⟩ = some (.slice A n c) := X1.out.steps
  rw [hW1, hd] at c0 c1
  have C := hide (begin_ok hst1 he)
  have HE := hide he
  clear he
  have HW1 := hide hW1.symm
  have HG := hide hd.symm
  clear h hst hst1 hW1 hd h1 hlt
  go_enter Tryz.func33, Tryz.ntmps33
  go_wp2_with (fail)
  simp only [HW1.out, HG.out]
  refine C.out.mono ?_
  rintro e w2 ⟨p, m, q, rfl, hs, hl2⟩
  obtain ⟨s2, hs2⟩ : ∃ s2, SagaD.mk name p m q 1 1 1 (upH 0) = s2 := ⟨_, rfl⟩
  rw [hs2]
  have HS2 := hide hs2
  have HS := hide hs
  have T2 : Hid (SBox 36 w2.heap.size SagaD.zero (w2.alloc (.cells #[.string ⟨#[]⟩, .slice none 0 0, .int .i64 0, .int .i64 0, .int .i64 0, .bool false, .bool false, .bool false, .bool false, .bool false, .bool false, .bool false, .bool false] 36 (0, 0)))) := heap_alloc_new _ _
  have L2b : Hid (Later w2 (w2.alloc (.cells #[.string ⟨#[]⟩, .slice none 0 0, .int .i64 0, .int .i64 0, .int .i64 0, .bool false, .bool false, .bool false, .bool false, .bool false, .bool false, .bool false, .bool false] 36 (0, 0)))) := (Below.refl _ _).alloc (Nat.le_refl _) _
  have L2 : Hid (Later W1 w2) := hl2
  clear hl2 C hs hs2
  go_wp2_with (refine wpList_store_saga (s := s2) (by rfl) _ _ (by rfl) (by rfl) T2.out (by rfl) ?_)
  intro w3 X3 G3
  have HX3 := hide X3
  have L3a : Later w2 w3 := L2b.out.grown G3 (by simp) (fun k hk => by have := Option.some.inj hk; omega)
  have L3b : Later W1 w2 := L2.out
  have L3 : Hid (Later W1 w3) := Later.trans L3b L3a
  have L23 : Hid (Later w2 w3) := L3a
  have Y3 : Hid (RBox (d + 1) (errR 0) w3) := Y1.out.below L3.out
  have H3 := hide (H1.out.later L3.out)
  have CF := hide (full_any 0 H3.out hn)
  obtain ⟨fb, hfb⟩ : ∃ fb, fullB t.L most 0 = fb := ⟨_, rfl⟩
  rw [hfb] at CF
  clear X3 G3 L3a L3b
  rw [hfu] at hfb
  subst hfb
  clear hfu HE
  go_wp2_with (fail)
  refine CF.out.mono ?_
  rintro e w4 ⟨rfl, hl4⟩
  have L4a : Later W1 w3 := L3.out
  have L4 : Hid (Later W1 w4) := Later.trans L4a hl4
  have L34 : Hid (Later w3 w4) := hl4
  have CR := hide (room_any (H3.out.later hl4) hn)
  clear hl4 L4a CF
  go_wp2_with (fail)
  refine CR.out.mono ?_
  rintro e w5 ⟨rfl, hb5, ht5⟩
  have H5 := hide hb5
  have T5 := hide ht5
  have hc1 := hb5.c1
  have hf1 := hb5.thaw 1
  rw [show (BkS.mk t.last (roomF t.L)).last = la from HLA.out] at hc1
  obtain ⟨W6, hW6⟩ : ∃ W6, W6 = w5.setCell ⟨g, 1, none⟩ (.int .i64 (la + 1)) := ⟨_, rfl⟩
  have H6 : Hid (BookAt (fun i => F i ∧ i ≠ d + 1) W6 g b k most ⟨la + 1, roomF t.L⟩) := by rw [hW6]; exact hb5.setLast (la + 1) (by omega) (by omega)
  have T6 : Hid (Turned (fun i => i = g) w5 W6) := by rw [hW6]; exact turned_setCell _ _ _ _
  have HB2 : Hid (b ≠ w2.heap.size ∧ g ≠ w2.heap.size) := by
    have a1 := (H1.out.later L2.out).lt
    exact ⟨Nat.ne_of_lt a1.2, Nat.ne_of_lt a1.1⟩
  have X6 : Hid (SBox 36 w2.heap.size s2 W6) := by
    have a1 : w4.heap[w2.heap.size]? = some (.cells s2.cells.toArray 36 (0, 0)) := HX3.out.below L34.out
    have a2 := (T5.out.block w2.heap.size (lt_of_block a1) (fun e => HB2.out.1 e.symm)).trans a1
    exact (T6.out.block w2.heap.size (lt_of_block a2) (fun e => HB2.out.2 e.symm)).trans a2
  have HW6 := hide hW6.symm
  clear hW6 hb5 ht5 CR
  go_wp2_with (fail)
  rw [HW6.out]
  obtain ⟨f, hm6, hf6⟩ := H6.out.body
  have HM6 : Hid (W6.drew.ownsMap Tryz.prog 3 heldR b k (mapD ((roomF t.L).map (pairE f)))) := hm6.drew
  have HF6 : Hid (∀ y ∈ roomF t.L, StepsAt _ W6.drew (f y.id).v y.l) := fun y hy => StepsAt.kept (hf6 y hy) (Kept.drew _ _)
  have HS6 : Hid (StepsAt (fun i => F i ∧ i ≠ d + 1) W6.drew (.slice p m q) l) := by
    have g1 : StepsAt (fun i => W1.heap.size ≤ i ∧ i ≠ g ∧ i ≠ b) w2 (.slice p m q) l := StepsAt.mono HS.out fun i _ hi => by
      have a1 : W1.heap.size ≤ i := hi
      have a2 := H1.out.lt
      exact ⟨a1, by omega, by omega⟩
    have g2 := StepsAt.kept (StepsAt.kept g1 (Kept.of_below L23.out _)) (Kept.of_below L34.out _)
    have g3 := StepsAt.kept g2 (T5.out.kept fun i hi e => hi.2.2 e)
    have g4 := StepsAt.kept (StepsAt.kept g3 (T6.out.kept fun i hi e => hi.2.1 e)) (Kept.drew _ _)
    refine StepsAt.mono g4 fun i _ hi => ?_
    have a3 := HYW.out
    have a4 := Below.size L1.out
    exact ⟨HF.out i (by omega), by omega⟩
  have C61 : Hid (W6.cell? ⟨g, 1, none⟩ = some (.int .i64 (la + 1))) := H6.out.c1
  have C62 : Hid (W6.cell? ⟨g, 2, none⟩ = some (.map (some b))) := H6.out.c2
  have HGB : Hid (g < W6.heap.size ∧ b < W6.heap.size) := H6.out.lt
  have HV2 : Hid (((newE (la + 1) name l).s.withV p m q).val = s2.val) := by show _ = _; rw [← HS2.out]; rfl
  clear hm6 hf6 hc1 hf1
  refine wp_region_R (R := fun a c => a.grownBy c (some b)) (by kernel_rfl) ?_
  refine wpAnyR_take (pre_grown (some b)) (i := 0) (d := some 30) (v := ?vaa0) rfl rfl (by kernel_rfl) (by kernel_rfl) (by kernel_rfl) (fun _ _ _ h => h) (by rfl) ?yaa0 ?_
  case yaa0 => (intro w' hw'; go_simp; try (with_reducible rfl))
  simp only [Act.put]; try simp only [List.setIfInBounds_toArray]; try simp only [List.set_cons_zero, List.set_cons_succ]
  refine wpAnyR_take (pre_grown (some b)) (i := 1) (d := some 31) (v := ?vaa1) rfl rfl (by kernel_rfl) (by kernel_rfl) (by kernel_rfl) (fun _ _ _ h => h) (by rfl) ?yaa1 ?_
  case yaa1 => (intro w' hw'; go_simp; try (with_reducible rfl))
  simp only [Act.put]; try simp only [List.setIfInBounds_toArray]; try simp only [List.set_cons_zero, List.set_cons_succ]
  refine wpAnyR_take (pre_grown (some b)) (i := 2) (d := some 32) (v := ?vaa2) rfl rfl (by kernel_rfl) (by kernel_rfl) (by kernel_rfl) (fun _ _ _ h => h) (by rfl) ?yaa2 ?_
  case yaa2 => (intro w' hw'; go_simp; try (with_reducible rfl))
  simp only [Act.put]; try simp only [List.setIfInBounds_toArray]; try simp only [List.set_cons_zero, List.set_cons_succ]
  refine wpAnyR_take (pre_grown (some b)) (i := 3) (d := some 33) (v := ?vaa3) rfl rfl (by kernel_rfl) (by kernel_rfl) (by kernel_rfl) (fun _ _ _ h => h) (by rfl) ?yaa3 ?_
  case yaa3 => (intro w' hw'; have hgc : W6.drew.grownBy w' (some b) := hw'; have hbg := hgc.block g HGB.out.1 (fun e => HA.out.1 (Option.some.inj e)); have hc2 : w'.cell? ⟨g, 2, none⟩ = some (.map (some b)) := (World.cell?_of_block hbg).trans C62.out; go_simp; try (with_reducible rfl))
  simp only [Act.put]; try simp only [List.setIfInBounds_toArray]; try simp only [List.set_cons_zero, List.set_cons_succ]
  refine wpAnyR_take (pre_grown (some b)) (i := 4) (d := some 34) (v := ?vaa4) rfl rfl (by kernel_rfl) (by kernel_rfl) (by kernel_rfl) (fun _ _ _ h => h) (by rfl) ?yaa4 ?_
  case yaa4 => (intro w' hw'; go_simp; try (with_reducible rfl))
  simp only [Act.put]; try simp only [List.setIfInBounds_toArray]; try simp only [List.set_cons_zero, List.set_cons_succ]
  refine wpAnyR_take (pre_grown (some b)) (i := 5) (d := some 35) (v := ?vaa5) rfl rfl (by kernel_rfl) (by kernel_rfl) (by kernel_rfl) (fun _ _ _ h => h) (by rfl) ?yaa5 ?_
  case yaa5 => (intro w' hw'; go_simp; try (with_reducible rfl))
  simp only [Act.put]; try simp only [List.setIfInBounds_toArray]; try simp only [List.set_cons_zero, List.set_cons_succ]
  refine wpAnyR_take (pre_grown (some b)) (i := 6) (d := some 36) (v := ?vaa6) rfl rfl (by kernel_rfl) (by kernel_rfl) (by kernel_rfl) (fun _ _ _ h => h) (by rfl) ?yaa6 ?_
  case yaa6 => (intro w' hw'; go_simp; try (with_reducible rfl))
  simp only [Act.put]; try simp only [List.setIfInBounds_toArray]; try simp only [List.set_cons_zero, List.set_cons_succ]
  refine wpAnyR_take (pre_grown (some b)) (i := 7) (d := some 37) (v := ?vaa7) rfl rfl (by kernel_rfl) (by kernel_rfl) (by kernel_rfl) (fun _ _ _ h => h) (by rfl) ?yaa7 ?_
  case yaa7 => (intro w' hw'; have hgc : W6.drew.grownBy w' (some b) := hw'; have hbg := hgc.block g HGB.out.1 (fun e => HA.out.1 (Option.some.inj e)); have hc1 : w'.cell? ⟨g, 1, none⟩ = some (.int .i64 (la + 1)) := (World.cell?_of_block hbg).trans C61.out; go_simp; try (with_reducible rfl))
  simp only [Act.put]; try simp only [List.setIfInBounds_toArray]; try simp only [List.set_cons_zero, List.set_cons_succ]
  refine wpAnyR_take (pre_grown (some b)) (i := 8) (d := some 38) (v := s2.val) rfl rfl (by kernel_rfl) (by kernel_rfl) (by kernel_rfl) (fun _ _ _ h => h) (by rfl) ?yaa8 ?_
  case yaa8 => (intro w' hw'; have hgc : W6.drew.grownBy w' (some b) := hw'; exact exec_load_saga _ (by rfl) (by rfl) (show SBox 36 w2.heap.size s2 w' from (hgc.block w2.heap.size (SBox.lt X6.out) (fun e => HB2.out.1 (Option.some.inj e).symm)).trans X6.out))
  simp only [Act.put]; try simp only [List.setIfInBounds_toArray]; try simp only [List.set_cons_zero, List.set_cons_succ]
  refine wpAnyR_only (i := 9) rfl (by kernel_rfl) (by rfl) fun K hK => ?_
  refine wp_mapUpdate_any _ _ _ 77 (by rfl) 3 36 Tryz.int_law Tryz.underlying77 b k ((roomF t.L).map (pairE f)) (by rfl) HM6.out (by unfold maxLen; omega) (la + 1) s2.val (by rfl) (by rfl) (int_key ⟨by omega, by omega⟩) ?_
  intro w7 ho7 ht7
  have hp7 := (H6.out.later (Later.drew W6)).put (x := newE (la + 1) name l) (p := p) (n := m) (c := q) HF6.out (by rw [show ((newE (la + 1) name l).s.withV p m q).val = s2.val from HV2.out]; exact ho7) ht7 HS6.out HOK.out HIX.out
  have HP7 := hide hp7
  have T7 : Hid (Turned (fun i => i = b) W6 w7) := Turned.of_drew (Turned.of_grown ht7.grown (fun g e => (Option.some.inj e).symm))
  refine hK.out _ _ ht7.grown ?_
  clear hp7 ho7 ht7
  clear hK K
  try simp only [Act.put]
  refine wpAnyR_done (by kernel_rfl) ?_ _
  have d1 := HP7.out.c1
  have CS := hide (status_any (id := la + 1) HP7.out ⟨by omega, by omega⟩)
  have hsp := statusF_put (L := roomF t.L) (newE (la + 1) name l) HRISE.out
  have hsp2 : statusF (putE (newE (la + 1) name l) (roomF t.L)) (la + 1) = ⟨0, la + 1, 1, 1⟩ := hsp
  simp only at CS d1
  rw [hsp2] at CS
  have HYG7 : Hid (d + 1 ≠ g ∧ d + 1 ≠ b) := ⟨by have := HYG.out; omega, by have := HYG.out; omega⟩
  have Y4 : RBox (d + 1) (errR 0) w4 := Y1.out.below L4.out
  have Y5 := (Y4.turned T5.out HYG7.out.2).turned T6.out HYG7.out.1
  have Y7 : Hid (RBox (d + 1) (errR 0) w7) := Y5.turned T7.out HYG7.out.2
  clear hsp hsp2 Y4 Y5
  go_wp2_with (fail)
  refine CS.out.mono ?_
  rintro e w8 ⟨rfl, hl8⟩
  have HP8 := hide (HP7.out.later hl8)
  have Y8 : Hid (RBox (d + 1) (errR 0) w8) := Y7.out.below hl8
  have T8 : Hid (Turned (fun i => i = b) W6 w8) := T7.out.trans (Turned.of_below hl8 _)
  clear hl8 CS d1
  go_wp2_with (refine wpList_store_rep (r := ⟨0, la + 1, 1, 1⟩) (by rfl) _ _ (by rfl) (by rfl) Y8.out (by rfl) ?_)
  intro w9 Z9 G9
  have HZ := hide Z9
  have T9 : Hid (Turned (fun i => i = d + 1) w8 w9) := Turned.of_grown G9 (fun g e => (Option.some.inj e).symm)
  clear Z9 G9
  go_wp2
  refine bodyPost_ret (results_cell_row Tryz.results33 _ _ (d + 1) 44 _ (0, 0) _ (by rfl) HZ.out Tryz.underlying44 (by rfl) (by kernel_rfl)) (by rfl) ?_
  have B9 := (HP8.out).turned T9.out (by have := HYG.out; omega) (by have := HYG.out; omega) (fun i hi => hi.2)
  have La : Later w W1 := L1.out
  have Lb : Later w w4 := Later.trans La L4.out
  have Ta : Turned (fun i => i = g ∨ i = b) w w4 := Turned.of_below Lb _
  have Tb : Turned (fun i => i = g ∨ i = b) w w5 := Ta.trans (T5.out.mono (fun i hi => .inr hi))
  have Tc : Turned (fun i => i = g ∨ i = b) w W6 := Tb.trans (T6.out.mono (fun i hi => .inl hi))
  have Td : Turned (fun i => i = g ∨ i = b) w w8 := Tc.trans (T8.out.mono (fun i hi => .inr hi))
  exact ⟨rfl, B9.mono (fun i _ hf => hf.1) HA.out.2.1 HA.out.2.2, Td.onto T9.out (fun i hi => .inr (by have := HY.out; omega))⟩
theorem start_any {F0 : Nat → Prop} {name : ByteArray} {A : Option Addr} {n c : Nat} {l : List StepD} (h : BookAt F w g b k most t) (hk : k ≤ 1000000) (hn : t.L.length ≤ 1000000) (hst : StepsAt F0 w (.slice A n c) l) (hw : ∀ a ∈ l, a.wf)
    (hla : t.last < 4611686018427387904) (hF : ∀ i, w.heap.size ≤ i → F i) :
    Calls Tryz.prog 33 #[.pointer (some ⟨g, 0, none⟩), .agg #[.string name, .slice A n c]] w (Did F g b (k + 1) most (startR most t name l) (startS most t name l) w) := by
  have hf0 : fullB t.L most 0 = decide (most ≤ (openN t.L : Int)) := by unfold fullB; rw [another_zero (fun x hx => (h.ok.2.1 x hx).1.2.2.2)]
  unfold startR startS
  by_cases he : (checkF name l).2 ≠ 0
  · rw [if_pos he, if_pos he]
    exact start_err h hst he
  · rw [if_neg he, if_neg he]
    by_cases hm : most ≤ (openN t.L : Int)
    · rw [if_pos hm, if_pos hm]
      exact start_full h hn hst (by simpa using he) (by rw [hf0]; simpa using hm)
    · rw [if_neg hm, if_neg hm]
      exact start_ok h hk hn hst hw (by simpa using he) (by rw [hf0]; simpa using hm) hla hF
end
end Go.Proofs.YtpicnoinnngpeaaGreat
/- An operation is applied: Apply of package book. -/
namespace Go.Proofs.YtpicnoinnngpeaaGreat
open Go.RowKit Go.Maps
section
variable {w : World}
set_option maxHeartbeats 4000000 in
set_option maxRecDepth 100000 in
theorem orlate_yes (s : SagaD) : Calls Tryz.prog 37 #[s.val, .bool true] w fun e w' => e = .returned (.tuple #[(s).val, .int .i64 0]) ∧ Later w w' := by
  obtain ⟨W1, hW1⟩ : ∃ W1, W1 = (w.alloc (.cells s.cells.toArray 36 (0, 0))).alloc (.cells #[.string ⟨#[]⟩, .slice none 0 0, .int .i64 0, .int .i64 0, .int .i64 0, .bool false, .bool false, .bool false, .bool false, .bool false, .bool false, .bool false, .bool false] 36 (0, 0)) := ⟨_, rfl⟩
  obtain ⟨d, hd⟩ : ∃ d, d = w.heap.size := ⟨_, rfl⟩
  have X1 : Hid (SBox 36 d s W1) := by rw [hW1, hd]; exact (heap_alloc_old _ _ (by simp)).trans (heap_alloc_new _ _)
  have Y1 : Hid (SBox 36 (d + 1) SagaD.zero W1) := by rw [hW1, hd]; exact heap_second _ _ _
  have L1 : Hid (Later w W1) := by rw [hW1]; exact ((Below.refl _ _).alloc (Nat.le_refl _) _).alloc (by simp) _
  have HY : Hid (w.heap.size ≤ d + 1) := by rw [hd]; exact Nat.le_succ _
  have xe := X1.out
  have ye := Y1.out
  rw [hW1, hd] at xe ye
  have XE := hide xe
  have YE := hide ye
  have HW1 := hide hW1.symm
  have HG := hide hd.symm
  clear hW1 hd xe ye
  go_enter Tryz.func37, Tryz.ntmps37
  go_wp2_with (first | (refine wpList_load_saga (by rfl) _ (by rfl) (by rfl) XE.out ?_; simp only [HW1.out, HG.out]) | (refine wpList_store_saga (s := s) (by rfl) _ _ (by rfl) (by rfl) Y1.out (by rfl) ?_; intro w3 Z3 G3))
  have HLF : Hid (Later w w3) := L1.out.grown G3 (Below.size L1.out) (fun k hk => by have := Option.some.inj hk; have := HY.out; omega)
  refine bodyPost_ret (results_box2 Tryz.results37 _ _ (d + 1) 36 _ _ (by rfl) Z3 Tryz.underlying36 (by rfl) (by kernel_rfl) (.int .i64 0) (by rfl)) (by rfl) ?_
  exact ⟨rfl, HLF.out⟩
set_option maxHeartbeats 4000000 in
set_option maxRecDepth 100000 in
theorem orlate_no (s : SagaD) : Calls Tryz.prog 37 #[s.val, .bool false] w fun e w' => e = .returned (.tuple #[(SagaD.zero).val, .int .i64 10]) ∧ Later w w' := by
  obtain ⟨W1, hW1⟩ : ∃ W1, W1 = (w.alloc (.cells s.cells.toArray 36 (0, 0))).alloc (.cells #[.string ⟨#[]⟩, .slice none 0 0, .int .i64 0, .int .i64 0, .int .i64 0, .bool false, .bool false, .bool false, .bool false, .bool false, .bool false, .bool false, .bool false] 36 (0, 0)) := ⟨_, rfl⟩
  obtain ⟨d, hd⟩ : ∃ d, d = w.heap.size := ⟨_, rfl⟩
  have X1 : Hid (SBox 36 d s W1) := by rw [hW1, hd]; exact (heap_alloc_old _ _ (by simp)).trans (heap_alloc_new _ _)
  have Y1 : Hid (SBox 36 (d + 1) SagaD.zero W1) := by rw [hW1, hd]; exact heap_second _ _ _
  have L1 : Hid (Later w W1) := by rw [hW1]; exact ((Below.refl _ _).alloc (Nat.le_refl _) _).alloc (by simp) _
  have HY : Hid (w.heap.size ≤ d + 1) := by rw [hd]; exact Nat.le_succ _
  have xe := X1.out
  have ye := Y1.out
  rw [hW1, hd] at xe ye
  have XE := hide xe
  have YE := hide ye
  have HW1 := hide hW1.symm
  have HG := hide hd.symm
  clear hW1 hd xe ye
  go_enter Tryz.func37, Tryz.ntmps37
  go_wp2_with (first | (refine wpList_load_saga (by rfl) _ (by rfl) (by rfl) XE.out ?_; simp only [HW1.out, HG.out]) | (refine wpList_store_saga (s := SagaD.zero) (by rfl) _ _ (by rfl) (by rfl) YE.out (by rfl) ?_; simp only [HW1.out, HG.out]; intro w3 Z3 G3))
  have HLF : Hid (Later w w3) := L1.out.grown G3 (Below.size L1.out) (fun k hk => by have := Option.some.inj hk; have := HY.out; omega)
  refine bodyPost_ret (results_box2 Tryz.results37 _ _ (d + 1) 36 _ _ (by rfl) Z3 Tryz.underlying36 (by rfl) (by kernel_rfl) (.int .i64 10) (by rfl)) (by rfl) ?_
  exact ⟨rfl, HLF.out⟩
/-- The block y holds an operation. -/
def OBox (y : Nat) (o : OpD) (sv : Value) (w : World) : Prop := w.heap[y]? = some (.cells (o.cells sv).toArray 33 (0, 0))
theorem OBox.below {y : Nat} {o : OpD} {sv : Value} {w w' : World} (h : OBox y o sv w) (hl : Later w w') : OBox y o sv w' := (Below.block hl y (lt_of_block h)).trans h
theorem OBox.turned {Q : Nat → Prop} {y : Nat} {o : OpD} {sv : Value} {w w' : World} (h : OBox y o sv w) (ht : Turned Q w w') (hq : ¬ Q y) : OBox y o sv w' := (ht.block y (lt_of_block h) hq).trans h
theorem OBox.at_ {y : Nat} {o : OpD} {sv : Value} {w : World} (h : OBox y o sv w) :
    w.cell? ⟨y, 0, none⟩ = some (.int .i64 o.kind) ∧ w.cell? ⟨y, 3, none⟩ = some (.string o.name) ∧ w.cell? ⟨y, 4, none⟩ = some sv ∧ w.cell? ⟨y, 5, none⟩ = some (.int .i64 o.saga) ∧ w.cell? ⟨y, 6, none⟩ = some (.int .i64 o.step) ∧ w.cell? ⟨y, 7, none⟩ = some (.int .i64 o.try_) ∧ w.cell? ⟨y, 8, none⟩ = some (.bool o.back) ∧ w.cell? ⟨y, 9, none⟩ = some (.bool o.good) :=
  ⟨cell_of_row w y 0 _ _ _ h, cell_of_row w y 3 _ _ _ h, cell_of_row w y 4 _ _ _ h, cell_of_row w y 5 _ _ _ h, cell_of_row w y 6 _ _ _ h, cell_of_row w y 7 _ _ _ h, cell_of_row w y 8 _ _ _ h, cell_of_row w y 9 _ _ _ h⟩
theorem withV_twice (s : SagaD) (p q : Option Addr) (n c m d : Nat) : (s.withV p n c).withV q m d = s.withV q m d := rfl
theorem downS_withV (l : List StepD) (s : SagaD) (p : Option Addr) (n c : Nat) : downS l (s.withV p n c) = (downS l s).withV p n c := by
  unfold downS
  show (if downF l s.hit.l s.step = 0 then _ else _) = _
  split <;> rfl
theorem failsS_withV (l : List StepD) (s : SagaD) (p : Option Addr) (n c : Nat) : failsS l (s.withV p n c) = (failsS l s).withV p n c := by
  unfold failsS
  rw [downS_withV]
  show (if sealedS l s then _ else _) = _
  split <;> rfl
theorem missedS_withV (l : List StepD) (s : SagaD) (p : Option Addr) (n c : Nat) : missedS l (s.withV p n c) = (missedS l s).withV p n c := by
  unfold missedS
  rw [failsS_withV]
  show (if s.tr < triesN l s.step then _ else if s.st = 2 then _ else _) = _
  split
  · rfl
  · split <;> rfl
theorem nextS_withV (l : List StepD) (s : SagaD) (p : Option Addr) (n c : Nat) : nextS l (s.withV p n c) = (nextS l s).withV p n c := by
  unfold nextS
  show (if s.step = (l.length : Int) then _ else _) = _
  split <;> rfl
theorem hitN_withV (s : SagaD) (b : Bool) (p : Option Addr) (n c : Nat) : (s.withV p n c).hitN b = (s.hitN b).withV p n c := rfl
theorem reportE_withV (l : List StepD) (s : SagaD) (back good : Bool) (p : Option Addr) (n c : Nat) : reportE l (s.withV p n c) back good = (reportE l s back good).withV p n c := by
  unfold reportE
  rw [hitN_withV, hitN_withV, downS_withV, nextS_withV, missedS_withV]
  split
  · split <;> rfl
  · rfl
theorem lapseE_withV (l : List StepD) (s : SagaD) (p : Option Addr) (n c : Nat) : lapseE l (s.withV p n c) = (lapseE l s).withV p n c := by
  unfold lapseE
  rw [hitN_withV, missedS_withV]
theorem cancelF_withV (l : List StepD) (s : SagaD) (p q : Option Addr) (n c m d : Nat) : (cancelF l (s.withV p n c)).1.withV q m d = (cancelF l s).1.withV q m d ∧ (cancelF l (s.withV p n c)).2 = (cancelF l s).2 := by
  unfold cancelF
  rw [hitN_withV, failsS_withV]
  show (if goodF l s then (if s.st = 2 then _ else if lateB l s then _ else _) else _ : SagaD × Int).1.withV q m d = _ ∧ (if goodF l s then (if s.st = 2 then _ else if lateB l s then _ else _) else _ : SagaD × Int).2 = _
  split
  · split
    · exact ⟨rfl, rfl⟩
    · split
      · exact ⟨rfl, rfl⟩
      · exact ⟨rfl, rfl⟩
  · exact ⟨rfl, rfl⟩
set_option maxHeartbeats 4000000 in
set_option maxRecDepth 100000 in
theorem rep_ev_yes {F : Nat → Prop} {s : SagaD} {l : List StepD} {y : Nat} {o : OpD} {sv : Value} (h : StepsAt F w s.v l) (hl6 : l.length ≤ 1000000) (hw : ∀ x ∈ l, x.wf) (h1 : I64 s.step) (ho : OBox y o sv w) (hit : isIt l s o.step o.try_ o.back = true) :
    Calls Tryz.prog 36 #[s.val, .pointer (some ⟨y, 0, none⟩)] w fun e w' => ∃ p n c, e = .returned (.tuple #[((reportE l s o.back o.good).withV p n c).val, .int .i64 0]) ∧ StepsAt (w.heap.size ≤ ·) w' (.slice p n c) l ∧ Later w w' := by
  obtain ⟨W1, hW1⟩ : ∃ W1, W1 = (w.alloc (.cells s.cells.toArray 36 (0, 0))).alloc (.cells #[.string ⟨#[]⟩, .slice none 0 0, .int .i64 0, .int .i64 0, .int .i64 0, .bool false, .bool false, .bool false, .bool false, .bool false, .bool false, .bool false, .bool false] 36 (0, 0)) := ⟨_, rfl⟩
  obtain ⟨d, hd⟩ : ∃ d, d = w.heap.size := ⟨_, rfl⟩
  have X1 : Hid (SBox 36 d s W1) := by rw [hW1, hd]; exact (heap_alloc_old _ _ (by simp)).trans (heap_alloc_new _ _)
  have Y1 : Hid (SBox 36 (d + 1) SagaD.zero W1) := by rw [hW1, hd]; exact heap_second _ _ _
  have L1 : Hid (Later w W1) := by rw [hW1]; exact ((Below.refl _ _).alloc (Nat.le_refl _) _).alloc (by simp) _
  have HY : Hid (w.heap.size ≤ d + 1) := by rw [hd]; exact Nat.le_succ _
  have HYW : Hid (d + 1 < W1.heap.size) := SBox.lt Y1.out
  obtain ⟨_, _, _, _, c6, c7, c8, c9⟩ := (ho.below L1.out).at_
  have C := hide (report_any (step := o.step) (tr := o.try_) (back := o.back) (good := o.good) (StepsAt.kept h (Kept.of_below L1.out _)) hl6 hw h1)
  unfold reportF at C
  rw [hit] at C
  rw [if_pos rfl] at C
  have xe := X1.out
  rw [hW1, hd] at xe
  have XE := hide xe
  obtain ⟨s2, hs2⟩ : ∃ s2, reportE l s o.back o.good = s2 := ⟨_, rfl⟩
  rw [hs2] at C ⊢
  have HW1 := hide hW1.symm
  have HG := hide hd.symm
  clear hW1 hd xe h hl6 hw h1 ho hit hs2
  go_enter Tryz.func36, Tryz.ntmps36
  go_wp2_with (refine wpList_load_saga (by rfl) _ (by rfl) (by rfl) XE.out ?_; simp only [HW1.out, HG.out])
  refine C.out.mono ?_
  rintro e w2 ⟨P, N, K, rfl, hs, hl⟩
  have S2 := hide hs
  have L2a : Later w W1 := L1.out
  have L2 : Hid (Later w w2) := Later.trans L2a hl
  have Y2 : Hid (SBox 36 (d + 1) SagaD.zero w2) := Y1.out.below hl
  clear hl hs L2a C c6 c7 c8 c9
  go_wp2_with (fail)
  refine (orlate_yes (w := w2) (s2.withV P N K)).mono ?_
  rintro e w3 ⟨rfl, hl3⟩
  have L3a : Later w w2 := L2.out
  have L3 : Hid (Later w w3) := Later.trans L3a hl3
  have Y3 : Hid (SBox 36 (d + 1) SagaD.zero w3) := Y2.out.below hl3
  have S3 : Hid (StepsAt (W1.heap.size ≤ ·) w3 (.slice P N K) l) := StepsAt.kept S2.out (Kept.of_below hl3 _)
  clear hl3 L3a
  go_wp2_with (refine wpList_store_saga (s := s2.withV P N K) (by rfl) _ _ (by rfl) (by rfl) Y3.out (by rfl) ?_)
  intro w4 Z4 G4
  have HZ := hide Z4
  have HLF : Hid (Later w w4) := L3.out.grown G4 (Below.size L3.out) (fun k hk => by have := Option.some.inj hk; have := HY.out; omega)
  have S4 : Hid (StepsAt (w.heap.size ≤ ·) w4 (.slice P N K) l) := FlatAt.mono (StepsAt.kept S3.out (Kept.of_grown G4 (fun k hk hf => by have a1 := Option.some.inj hk; have a2 : W1.heap.size ≤ k := hf; have := HYW.out; omega))) (fun i _ hf => by have a2 : W1.heap.size ≤ i := hf; have := Below.size L1.out; omega)
  clear Z4 G4
  go_wp2
  refine bodyPost_ret (results_box2 Tryz.results36 _ _ (d + 1) 36 _ _ (by rfl) HZ.out Tryz.underlying36 (by rfl) (by kernel_rfl) (.int .i64 0) (by rfl)) (by rfl) ?_
  exact ⟨P, N, K, rfl, S4.out, HLF.out⟩
set_option maxHeartbeats 4000000 in
set_option maxRecDepth 100000 in
theorem rep_ev_no {F : Nat → Prop} {s : SagaD} {l : List StepD} {y : Nat} {o : OpD} {sv : Value} (h : StepsAt F w s.v l) (hl6 : l.length ≤ 1000000) (hw : ∀ x ∈ l, x.wf) (h1 : I64 s.step) (ho : OBox y o sv w) (hit : isIt l s o.step o.try_ o.back = false) :
    Calls Tryz.prog 36 #[s.val, .pointer (some ⟨y, 0, none⟩)] w fun e w' => ∃ p n c, e = .returned (.tuple #[(SagaD.zero).val, .int .i64 10]) ∧ StepsAt (w.heap.size ≤ ·) w' (.slice p n c) l ∧ Later w w' := by
  obtain ⟨W1, hW1⟩ : ∃ W1, W1 = (w.alloc (.cells s.cells.toArray 36 (0, 0))).alloc (.cells #[.string ⟨#[]⟩, .slice none 0 0, .int .i64 0, .int .i64 0, .int .i64 0, .bool false, .bool false, .bool false, .bool false, .bool false, .bool false, .bool false, .bool false] 36 (0, 0)) := ⟨_, rfl⟩
  obtain ⟨d, hd⟩ : ∃ d, d = w.heap.size := ⟨_, rfl⟩
  have X1 : Hid (SBox 36 d s W1) := by rw [hW1, hd]; exact (heap_alloc_old _ _ (by simp)).trans (heap_alloc_new _ _)
  have Y1 : Hid (SBox 36 (d + 1) SagaD.zero W1) := by rw [hW1, hd]; exact heap_second _ _ _
  have L1 : Hid (Later w W1) := by rw [hW1]; exact ((Below.refl _ _).alloc (Nat.le_refl _) _).alloc (by simp) _
  have HY : Hid (w.heap.size ≤ d + 1) := by rw [hd]; exact Nat.le_succ _
  have HYW : Hid (d + 1 < W1.heap.size) := SBox.lt Y1.out
  obtain ⟨_, _, _, _, c6, c7, c8, c9⟩ := (ho.below L1.out).at_
  have C := hide (report_any (step := o.step) (tr := o.try_) (back := o.back) (good := o.good) (StepsAt.kept h (Kept.of_below L1.out _)) hl6 hw h1)
  unfold reportF at C
  rw [hit] at C
  rw [if_neg (by simp)] at C
  have xe := X1.out
  rw [hW1, hd] at xe
  have XE := hide xe
  have HW1 := hide hW1.symm
  have HG := hide hd.symm
  clear hW1 hd xe h hl6 hw h1 ho hit
  go_enter Tryz.func36, Tryz.ntmps36
  go_wp2_with (refine wpList_load_saga (by rfl) _ (by rfl) (by rfl) XE.out ?_; simp only [HW1.out, HG.out])
  refine C.out.mono ?_
  rintro e w2 ⟨P, N, K, rfl, hs, hl⟩
  have S2 := hide hs
  have L2a : Later w W1 := L1.out
  have L2 : Hid (Later w w2) := Later.trans L2a hl
  have Y2 : Hid (SBox 36 (d + 1) SagaD.zero w2) := Y1.out.below hl
  clear hl hs L2a C c6 c7 c8 c9
  go_wp2_with (fail)
  refine (orlate_no (w := w2) (s.withV P N K)).mono ?_
  rintro e w3 ⟨rfl, hl3⟩
  have L3a : Later w w2 := L2.out
  have L3 : Hid (Later w w3) := Later.trans L3a hl3
  have Y3 : Hid (SBox 36 (d + 1) SagaD.zero w3) := Y2.out.below hl3
  have S3 : Hid (StepsAt (W1.heap.size ≤ ·) w3 (.slice P N K) l) := StepsAt.kept S2.out (Kept.of_below hl3 _)
  clear hl3 L3a
  go_wp2_with (refine wpList_store_saga (s := SagaD.zero) (by rfl) _ _ (by rfl) (by rfl) Y3.out (by rfl) ?_)
  intro w4 Z4 G4
  have HZ := hide Z4
  have HLF : Hid (Later w w4) := L3.out.grown G4 (Below.size L3.out) (fun k hk => by have := Option.some.inj hk; have := HY.out; omega)
  have S4 : Hid (StepsAt (w.heap.size ≤ ·) w4 (.slice P N K) l) := FlatAt.mono (StepsAt.kept S3.out (Kept.of_grown G4 (fun k hk hf => by have a1 := Option.some.inj hk; have a2 : W1.heap.size ≤ k := hf; have := HYW.out; omega))) (fun i _ hf => by have a2 : W1.heap.size ≤ i := hf; have := Below.size L1.out; omega)
  clear Z4 G4
  go_wp2
  refine bodyPost_ret (results_box2 Tryz.results36 _ _ (d + 1) 36 _ _ (by rfl) HZ.out Tryz.underlying36 (by rfl) (by kernel_rfl) (.int .i64 10) (by rfl)) (by rfl) ?_
  exact ⟨P, N, K, rfl, S4.out, HLF.out⟩
set_option maxHeartbeats 4000000 in
set_option maxRecDepth 100000 in
theorem lap_ev_yes {F : Nat → Prop} {s : SagaD} {l : List StepD} {y : Nat} {o : OpD} {sv : Value} (h : StepsAt F w s.v l) (hl6 : l.length ≤ 1000000) (hw : ∀ x ∈ l, x.wf) (h1 : I64 s.step) (ho : OBox y o sv w) (hit : isIt l s o.step o.try_ o.back = true) :
    Calls Tryz.prog 39 #[s.val, .pointer (some ⟨y, 0, none⟩)] w fun e w' => ∃ p n c, e = .returned (.tuple #[((lapseE l s).withV p n c).val, .int .i64 0]) ∧ StepsAt (w.heap.size ≤ ·) w' (.slice p n c) l ∧ Later w w' := by
  obtain ⟨W1, hW1⟩ : ∃ W1, W1 = (w.alloc (.cells s.cells.toArray 36 (0, 0))).alloc (.cells #[.string ⟨#[]⟩, .slice none 0 0, .int .i64 0, .int .i64 0, .int .i64 0, .bool false, .bool false, .bool false, .bool false, .bool false, .bool false, .bool false, .bool false] 36 (0, 0)) := ⟨_, rfl⟩
  obtain ⟨d, hd⟩ : ∃ d, d = w.heap.size := ⟨_, rfl⟩
  have X1 : Hid (SBox 36 d s W1) := by rw [hW1, hd]; exact (heap_alloc_old _ _ (by simp)).trans (heap_alloc_new _ _)
  have Y1 : Hid (SBox 36 (d + 1) SagaD.zero W1) := by rw [hW1, hd]; exact heap_second _ _ _
  have L1 : Hid (Later w W1) := by rw [hW1]; exact ((Below.refl _ _).alloc (Nat.le_refl _) _).alloc (by simp) _
  have HY : Hid (w.heap.size ≤ d + 1) := by rw [hd]; exact Nat.le_succ _
  have HYW : Hid (d + 1 < W1.heap.size) := SBox.lt Y1.out
  obtain ⟨_, _, _, _, c6, c7, c8, c9⟩ := (ho.below L1.out).at_
  have C := hide (lapse_any (step := o.step) (tr := o.try_) (back := o.back) (StepsAt.kept h (Kept.of_below L1.out _)) hl6 hw h1)
  unfold lapseF at C
  rw [hit] at C
  rw [if_pos rfl] at C
  have xe := X1.out
  rw [hW1, hd] at xe
  have XE := hide xe
  obtain ⟨s2, hs2⟩ : ∃ s2, lapseE l s = s2 := ⟨_, rfl⟩
  rw [hs2] at C ⊢
  have HW1 := hide hW1.symm
  have HG := hide hd.symm
  clear hW1 hd xe h hl6 hw h1 ho hit hs2
  go_enter Tryz.func39, Tryz.ntmps39
  go_wp2_with (refine wpList_load_saga (by rfl) _ (by rfl) (by rfl) XE.out ?_; simp only [HW1.out, HG.out])
  refine C.out.mono ?_
  rintro e w2 ⟨P, N, K, rfl, hs, hl⟩
  have S2 := hide hs
  have L2a : Later w W1 := L1.out
  have L2 : Hid (Later w w2) := Later.trans L2a hl
  have Y2 : Hid (SBox 36 (d + 1) SagaD.zero w2) := Y1.out.below hl
  clear hl hs L2a C c6 c7 c8 c9
  go_wp2_with (fail)
  refine (orlate_yes (w := w2) (s2.withV P N K)).mono ?_
  rintro e w3 ⟨rfl, hl3⟩
  have L3a : Later w w2 := L2.out
  have L3 : Hid (Later w w3) := Later.trans L3a hl3
  have Y3 : Hid (SBox 36 (d + 1) SagaD.zero w3) := Y2.out.below hl3
  have S3 : Hid (StepsAt (W1.heap.size ≤ ·) w3 (.slice P N K) l) := StepsAt.kept S2.out (Kept.of_below hl3 _)
  clear hl3 L3a
  go_wp2_with (refine wpList_store_saga (s := s2.withV P N K) (by rfl) _ _ (by rfl) (by rfl) Y3.out (by rfl) ?_)
  intro w4 Z4 G4
  have HZ := hide Z4
  have HLF : Hid (Later w w4) := L3.out.grown G4 (Below.size L3.out) (fun k hk => by have := Option.some.inj hk; have := HY.out; omega)
  have S4 : Hid (StepsAt (w.heap.size ≤ ·) w4 (.slice P N K) l) := FlatAt.mono (StepsAt.kept S3.out (Kept.of_grown G4 (fun k hk hf => by have a1 := Option.some.inj hk; have a2 : W1.heap.size ≤ k := hf; have := HYW.out; omega))) (fun i _ hf => by have a2 : W1.heap.size ≤ i := hf; have := Below.size L1.out; omega)
  clear Z4 G4
  go_wp2
  refine bodyPost_ret (results_box2 Tryz.results39 _ _ (d + 1) 36 _ _ (by rfl) HZ.out Tryz.underlying36 (by rfl) (by kernel_rfl) (.int .i64 0) (by rfl)) (by rfl) ?_
  exact ⟨P, N, K, rfl, S4.out, HLF.out⟩
set_option maxHeartbeats 4000000 in
set_option maxRecDepth 100000 in
theorem lap_ev_no {F : Nat → Prop} {s : SagaD} {l : List StepD} {y : Nat} {o : OpD} {sv : Value} (h : StepsAt F w s.v l) (hl6 : l.length ≤ 1000000) (hw : ∀ x ∈ l, x.wf) (h1 : I64 s.step) (ho : OBox y o sv w) (hit : isIt l s o.step o.try_ o.back = false) :
    Calls Tryz.prog 39 #[s.val, .pointer (some ⟨y, 0, none⟩)] w fun e w' => ∃ p n c, e = .returned (.tuple #[(SagaD.zero).val, .int .i64 10]) ∧ StepsAt (w.heap.size ≤ ·) w' (.slice p n c) l ∧ Later w w' := by
  obtain ⟨W1, hW1⟩ : ∃ W1, W1 = (w.alloc (.cells s.cells.toArray 36 (0, 0))).alloc (.cells #[.string ⟨#[]⟩, .slice none 0 0, .int .i64 0, .int .i64 0, .int .i64 0, .bool false, .bool false, .bool false, .bool false, .bool false, .bool false, .bool false, .bool false] 36 (0, 0)) := ⟨_, rfl⟩
  obtain ⟨d, hd⟩ : ∃ d, d = w.heap.size := ⟨_, rfl⟩
  have X1 : Hid (SBox 36 d s W1) := by rw [hW1, hd]; exact (heap_alloc_old _ _ (by simp)).trans (heap_alloc_new _ _)
  have Y1 : Hid (SBox 36 (d + 1) SagaD.zero W1) := by rw [hW1, hd]; exact heap_second _ _ _
  have L1 : Hid (Later w W1) := by rw [hW1]; exact ((Below.refl _ _).alloc (Nat.le_refl _) _).alloc (by simp) _
  have HY : Hid (w.heap.size ≤ d + 1) := by rw [hd]; exact Nat.le_succ _
  have HYW : Hid (d + 1 < W1.heap.size) := SBox.lt Y1.out
  obtain ⟨_, _, _, _, c6, c7, c8, c9⟩ := (ho.below L1.out).at_
  have C := hide (lapse_any (step := o.step) (tr := o.try_) (back := o.back) (StepsAt.kept h (Kept.of_below L1.out _)) hl6 hw h1)
  unfold lapseF at C
  rw [hit] at C
  rw [if_neg (by simp)] at C
  have xe := X1.out
  rw [hW1, hd] at xe
  have XE := hide xe
  have HW1 := hide hW1.symm
  have HG := hide hd.symm
  clear hW1 hd xe h hl6 hw h1 ho hit
  go_enter Tryz.func39, Tryz.ntmps39
  go_wp2_with (refine wpList_load_saga (by rfl) _ (by rfl) (by rfl) XE.out ?_; simp only [HW1.out, HG.out])
  refine C.out.mono ?_
  rintro e w2 ⟨P, N, K, rfl, hs, hl⟩
  have S2 := hide hs
  have L2a : Later w W1 := L1.out
  have L2 : Hid (Later w w2) := Later.trans L2a hl
  have Y2 : Hid (SBox 36 (d + 1) SagaD.zero w2) := Y1.out.below hl
  clear hl hs L2a C c6 c7 c8 c9
  go_wp2_with (fail)
  refine (orlate_no (w := w2) (s.withV P N K)).mono ?_
  rintro e w3 ⟨rfl, hl3⟩
  have L3a : Later w w2 := L2.out
  have L3 : Hid (Later w w3) := Later.trans L3a hl3
  have Y3 : Hid (SBox 36 (d + 1) SagaD.zero w3) := Y2.out.below hl3
  have S3 : Hid (StepsAt (W1.heap.size ≤ ·) w3 (.slice P N K) l) := StepsAt.kept S2.out (Kept.of_below hl3 _)
  clear hl3 L3a
  go_wp2_with (refine wpList_store_saga (s := SagaD.zero) (by rfl) _ _ (by rfl) (by rfl) Y3.out (by rfl) ?_)
  intro w4 Z4 G4
  have HZ := hide Z4
  have HLF : Hid (Later w w4) := L3.out.grown G4 (Below.size L3.out) (fun k hk => by have := Option.some.inj hk; have := HY.out; omega)
  have S4 : Hid (StepsAt (w.heap.size ≤ ·) w4 (.slice P N K) l) := FlatAt.mono (StepsAt.kept S3.out (Kept.of_grown G4 (fun k hk hf => by have a1 := Option.some.inj hk; have a2 : W1.heap.size ≤ k := hf; have := HYW.out; omega))) (fun i _ hf => by have a2 : W1.heap.size ≤ i := hf; have := Below.size L1.out; omega)
  clear Z4 G4
  go_wp2
  refine bodyPost_ret (results_box2 Tryz.results39 _ _ (d + 1) 36 _ _ (by rfl) HZ.out Tryz.underlying36 (by rfl) (by kernel_rfl) (.int .i64 10) (by rfl)) (by rfl) ?_
  exact ⟨P, N, K, rfl, S4.out, HLF.out⟩
end
end Go.Proofs.YtpicnoinnngpeaaGreat
/- Apply of package book, whatever the operation. -/
namespace Go.Proofs.YtpicnoinnngpeaaGreat
open Go.RowKit Go.Maps
theorem isIt_wants {l : List StepD} {s : SagaD} {step tr : Int} {back : Bool} (h : isIt l s step tr back = true) : wantsB l s = true := by
  unfold isIt at h
  simp only [Bool.and_eq_true] at h
  exact h.1
theorem want_range {l : List StepD} {s : SagaD} (h : wantsB l s = true) : 0 ≤ s.step ∧ s.step ≤ 8 ∧ l.length ≤ 8 := by
  obtain ⟨he, p1, p2, p3, _⟩ := wants_parts h
  have h8 := (check_good he).1
  exact ⟨by omega, by omega, h8⟩
theorem reportE_step {l : List StepD} {s : SagaD} (back good : Bool) (h : wantsB l s = true) : 0 ≤ (reportE l s back good).step ∧ (reportE l s back good).step ≤ 9 := by
  obtain ⟨h0, h1, h8⟩ := want_range h
  unfold reportE
  split
  · split
    · have := downS_step l (s.hitN false)
      omega
    · unfold nextS
      split
      · exact ⟨by show (0 : Int) ≤ 0; omega, by show (0 : Int) ≤ 9; omega⟩
      · exact ⟨by show 0 ≤ s.step + 1; omega, by show s.step + 1 ≤ 9; omega⟩
  · exact missedS_step h0 h1 h8
theorem lapseE_step {l : List StepD} {s : SagaD} (h : wantsB l s = true) : 0 ≤ (lapseE l s).step ∧ (lapseE l s).step ≤ 9 := by
  obtain ⟨h0, h1, h8⟩ := want_range h
  exact missedS_step (s := s.hitN true) h0 h1 h8
theorem reportV_step {l : List StepD} {s : SagaD} {step tr : Int} {back good : Bool} (h : (reportV step tr back good l s).2 = 0) : 0 ≤ (reportV step tr back good l s).1.step ∧ (reportV step tr back good l s).1.step ≤ 9 := by
  unfold reportV at h ⊢
  split
  · rename_i hi
    exact reportE_step back good (isIt_wants hi)
  · rename_i hi
    rw [if_neg hi] at h
    exact absurd h (by decide)
theorem lapseV_step {l : List StepD} {s : SagaD} {step tr : Int} {back : Bool} (h : (lapseV step tr back l s).2 = 0) : 0 ≤ (lapseV step tr back l s).1.step ∧ (lapseV step tr back l s).1.step ≤ 9 := by
  unfold lapseV at h ⊢
  split
  · rename_i hi
    exact lapseE_step (isIt_wants hi)
  · rename_i hi
    rw [if_neg hi] at h
    exact absurd h (by decide)
theorem cancelV_step {l : List StepD} {s : SagaD} (h : (cancelF l s).2 = 0) : 0 ≤ (cancelF l s).1.step ∧ (cancelF l s).1.step ≤ 9 := by
  by_cases hg : goodF l s = true
  · by_cases h2 : s.st = 2
    · have hw : wantsB l s = true := by unfold wantsB; rw [hg]; simp [h2]
      obtain ⟨h0, h1, h8⟩ := want_range hw
      exact cancel_step h0 h1 h8
    · by_cases h1 : s.st = 1
      · have hw : wantsB l s = true := by unfold wantsB; rw [hg]; simp [h1]
        obtain ⟨h0, h1, h8⟩ := want_range hw
        exact cancel_step h0 h1 h8
      · exfalso
        unfold cancelF at h
        have hb : lateB l s = true := by unfold lateB; simp [h1]
        rw [if_pos hg, if_neg h2, if_pos hb] at h
        exact absurd h (by decide)
  · exfalso
    unfold cancelF at h
    rw [if_neg hg] at h
    exact absurd (show (2 : Int) = 0 from h) (by decide)
section
variable {F : Nat → Prop} {w : World} {g b k : Nat} {most : Int} {t : BkS}
/-- An event, whatever it says. -/
theorem behind_any (h : BookAt F w g b k most t) (hk : k ≤ 1000000) {id : Int} (hid : I64 id) (gf : Nat) (cb : Array Value) (ev : List StepD → SagaD → SagaD × Int)
    (eg : ∀ args w, (callFunc gf args).run Tryz.prog w = .ok (.enter gf args) w)
    (hc : ∀ x ∈ t.L, ∀ W, Later w W → ∀ (q : Option Addr) (n c : Nat), StepsAt F W (.slice q n c) x.l → Calls Tryz.prog gf (#[(x.s.withV q n c).val] ++ cb) W (EvT (ev x.l x.s) x.l W))
    (hst : ∀ x ∈ t.L, (ev x.l x.s).2 = 0 → 0 ≤ (ev x.l x.s).1.step ∧ (ev x.l x.s).1.step ≤ 9) (hF : ∀ i, w.heap.size ≤ i → F i) :
    Calls Tryz.prog 34 #[.pointer (some ⟨g, 0, none⟩), .int .i64 id, .func (.func gf) #[] cb] w (Did F g b (k + 1) most (eventR ev t id) (eventS ev t id) w) := by
  unfold eventR eventS
  cases hx : entAt t.L id with
  | none => exact behind_none h hid hx gf cb
  | some x =>
    have hm := (entAt_mem hx).1
    by_cases he : (ev x.l x.s).2 = 0
    · simp only [he, ne_eq, not_true_eq_false, if_false]
      exact behind_ok h hid hx gf cb ev eg (hc x hm) hk he (hst x hm he) hF
    · simp only [he, ne_eq, not_false_eq_true, if_true]
      exact behind_bad h hid hx gf cb ev eg (hc x hm) he
theorem enters_rep : ∀ args w, (callFunc 36 args).run Tryz.prog w = .ok (.enter 36 args) w := enters_of Tryz.func36 (by kernel_rfl) rfl
theorem enters_lap : ∀ args w, (callFunc 39 args).run Tryz.prog w = .ok (.enter 39 args) w := enters_of Tryz.func39 (by kernel_rfl) rfl
theorem enters_can : ∀ args w, (callFunc 35 args).run Tryz.prog w = .ok (.enter 35 args) w := enters_of Tryz.func35 (by kernel_rfl) rfl
theorem can_is {x : Ent} (hx : EntOk x) {q : Option Addr} {n c : Nat} {F0 : Nat → Prop} (h : StepsAt F0 w (.slice q n c) x.l) : Calls Tryz.prog 35 (#[(x.s.withV q n c).val] ++ #[]) w (EvT (cancelF x.l x.s) x.l w) := by
  have hh := cancel_any (s := x.s.withV q n c) h (by have := hx.2.1; omega) hx.1 (show I64 x.s.step from ⟨by have := hx.2.2.1.1; omega, by have := hx.2.2.1.2; omega⟩)
  refine hh.mono ?_
  rintro e w' ⟨p, m, d, rfl, hs, hl⟩
  obtain ⟨e1, e2⟩ := cancelF_withV x.l x.s q p n c m d
  refine ⟨p, m, d, by rw [e1, e2], fun h0 => ?_, hl⟩
  have : cancelL x.l (x.s.withV q n c) = x.l := by
    unfold cancelL
    rw [if_neg (by rw [e2, h0]; decide)]
  rw [this] at hs
  exact hs
theorem rep_is {x : Ent} (hx : EntOk x) {q : Option Addr} {n c : Nat} {F0 : Nat → Prop} (h : StepsAt F0 w (.slice q n c) x.l) {y : Nat} {o : OpD} {sv : Value} (ho : OBox y o sv w) :
    Calls Tryz.prog 36 (#[(x.s.withV q n c).val] ++ #[.pointer (some ⟨y, 0, none⟩)]) w (EvT (reportV o.step o.try_ o.back o.good x.l x.s) x.l w) := by
  have h6 : x.l.length ≤ 1000000 := by have := hx.2.1; omega
  have h1 : I64 x.s.step := ⟨by have := hx.2.2.1.1; omega, by have := hx.2.2.1.2; omega⟩
  unfold reportV
  cases hi : isIt x.l x.s o.step o.try_ o.back with
  | true =>
    rw [if_pos rfl]
    refine (rep_ev_yes (s := x.s.withV q n c) h h6 hx.1 h1 ho hi).mono ?_
    rintro e w' ⟨p, m, d, rfl, hs, hl⟩
    exact ⟨p, m, d, by rw [reportE_withV, withV_twice], fun _ => hs, hl⟩
  | false =>
    rw [if_neg (by simp)]
    refine (rep_ev_no (s := x.s.withV q n c) h h6 hx.1 h1 ho hi).mono ?_
    rintro e w' ⟨p, m, d, rfl, hs, hl⟩
    exact ⟨none, 0, 0, rfl, fun h => absurd h (by decide), hl⟩
theorem lap_is {x : Ent} (hx : EntOk x) {q : Option Addr} {n c : Nat} {F0 : Nat → Prop} (h : StepsAt F0 w (.slice q n c) x.l) {y : Nat} {o : OpD} {sv : Value} (ho : OBox y o sv w) :
    Calls Tryz.prog 39 (#[(x.s.withV q n c).val] ++ #[.pointer (some ⟨y, 0, none⟩)]) w (EvT (lapseV o.step o.try_ o.back x.l x.s) x.l w) := by
  have h6 : x.l.length ≤ 1000000 := by have := hx.2.1; omega
  have h1 : I64 x.s.step := ⟨by have := hx.2.2.1.1; omega, by have := hx.2.2.1.2; omega⟩
  unfold lapseV
  cases hi : isIt x.l x.s o.step o.try_ o.back with
  | true =>
    rw [if_pos rfl]
    refine (lap_ev_yes (s := x.s.withV q n c) h h6 hx.1 h1 ho hi).mono ?_
    rintro e w' ⟨p, m, d, rfl, hs, hl⟩
    exact ⟨p, m, d, by rw [lapseE_withV, withV_twice], fun _ => hs, hl⟩
  | false =>
    rw [if_neg (by simp)]
    refine (lap_ev_no (s := x.s.withV q n c) h h6 hx.1 h1 ho hi).mono ?_
    rintro e w' ⟨p, m, d, rfl, hs, hl⟩
    exact ⟨none, 0, 0, rfl, fun h => absurd h (by decide), hl⟩
set_option maxHeartbeats 4000000 in
set_option maxRecDepth 100000 in
theorem apply_0 {F0 : Nat → Prop} {o : OpD} {A : Option Addr} {n c : Nat} (h : BookAt F w g b k most t) (_hk : k ≤ 1000000) (_hn : t.L.length ≤ 1000000) (hst : StepsAt F0 w (.slice A n c) o.steps) (_hw : o.wf) (_hla : t.last < 4611686018427387904) (hF : ∀ i, w.heap.size ≤ i → F i) (hkd : o.kind = 0) :
    Calls Tryz.prog 14 #[.pointer (some ⟨g, 0, none⟩), .agg (o.cells (.slice A n c)).toArray] w (Did F g b (k + 1) most (errR 0) (t) w) := by
  have hlt := h.lt
  obtain ⟨W1, hW1⟩ : ∃ W1, W1 = (w.alloc (.cells (o.cells (.slice A n c)).toArray 33 (0, 0))).alloc (.cells #[.int .i64 0, .int .i64 0, .int .i64 0, .int .i64 0] 44 (0, 0)) := ⟨_, rfl⟩
  obtain ⟨d, hd⟩ : ∃ d, d = w.heap.size := ⟨_, rfl⟩
  have X1 : Hid (OBox d o (.slice A n c) W1) := by rw [hW1, hd]; exact (heap_alloc_old _ _ (by simp)).trans (heap_alloc_new _ _)
  have Y1 : Hid (RBox (d + 1) (errR 0) W1) := by rw [hW1, hd]; exact heap_second _ _ _
  have L1 : Hid (Later w W1) := by rw [hW1]; exact ((Below.refl _ _).alloc (Nat.le_refl _) _).alloc (by simp) _
  have HYG : Hid (g < d + 1 ∧ b < d + 1) := by rw [hd]; exact ⟨by omega, by omega⟩
  have HY : Hid (w.heap.size ≤ d + 1) := by rw [hd]; exact Nat.le_succ _
  have HYW : Hid (d + 1 < W1.heap.size) := lt_of_block Y1.out
  have h1 : BookAt (fun i => F i ∧ i ≠ d + 1) W1 g b k most t := (h.mono (G := fun i => F i ∧ i ≠ d + 1) (fun i hi hf => ⟨hf, by omega⟩) (fun e => h.apart.2.1 e.1) (fun e => h.apart.2.2 e.1)).later L1.out
  have hF1 : ∀ i, W1.heap.size ≤ i → F i ∧ i ≠ d + 1 := fun i hi => by
    have a1 := Below.size L1.out
    have a2 := HYW.out
    exact ⟨hF i (by omega), by omega⟩
  have H1 := hide h1
  have HA := hide h.apart
  have hst1 := StepsAt.kept hst (Kept.of_below L1.out _)
  have CM := hide (made_yes h1)
  obtain ⟨a0, a3, a4, a5, a6, a7, a8, a9⟩ := X1.out.at_
  clear a6 a7 a8 a9
  rw [hkd] at a0
  clear hkd
  clear a3 a4 a5
  have HW1 := hide hW1.symm
  have HG := hide hd.symm
  clear h _hk _hn hst hst1 _hw _hla hF hF1 hW1 hd h1 hlt
  go_enter Tryz.func14, Tryz.ntmps14
  go_wp2_with (fail)
  simp only [HW1.out, HG.out]
  refine CM.out.mono ?_
  rintro e w2 ⟨rfl, rfl⟩
  go_wp2_with (refine wpList_store_rep (r := errR 0) (by rfl) _ _ (by rfl) (by rfl) Y1.out (by rfl) ?_)
  intro w9 Z9 G9
  have HZ := hide Z9
  have T9 : Hid (Turned (fun i => i = d + 1) W1 w9) := Turned.of_grown G9 (fun g e => (Option.some.inj e).symm)
  clear Z9 G9
  go_wp2
  refine bodyPost_ret (results_cell_row Tryz.results14 _ _ (d + 1) 44 _ (0, 0) _ (by rfl) HZ.out Tryz.underlying44 (by rfl) (by kernel_rfl)) (by rfl) ?_
  have B9 := (H1.out).turned T9.out (by have := HYG.out; omega) (by have := HYG.out; omega) (fun i hi => hi.2)
  exact ⟨rfl, (B9.mono (fun i _ hf => hf.1) HA.out.2.1 HA.out.2.2).more (by omega), (Turned.of_below L1.out _).onto T9.out (fun i hi => .inr (by have := HY.out; omega))⟩
set_option maxHeartbeats 4000000 in
set_option maxRecDepth 100000 in
theorem apply_1 {F0 : Nat → Prop} {o : OpD} {A : Option Addr} {n c : Nat} (h : BookAt F w g b k most t) (_hk : k ≤ 1000000) (_hn : t.L.length ≤ 1000000) (hst : StepsAt F0 w (.slice A n c) o.steps) (_hw : o.wf) (_hla : t.last < 4611686018427387904) (hF : ∀ i, w.heap.size ≤ i → F i) (hkd : o.kind = 1) :
    Calls Tryz.prog 14 #[.pointer (some ⟨g, 0, none⟩), .agg (o.cells (.slice A n c)).toArray] w (Did F g b (k + 1) most (startR most t o.name o.steps) (startS most t o.name o.steps) w) := by
  have hlt := h.lt
  obtain ⟨W1, hW1⟩ : ∃ W1, W1 = (w.alloc (.cells (o.cells (.slice A n c)).toArray 33 (0, 0))).alloc (.cells #[.int .i64 0, .int .i64 0, .int .i64 0, .int .i64 0] 44 (0, 0)) := ⟨_, rfl⟩
  obtain ⟨d, hd⟩ : ∃ d, d = w.heap.size := ⟨_, rfl⟩
  have X1 : Hid (OBox d o (.slice A n c) W1) := by rw [hW1, hd]; exact (heap_alloc_old _ _ (by simp)).trans (heap_alloc_new _ _)
  have Y1 : Hid (RBox (d + 1) (errR 0) W1) := by rw [hW1, hd]; exact heap_second _ _ _
  have L1 : Hid (Later w W1) := by rw [hW1]; exact ((Below.refl _ _).alloc (Nat.le_refl _) _).alloc (by simp) _
  have HYG : Hid (g < d + 1 ∧ b < d + 1) := by rw [hd]; exact ⟨by omega, by omega⟩
  have HY : Hid (w.heap.size ≤ d + 1) := by rw [hd]; exact Nat.le_succ _
  have HYW : Hid (d + 1 < W1.heap.size) := lt_of_block Y1.out
  have h1 : BookAt (fun i => F i ∧ i ≠ d + 1) W1 g b k most t := (h.mono (G := fun i => F i ∧ i ≠ d + 1) (fun i hi hf => ⟨hf, by omega⟩) (fun e => h.apart.2.1 e.1) (fun e => h.apart.2.2 e.1)).later L1.out
  have hF1 : ∀ i, W1.heap.size ≤ i → F i ∧ i ≠ d + 1 := fun i hi => by
    have a1 := Below.size L1.out
    have a2 := HYW.out
    exact ⟨hF i (by omega), by omega⟩
  have H1 := hide h1
  have HA := hide h.apart
  have hst1 := StepsAt.kept hst (Kept.of_below L1.out _)
  have CM := hide (made_yes h1)
  obtain ⟨a0, a3, a4, a5, a6, a7, a8, a9⟩ := X1.out.at_
  clear a6 a7 a8 a9
  rw [hkd] at a0
  clear hkd
  have C := hide (start_any (name := o.name) h1 _hk _hn hst1 _hw.2.2.2.2.1 _hla hF1)
  obtain ⟨r9, hr9⟩ : ∃ r9, startR most t o.name o.steps = r9 := ⟨_, rfl⟩
  rw [hr9] at C ⊢
  obtain ⟨t9, ht9⟩ : ∃ t9, startS most t o.name o.steps = t9 := ⟨_, rfl⟩
  rw [ht9] at C ⊢
  clear hr9 ht9
  generalize o.name = nm at a3 C
  generalize o.saga = sg at a5
  clear a5
  have HW1 := hide hW1.symm
  have HG := hide hd.symm
  clear h _hk _hn hst hst1 _hw _hla hF hF1 hW1 hd h1 hlt
  go_enter Tryz.func14, Tryz.ntmps14
  go_wp2_with (fail)
  simp only [HW1.out, HG.out]
  refine CM.out.mono ?_
  rintro e w2 ⟨rfl, rfl⟩
  go_wp2_with (fail)
  refine C.out.mono ?_
  rintro e w3 ⟨rfl, hb3, ht3⟩
  have T3 := hide ht3
  have H3 := hide hb3
  clear hb3 ht3 C
  have Y3 : Hid (RBox (d + 1) (errR 0) w3) := Y1.out.turned T3.out (by have := HYG.out; omega)
  go_wp2_with (refine wpList_store_rep (r := r9) (by rfl) _ _ (by rfl) (by rfl) Y3.out (by rfl) ?_)
  intro w9 Z9 G9
  have HZ := hide Z9
  have T9 : Hid (Turned (fun i => i = d + 1) w3 w9) := Turned.of_grown G9 (fun g e => (Option.some.inj e).symm)
  clear Z9 G9
  go_wp2
  refine bodyPost_ret (results_cell_row Tryz.results14 _ _ (d + 1) 44 _ (0, 0) _ (by rfl) HZ.out Tryz.underlying44 (by rfl) (by kernel_rfl)) (by rfl) ?_
  have B9 := (H3.out).turned T9.out (by have := HYG.out; omega) (by have := HYG.out; omega) (fun i hi => hi.2)
  have La : Turned (fun i => i = g ∨ i = b) w W1 := Turned.of_below L1.out _
  exact ⟨rfl, B9.mono (fun i _ hf => hf.1) HA.out.2.1 HA.out.2.2, (La.trans T3.out).onto T9.out (fun i hi => .inr (by have := HY.out; omega))⟩
set_option maxHeartbeats 4000000 in
set_option maxRecDepth 100000 in
theorem apply_2 {F0 : Nat → Prop} {o : OpD} {A : Option Addr} {n c : Nat} (h : BookAt F w g b k most t) (_hk : k ≤ 1000000) (_hn : t.L.length ≤ 1000000) (hst : StepsAt F0 w (.slice A n c) o.steps) (_hw : o.wf) (_hla : t.last < 4611686018427387904) (hF : ∀ i, w.heap.size ≤ i → F i) (hkd : o.kind = 2) :
    Calls Tryz.prog 14 #[.pointer (some ⟨g, 0, none⟩), .agg (o.cells (.slice A n c)).toArray] w (Did F g b (k + 1) most (eventR cancelF t o.saga) (eventS cancelF t o.saga) w) := by
  have hlt := h.lt
  obtain ⟨W1, hW1⟩ : ∃ W1, W1 = (w.alloc (.cells (o.cells (.slice A n c)).toArray 33 (0, 0))).alloc (.cells #[.int .i64 0, .int .i64 0, .int .i64 0, .int .i64 0] 44 (0, 0)) := ⟨_, rfl⟩
  obtain ⟨d, hd⟩ : ∃ d, d = w.heap.size := ⟨_, rfl⟩
  have X1 : Hid (OBox d o (.slice A n c) W1) := by rw [hW1, hd]; exact (heap_alloc_old _ _ (by simp)).trans (heap_alloc_new _ _)
  have Y1 : Hid (RBox (d + 1) (errR 0) W1) := by rw [hW1, hd]; exact heap_second _ _ _
  have L1 : Hid (Later w W1) := by rw [hW1]; exact ((Below.refl _ _).alloc (Nat.le_refl _) _).alloc (by simp) _
  have HYG : Hid (g < d + 1 ∧ b < d + 1) := by rw [hd]; exact ⟨by omega, by omega⟩
  have HY : Hid (w.heap.size ≤ d + 1) := by rw [hd]; exact Nat.le_succ _
  have HYW : Hid (d + 1 < W1.heap.size) := lt_of_block Y1.out
  have h1 : BookAt (fun i => F i ∧ i ≠ d + 1) W1 g b k most t := (h.mono (G := fun i => F i ∧ i ≠ d + 1) (fun i hi hf => ⟨hf, by omega⟩) (fun e => h.apart.2.1 e.1) (fun e => h.apart.2.2 e.1)).later L1.out
  have hF1 : ∀ i, W1.heap.size ≤ i → F i ∧ i ≠ d + 1 := fun i hi => by
    have a1 := Below.size L1.out
    have a2 := HYW.out
    exact ⟨hF i (by omega), by omega⟩
  have H1 := hide h1
  have HA := hide h.apart
  have hst1 := StepsAt.kept hst (Kept.of_below L1.out _)
  have CM := hide (made_yes h1)
  obtain ⟨a0, a3, a4, a5, a6, a7, a8, a9⟩ := X1.out.at_
  clear a6 a7 a8 a9
  rw [hkd] at a0
  clear hkd
  have C := hide (behind_any h1 _hk _hw.2.2.2.2.2.1 35 #[] cancelF enters_can (fun x hx W hW q n c hq => can_is (h1.ok.2.1 x hx).1 hq) (fun x _ he => cancelV_step he) hF1)
  obtain ⟨r9, hr9⟩ : ∃ r9, eventR cancelF t o.saga = r9 := ⟨_, rfl⟩
  rw [hr9] at C ⊢
  obtain ⟨t9, ht9⟩ : ∃ t9, eventS cancelF t o.saga = t9 := ⟨_, rfl⟩
  rw [ht9] at C ⊢
  clear hr9 ht9
  generalize o.name = nm at a3
  generalize o.saga = sg at a5 C
  clear a3 a4
  have HW1 := hide hW1.symm
  have HG := hide hd.symm
  clear h _hk _hn hst hst1 _hw _hla hF hF1 hW1 hd h1 hlt
  go_enter Tryz.func14, Tryz.ntmps14
  go_wp2_with (fail)
  simp only [HW1.out, HG.out]
  refine CM.out.mono ?_
  rintro e w2 ⟨rfl, rfl⟩
  go_wp2_with (fail)
  refine C.out.mono ?_
  rintro e w3 ⟨rfl, hb3, ht3⟩
  have T3 := hide ht3
  have H3 := hide hb3
  clear hb3 ht3 C
  have Y3 : Hid (RBox (d + 1) (errR 0) w3) := Y1.out.turned T3.out (by have := HYG.out; omega)
  go_wp2_with (refine wpList_store_rep (r := r9) (by rfl) _ _ (by rfl) (by rfl) Y3.out (by rfl) ?_)
  intro w9 Z9 G9
  have HZ := hide Z9
  have T9 : Hid (Turned (fun i => i = d + 1) w3 w9) := Turned.of_grown G9 (fun g e => (Option.some.inj e).symm)
  clear Z9 G9
  go_wp2
  refine bodyPost_ret (results_cell_row Tryz.results14 _ _ (d + 1) 44 _ (0, 0) _ (by rfl) HZ.out Tryz.underlying44 (by rfl) (by kernel_rfl)) (by rfl) ?_
  have B9 := (H3.out).turned T9.out (by have := HYG.out; omega) (by have := HYG.out; omega) (fun i hi => hi.2)
  have La : Turned (fun i => i = g ∨ i = b) w W1 := Turned.of_below L1.out _
  exact ⟨rfl, B9.mono (fun i _ hf => hf.1) HA.out.2.1 HA.out.2.2, (La.trans T3.out).onto T9.out (fun i hi => .inr (by have := HY.out; omega))⟩
set_option maxHeartbeats 4000000 in
set_option maxRecDepth 100000 in
theorem apply_3 {F0 : Nat → Prop} {o : OpD} {A : Option Addr} {n c : Nat} (h : BookAt F w g b k most t) (_hk : k ≤ 1000000) (_hn : t.L.length ≤ 1000000) (hst : StepsAt F0 w (.slice A n c) o.steps) (_hw : o.wf) (_hla : t.last < 4611686018427387904) (hF : ∀ i, w.heap.size ≤ i → F i) (hkd : o.kind = 3) :
    Calls Tryz.prog 14 #[.pointer (some ⟨g, 0, none⟩), .agg (o.cells (.slice A n c)).toArray] w (Did F g b (k + 1) most (statusF t.L o.saga) (t) w) := by
  have hlt := h.lt
  obtain ⟨W1, hW1⟩ : ∃ W1, W1 = (w.alloc (.cells (o.cells (.slice A n c)).toArray 33 (0, 0))).alloc (.cells #[.int .i64 0, .int .i64 0, .int .i64 0, .int .i64 0] 44 (0, 0)) := ⟨_, rfl⟩
  obtain ⟨d, hd⟩ : ∃ d, d = w.heap.size := ⟨_, rfl⟩
  have X1 : Hid (OBox d o (.slice A n c) W1) := by rw [hW1, hd]; exact (heap_alloc_old _ _ (by simp)).trans (heap_alloc_new _ _)
  have Y1 : Hid (RBox (d + 1) (errR 0) W1) := by rw [hW1, hd]; exact heap_second _ _ _
  have L1 : Hid (Later w W1) := by rw [hW1]; exact ((Below.refl _ _).alloc (Nat.le_refl _) _).alloc (by simp) _
  have HYG : Hid (g < d + 1 ∧ b < d + 1) := by rw [hd]; exact ⟨by omega, by omega⟩
  have HY : Hid (w.heap.size ≤ d + 1) := by rw [hd]; exact Nat.le_succ _
  have HYW : Hid (d + 1 < W1.heap.size) := lt_of_block Y1.out
  have h1 : BookAt (fun i => F i ∧ i ≠ d + 1) W1 g b k most t := (h.mono (G := fun i => F i ∧ i ≠ d + 1) (fun i hi hf => ⟨hf, by omega⟩) (fun e => h.apart.2.1 e.1) (fun e => h.apart.2.2 e.1)).later L1.out
  have hF1 : ∀ i, W1.heap.size ≤ i → F i ∧ i ≠ d + 1 := fun i hi => by
    have a1 := Below.size L1.out
    have a2 := HYW.out
    exact ⟨hF i (by omega), by omega⟩
  have H1 := hide h1
  have HA := hide h.apart
  have hst1 := StepsAt.kept hst (Kept.of_below L1.out _)
  have CM := hide (made_yes h1)
  obtain ⟨a0, a3, a4, a5, a6, a7, a8, a9⟩ := X1.out.at_
  clear a6 a7 a8 a9
  rw [hkd] at a0
  clear hkd
  have C := hide (status_any h1 _hw.2.2.2.2.2.1)
  obtain ⟨r9, hr9⟩ : ∃ r9, statusF t.L o.saga = r9 := ⟨_, rfl⟩
  rw [hr9] at C ⊢
  clear hr9
  generalize o.name = nm at a3
  generalize o.saga = sg at a5 C
  clear a3 a4
  have HW1 := hide hW1.symm
  have HG := hide hd.symm
  clear h _hk _hn hst hst1 _hw _hla hF hF1 hW1 hd h1 hlt
  go_enter Tryz.func14, Tryz.ntmps14
  go_wp2_with (fail)
  simp only [HW1.out, HG.out]
  refine CM.out.mono ?_
  rintro e w2 ⟨rfl, rfl⟩
  go_wp2_with (fail)
  refine C.out.mono ?_
  rintro e w3 ⟨rfl, hl3⟩
  have T3 : Hid (Turned (fun i => i = g ∨ i = b) W1 w3) := Turned.of_below hl3 _
  have H3 : Hid (BookAt (fun i => F i ∧ i ≠ d + 1) w3 g b (k + 1) most t) := (H1.out.later hl3).more (by omega)
  clear hl3 C
  have Y3 : Hid (RBox (d + 1) (errR 0) w3) := Y1.out.turned T3.out (by have := HYG.out; omega)
  go_wp2_with (refine wpList_store_rep (r := r9) (by rfl) _ _ (by rfl) (by rfl) Y3.out (by rfl) ?_)
  intro w9 Z9 G9
  have HZ := hide Z9
  have T9 : Hid (Turned (fun i => i = d + 1) w3 w9) := Turned.of_grown G9 (fun g e => (Option.some.inj e).symm)
  clear Z9 G9
  go_wp2
  refine bodyPost_ret (results_cell_row Tryz.results14 _ _ (d + 1) 44 _ (0, 0) _ (by rfl) HZ.out Tryz.underlying44 (by rfl) (by kernel_rfl)) (by rfl) ?_
  have B9 := (H3.out).turned T9.out (by have := HYG.out; omega) (by have := HYG.out; omega) (fun i hi => hi.2)
  have La : Turned (fun i => i = g ∨ i = b) w W1 := Turned.of_below L1.out _
  exact ⟨rfl, B9.mono (fun i _ hf => hf.1) HA.out.2.1 HA.out.2.2, (La.trans T3.out).onto T9.out (fun i hi => .inr (by have := HY.out; omega))⟩
set_option maxHeartbeats 4000000 in
set_option maxRecDepth 100000 in
theorem apply_4 {F0 : Nat → Prop} {o : OpD} {A : Option Addr} {n c : Nat} (h : BookAt F w g b k most t) (_hk : k ≤ 1000000) (_hn : t.L.length ≤ 1000000) (hst : StepsAt F0 w (.slice A n c) o.steps) (_hw : o.wf) (_hla : t.last < 4611686018427387904) (hF : ∀ i, w.heap.size ≤ i → F i) (hkd : o.kind = 4) :
    Calls Tryz.prog 14 #[.pointer (some ⟨g, 0, none⟩), .agg (o.cells (.slice A n c)).toArray] w (Did F g b (k + 1) most (eventR (reportV o.step o.try_ o.back o.good) t o.saga) (eventS (reportV o.step o.try_ o.back o.good) t o.saga) w) := by
  have hlt := h.lt
  obtain ⟨W1, hW1⟩ : ∃ W1, W1 = (w.alloc (.cells (o.cells (.slice A n c)).toArray 33 (0, 0))).alloc (.cells #[.int .i64 0, .int .i64 0, .int .i64 0, .int .i64 0] 44 (0, 0)) := ⟨_, rfl⟩
  obtain ⟨d, hd⟩ : ∃ d, d = w.heap.size := ⟨_, rfl⟩
  have X1 : Hid (OBox d o (.slice A n c) W1) := by rw [hW1, hd]; exact (heap_alloc_old _ _ (by simp)).trans (heap_alloc_new _ _)
  have Y1 : Hid (RBox (d + 1) (errR 0) W1) := by rw [hW1, hd]; exact heap_second _ _ _
  have L1 : Hid (Later w W1) := by rw [hW1]; exact ((Below.refl _ _).alloc (Nat.le_refl _) _).alloc (by simp) _
  have HYG : Hid (g < d + 1 ∧ b < d + 1) := by rw [hd]; exact ⟨by omega, by omega⟩
  have HY : Hid (w.heap.size ≤ d + 1) := by rw [hd]; exact Nat.le_succ _
  have HYW : Hid (d + 1 < W1.heap.size) := lt_of_block Y1.out
  have h1 : BookAt (fun i => F i ∧ i ≠ d + 1) W1 g b k most t := (h.mono (G := fun i => F i ∧ i ≠ d + 1) (fun i hi hf => ⟨hf, by omega⟩) (fun e => h.apart.2.1 e.1) (fun e => h.apart.2.2 e.1)).later L1.out
  have hF1 : ∀ i, W1.heap.size ≤ i → F i ∧ i ≠ d + 1 := fun i hi => by
    have a1 := Below.size L1.out
    have a2 := HYW.out
    exact ⟨hF i (by omega), by omega⟩
  have H1 := hide h1
  have HA := hide h.apart
  have hst1 := StepsAt.kept hst (Kept.of_below L1.out _)
  have CM := hide (made_yes h1)
  obtain ⟨a0, a3, a4, a5, a6, a7, a8, a9⟩ := X1.out.at_
  clear a6 a7 a8 a9
  rw [hkd] at a0
  clear hkd
  have C := hide (behind_any h1 _hk _hw.2.2.2.2.2.1 36 #[.pointer (some ⟨d, 0, none⟩)] (reportV o.step o.try_ o.back o.good) enters_rep (fun x hx W hW q n c hq => rep_is (h1.ok.2.1 x hx).1 hq (X1.out.below hW)) (fun x _ he => reportV_step he) hF1)
  obtain ⟨r9, hr9⟩ : ∃ r9, eventR (reportV o.step o.try_ o.back o.good) t o.saga = r9 := ⟨_, rfl⟩
  rw [hr9] at C ⊢
  obtain ⟨t9, ht9⟩ : ∃ t9, eventS (reportV o.step o.try_ o.back o.good) t o.saga = t9 := ⟨_, rfl⟩
  rw [ht9] at C ⊢
  clear hr9 ht9
  generalize o.name = nm at a3
  generalize o.saga = sg at a5 C
  clear a3 a4
  have HW1 := hide hW1.symm
  have HG := hide hd.symm
  clear h _hk _hn hst hst1 _hw _hla hF hF1 hW1 hd h1 hlt
  go_enter Tryz.func14, Tryz.ntmps14
  go_wp2_with (fail)
  simp only [HW1.out, HG.out]
  refine CM.out.mono ?_
  rintro e w2 ⟨rfl, rfl⟩
  go_wp2_with (fail)
  refine C.out.mono ?_
  rintro e w3 ⟨rfl, hb3, ht3⟩
  have T3 := hide ht3
  have H3 := hide hb3
  clear hb3 ht3 C
  have Y3 : Hid (RBox (d + 1) (errR 0) w3) := Y1.out.turned T3.out (by have := HYG.out; omega)
  go_wp2_with (refine wpList_store_rep (r := r9) (by rfl) _ _ (by rfl) (by rfl) Y3.out (by rfl) ?_)
  intro w9 Z9 G9
  have HZ := hide Z9
  have T9 : Hid (Turned (fun i => i = d + 1) w3 w9) := Turned.of_grown G9 (fun g e => (Option.some.inj e).symm)
  clear Z9 G9
  go_wp2
  refine bodyPost_ret (results_cell_row Tryz.results14 _ _ (d + 1) 44 _ (0, 0) _ (by rfl) HZ.out Tryz.underlying44 (by rfl) (by kernel_rfl)) (by rfl) ?_
  have B9 := (H3.out).turned T9.out (by have := HYG.out; omega) (by have := HYG.out; omega) (fun i hi => hi.2)
  have La : Turned (fun i => i = g ∨ i = b) w W1 := Turned.of_below L1.out _
  exact ⟨rfl, B9.mono (fun i _ hf => hf.1) HA.out.2.1 HA.out.2.2, (La.trans T3.out).onto T9.out (fun i hi => .inr (by have := HY.out; omega))⟩
set_option maxHeartbeats 4000000 in
set_option maxRecDepth 100000 in
theorem apply_5 {F0 : Nat → Prop} {o : OpD} {A : Option Addr} {n c : Nat} (h : BookAt F w g b k most t) (_hk : k ≤ 1000000) (_hn : t.L.length ≤ 1000000) (hst : StepsAt F0 w (.slice A n c) o.steps) (_hw : o.wf) (_hla : t.last < 4611686018427387904) (hF : ∀ i, w.heap.size ≤ i → F i) (hkd : o.kind = 5) :
    Calls Tryz.prog 14 #[.pointer (some ⟨g, 0, none⟩), .agg (o.cells (.slice A n c)).toArray] w (Did F g b (k + 1) most (eventR (lapseV o.step o.try_ o.back) t o.saga) (eventS (lapseV o.step o.try_ o.back) t o.saga) w) := by
  have hlt := h.lt
  obtain ⟨W1, hW1⟩ : ∃ W1, W1 = (w.alloc (.cells (o.cells (.slice A n c)).toArray 33 (0, 0))).alloc (.cells #[.int .i64 0, .int .i64 0, .int .i64 0, .int .i64 0] 44 (0, 0)) := ⟨_, rfl⟩
  obtain ⟨d, hd⟩ : ∃ d, d = w.heap.size := ⟨_, rfl⟩
  have X1 : Hid (OBox d o (.slice A n c) W1) := by rw [hW1, hd]; exact (heap_alloc_old _ _ (by simp)).trans (heap_alloc_new _ _)
  have Y1 : Hid (RBox (d + 1) (errR 0) W1) := by rw [hW1, hd]; exact heap_second _ _ _
  have L1 : Hid (Later w W1) := by rw [hW1]; exact ((Below.refl _ _).alloc (Nat.le_refl _) _).alloc (by simp) _
  have HYG : Hid (g < d + 1 ∧ b < d + 1) := by rw [hd]; exact ⟨by omega, by omega⟩
  have HY : Hid (w.heap.size ≤ d + 1) := by rw [hd]; exact Nat.le_succ _
  have HYW : Hid (d + 1 < W1.heap.size) := lt_of_block Y1.out
  have h1 : BookAt (fun i => F i ∧ i ≠ d + 1) W1 g b k most t := (h.mono (G := fun i => F i ∧ i ≠ d + 1) (fun i hi hf => ⟨hf, by omega⟩) (fun e => h.apart.2.1 e.1) (fun e => h.apart.2.2 e.1)).later L1.out
  have hF1 : ∀ i, W1.heap.size ≤ i → F i ∧ i ≠ d + 1 := fun i hi => by
    have a1 := Below.size L1.out
    have a2 := HYW.out
    exact ⟨hF i (by omega), by omega⟩
  have H1 := hide h1
  have HA := hide h.apart
  have hst1 := StepsAt.kept hst (Kept.of_below L1.out _)
  have CM := hide (made_yes h1)
  obtain ⟨a0, a3, a4, a5, a6, a7, a8, a9⟩ := X1.out.at_
  clear a6 a7 a8 a9
  rw [hkd] at a0
  clear hkd
  have C := hide (behind_any h1 _hk _hw.2.2.2.2.2.1 39 #[.pointer (some ⟨d, 0, none⟩)] (lapseV o.step o.try_ o.back) enters_lap (fun x hx W hW q n c hq => lap_is (h1.ok.2.1 x hx).1 hq (X1.out.below hW)) (fun x _ he => lapseV_step he) hF1)
  obtain ⟨r9, hr9⟩ : ∃ r9, eventR (lapseV o.step o.try_ o.back) t o.saga = r9 := ⟨_, rfl⟩
  rw [hr9] at C ⊢
  obtain ⟨t9, ht9⟩ : ∃ t9, eventS (lapseV o.step o.try_ o.back) t o.saga = t9 := ⟨_, rfl⟩
  rw [ht9] at C ⊢
  clear hr9 ht9
  generalize o.name = nm at a3
  generalize o.saga = sg at a5 C
  clear a3 a4
  have HW1 := hide hW1.symm
  have HG := hide hd.symm
  clear h _hk _hn hst hst1 _hw _hla hF hF1 hW1 hd h1 hlt
  go_enter Tryz.func14, Tryz.ntmps14
  go_wp2_with (fail)
  simp only [HW1.out, HG.out]
  refine CM.out.mono ?_
  rintro e w2 ⟨rfl, rfl⟩
  go_wp2_with (fail)
  refine C.out.mono ?_
  rintro e w3 ⟨rfl, hb3, ht3⟩
  have T3 := hide ht3
  have H3 := hide hb3
  clear hb3 ht3 C
  have Y3 : Hid (RBox (d + 1) (errR 0) w3) := Y1.out.turned T3.out (by have := HYG.out; omega)
  go_wp2_with (refine wpList_store_rep (r := r9) (by rfl) _ _ (by rfl) (by rfl) Y3.out (by rfl) ?_)
  intro w9 Z9 G9
  have HZ := hide Z9
  have T9 : Hid (Turned (fun i => i = d + 1) w3 w9) := Turned.of_grown G9 (fun g e => (Option.some.inj e).symm)
  clear Z9 G9
  go_wp2
  refine bodyPost_ret (results_cell_row Tryz.results14 _ _ (d + 1) 44 _ (0, 0) _ (by rfl) HZ.out Tryz.underlying44 (by rfl) (by kernel_rfl)) (by rfl) ?_
  have B9 := (H3.out).turned T9.out (by have := HYG.out; omega) (by have := HYG.out; omega) (fun i hi => hi.2)
  have La : Turned (fun i => i = g ∨ i = b) w W1 := Turned.of_below L1.out _
  exact ⟨rfl, B9.mono (fun i _ hf => hf.1) HA.out.2.1 HA.out.2.2, (La.trans T3.out).onto T9.out (fun i hi => .inr (by have := HY.out; omega))⟩
set_option maxHeartbeats 4000000 in
set_option maxRecDepth 100000 in
theorem apply_9 {F0 : Nat → Prop} {o : OpD} {A : Option Addr} {n c : Nat} (h : BookAt F w g b k most t) (_hk : k ≤ 1000000) (_hn : t.L.length ≤ 1000000) (hst : StepsAt F0 w (.slice A n c) o.steps) (_hw : o.wf) (_hla : t.last < 4611686018427387904) (hF : ∀ i, w.heap.size ≤ i → F i) (n0 : o.kind ≠ 0) (n1 : o.kind ≠ 1) (n2 : o.kind ≠ 2) (n3 : o.kind ≠ 3) (n4 : o.kind ≠ 4) (n5 : o.kind ≠ 5) :
    Calls Tryz.prog 14 #[.pointer (some ⟨g, 0, none⟩), .agg (o.cells (.slice A n c)).toArray] w (Did F g b (k + 1) most (errR 2) (t) w) := by
  have hlt := h.lt
  obtain ⟨W1, hW1⟩ : ∃ W1, W1 = (w.alloc (.cells (o.cells (.slice A n c)).toArray 33 (0, 0))).alloc (.cells #[.int .i64 0, .int .i64 0, .int .i64 0, .int .i64 0] 44 (0, 0)) := ⟨_, rfl⟩
  obtain ⟨d, hd⟩ : ∃ d, d = w.heap.size := ⟨_, rfl⟩
  have X1 : Hid (OBox d o (.slice A n c) W1) := by rw [hW1, hd]; exact (heap_alloc_old _ _ (by simp)).trans (heap_alloc_new _ _)
  have Y1 : Hid (RBox (d + 1) (errR 0) W1) := by rw [hW1, hd]; exact heap_second _ _ _
  have L1 : Hid (Later w W1) := by rw [hW1]; exact ((Below.refl _ _).alloc (Nat.le_refl _) _).alloc (by simp) _
  have HYG : Hid (g < d + 1 ∧ b < d + 1) := by rw [hd]; exact ⟨by omega, by omega⟩
  have HY : Hid (w.heap.size ≤ d + 1) := by rw [hd]; exact Nat.le_succ _
  have HYW : Hid (d + 1 < W1.heap.size) := lt_of_block Y1.out
  have h1 : BookAt (fun i => F i ∧ i ≠ d + 1) W1 g b k most t := (h.mono (G := fun i => F i ∧ i ≠ d + 1) (fun i hi hf => ⟨hf, by omega⟩) (fun e => h.apart.2.1 e.1) (fun e => h.apart.2.2 e.1)).later L1.out
  have hF1 : ∀ i, W1.heap.size ≤ i → F i ∧ i ≠ d + 1 := fun i hi => by
    have a1 := Below.size L1.out
    have a2 := HYW.out
    exact ⟨hF i (by omega), by omega⟩
  have H1 := hide h1
  have HA := hide h.apart
  have hst1 := StepsAt.kept hst (Kept.of_below L1.out _)
  have CM := hide (made_yes h1)
  obtain ⟨a0, a3, a4, a5, a6, a7, a8, a9⟩ := X1.out.at_
  clear a6 a7 a8 a9
  have e0 : (o.kind == 0) = false := by simpa using n0
  have e1 : (o.kind == 1) = false := by simpa using n1
  have e2 : (o.kind == 2) = false := by simpa using n2
  have e3 : (o.kind == 3) = false := by simpa using n3
  have e4 : (o.kind == 4) = false := by simpa using n4
  have e5 : (o.kind == 5) = false := by simpa using n5
  generalize o.kind = kd at a0 e0 e1 e2 e3 e4 e5
  clear n0 n1 n2 n3 n4 n5
  clear a3 a4 a5
  have HW1 := hide hW1.symm
  have HG := hide hd.symm
  clear h _hk _hn hst hst1 _hw _hla hF hF1 hW1 hd h1 hlt
  go_enter Tryz.func14, Tryz.ntmps14
  go_wp2_with (fail)
  simp only [HW1.out, HG.out]
  refine CM.out.mono ?_
  rintro e w2 ⟨rfl, rfl⟩
  go_wp2_with (refine wpList_store_rep (r := errR 2) (by rfl) _ _ (by rfl) (by rfl) Y1.out (by rfl) ?_)
  intro w9 Z9 G9
  have HZ := hide Z9
  have T9 : Hid (Turned (fun i => i = d + 1) W1 w9) := Turned.of_grown G9 (fun g e => (Option.some.inj e).symm)
  clear Z9 G9
  go_wp2
  refine bodyPost_ret (results_cell_row Tryz.results14 _ _ (d + 1) 44 _ (0, 0) _ (by rfl) HZ.out Tryz.underlying44 (by rfl) (by kernel_rfl)) (by rfl) ?_
  have B9 := (H1.out).turned T9.out (by have := HYG.out; omega) (by have := HYG.out; omega) (fun i hi => hi.2)
  exact ⟨rfl, (B9.mono (fun i _ hf => hf.1) HA.out.2.1 HA.out.2.2).more (by omega), (Turned.of_below L1.out _).onto T9.out (fun i hi => .inr (by have := HY.out; omega))⟩
theorem apply_any {F0 : Nat → Prop} {o : OpD} {A : Option Addr} {n c : Nat} (h : BookAt F w g b k most t) (hk : k ≤ 1000000) (hn : t.L.length ≤ 1000000) (hst : StepsAt F0 w (.slice A n c) o.steps) (hw : o.wf) (hla : t.last < 4611686018427387904) (hF : ∀ i, w.heap.size ≤ i → F i) :
    Calls Tryz.prog 14 #[.pointer (some ⟨g, 0, none⟩), .agg (o.cells (.slice A n c)).toArray] w (Did F g b (k + 1) most (applyR most t o) (applyS most t o) w) := by
  unfold applyR applyS
  by_cases n0 : o.kind = 0
  · simp only [n0, if_true]
    exact apply_0 h hk hn hst hw hla hF n0
  by_cases n1 : o.kind = 1
  · simp only [n1, if_true]
    exact apply_1 h hk hn hst hw hla hF n1
  by_cases n2 : o.kind = 2
  · simp only [n2, if_true]
    exact apply_2 h hk hn hst hw hla hF n2
  by_cases n3 : o.kind = 3
  · simp only [n3, if_true]
    exact apply_3 h hk hn hst hw hla hF n3
  by_cases n4 : o.kind = 4
  · simp only [n4, if_true]
    exact apply_4 h hk hn hst hw hla hF n4
  by_cases n5 : o.kind = 5
  · simp only [n5, if_true]
    exact apply_5 h hk hn hst hw hla hF n5
  simp only [n0, n1, n2, n3, n4, n5, if_false]
  exact apply_9 h hk hn hst hw hla hF n0 n1 n2 n3 n4 n5
end
end Go.Proofs.YtpicnoinnngpeaaGreat
/- A literal slice of one struct, and append of such a slice to a row, at an operation of a region that draws its order. -/
namespace Go.Proofs.YtpicnoinnngpeaaGreat
open Go.RowKit

section
variable {P : Program} {w : World} {op : Oper} {a : Act} {K : Act → World → Prop} {Q : Exit → Act → World → Prop}
theorem wp_buildSlice_one (t e : TypeId) (x : Operand) (ho : op.op = .buildSlice t 1 #[(0, x)]) (i : TypeInfo) (z : Value) (k : Nat) (ht : P.underlying t = some (.slice e)) (hi : P.info? e = some i) (hz : i.zero = some z) (hs : i.size = k) (hk : 0 < k) (hk2 : k ≤ 16777216)
    (cells : Array Value) (hx : a.eval x = .agg cells) (hc : cells.size = k)
    (h : K (a.put op.dst (.slice (some ⟨w.heap.size, 0, none⟩) 1 1)) (w.alloc (.cells cells e (0, 0)))) : op.wp P a w K Q := by
  have hr := run_buildSlice_one (P := P) (w := w) t e i z k ht hi hz hs hk hk2 cells hc
  unfold Oper.wp
  simp [execOp, ho, hx, hr, Result.andThen]
  exact h
/-- A literal slice of one struct is a slice of it, in a new block. -/
theorem flat_one (w : World) (e k : Nat) (cells : Array Value) (hc : cells.size = k) (h1 : ∀ u ∈ cells.toList, u.oneCell' = true) (F : Nat → Prop) (hF : F w.heap.size) :
    FlatAt F (w.alloc (.cells cells e (0, 0))) k (.slice (some ⟨w.heap.size, 0, none⟩) 1 1) 1 cells.toList := by
  have hb : (w.alloc (.cells cells e (0, 0))).heap[w.heap.size]? = some (.cells cells e (0, 0)) := heap_alloc_new _ _
  refine ⟨by simp [hc], h1, some ⟨w.heap.size, 0, none⟩, 1, rfl, Nat.le_refl _, by unfold maxLen; omega, (fun h => by cases h), fun _ => ⟨w.heap.size, 0, rfl, hF, lt_of_block hb, fun j u hj => ?_⟩⟩
  rw [cell_of_row _ _ _ _ _ _ hb, Nat.zero_add]
  simpa using hj
theorem wp_append_flat (s x : Operand) (t : TypeId)
    (ho : op.op = .call { callee := .builtin .append, args := #[s, x], argTypes := #[t, t] })
    (base : Nat) (e : TypeId) (i : TypeInfo) (z : Value) (k bytes : Nat) (ht : P.underlying t = some (.slice e)) (hi : P.info? e = some i) (hz : i.zero = some z)
    (hsize : i.size = k) (hby : i.bytes = bytes) (hzs : z.cells.size = k) (hk : 0 < k)
    (v : Value) (n : Nat) (xs : List Value) (hs : a.eval s = v) (hown : w.ownsRow base e k v n xs)
    (g c m : Nat) (ys : List Value) (hx : a.eval x = .slice (some ⟨g, 0, none⟩) m c) (F : Nat → Prop) (hl : FlatAt F w k (.slice (some ⟨g, 0, none⟩) m c) m ys) (hm : 0 < m) (hroom : n + m ≤ maxLen) (hbytes : (n + m) * bytes ≤ 140737488355328) (hbase : base ≤ w.heap.size)
    (h : ∀ v' w', w'.ownsRow base e k v' (n + m) (xs ++ ys) → w.grownBy w' v.ownBlock → (v'.ownBlock = v.ownBlock ∨ v'.ownBlock = some w.heap.size) → K (a.put op.dst v') w') : op.wp P a w K Q := by
  obtain ⟨hlen, h1, A', c', hv, h3, h4, h5, h6⟩ := hl
  obtain ⟨rfl, rfl⟩ : some ⟨g, 0, none⟩ = A' ∧ c = c' := by injection hv with e1 _ e3; exact ⟨e1, e3⟩
  obtain ⟨v', w', hr, h2, h3, _, h5⟩ := run_append_own_at (P := P) w base t op.type e i z k bytes ht hi hz hsize hby hzs hk v n xs hown ⟨g, 0, none⟩ m c ys hlen
      (fun j u hu => by
        obtain ⟨b, off, h, _, _, hr⟩ := h6 hm
        injection h with h
        injection h with e1 e2
        subst e1 e2
        rw [Addr.add_lit]
        exact hr j u hu) h1 hroom hbytes hbase
  unfold Oper.wp execOp
  simp only [ho, resolve, invoke, builtin, Sem.run_bind, Sem.run_pure, Result.andThen_ok, List.map_toArray, List.map_cons, List.map_nil, hs, hx, hr]
  exact h v' w' h2 h3 h5
end
end Go.Proofs.YtpicnoinnngpeaaGreat
/- Replies are compared; the document's example of package book. -/
namespace Go.Proofs.YtpicnoinnngpeaaGreat
open Go.RowKit Go.Maps
theorem eql_rep (x y : RepD) (w : World) : (binOp .eql 44 x.val y.val).run Tryz.prog w = .ok (.bool (decide (x = y))) w := by
  obtain ⟨a, b, c, d⟩ := x
  obtain ⟨a', b', c', d'⟩ := y
  have u3 := Tryz.underlying3
  have u4 := Tryz.underlying4
  have u34 := Tryz.underlying42
  have hS : Tryz.prog.underlying 44 = some (.struct (Tryz.prog.fieldsOf 44)) := by kernel_rfl
  have hp : Tryz.prog.stoodInHeld 44 = false := by kernel_rfl
  unfold RepD.val RepD.cells
  rw [run_eql_struct, show (10000 : Nat) = 9999 + 1 from rfl, run_equalIn_struct w 9999 44 _ _ hS hp]
  simp only [Program.fieldsOf, Tryz.underlying44]
  go_simp
  by_cases h0 : a = a' <;> by_cases h1 : b = b' <;> by_cases h2 : c = c' <;> by_cases h3 : d = d' <;> simp [h0, h1, h2, h3]
theorem exec_eql_rep {op : Oper} {a : Act} {w : World} (x y : RepD) (p q : Operand) (t : TypeId) (ho : op.op = .binOp .eql 44 p q t) (hp : a.eval p = x.val) (hq : a.eval q = y.val) : (execOp a.eval op).run Tryz.prog w = .ok (.value (.bool (decide (x = y)))) w := by
  unfold execOp
  simp only [ho, hp, hq, Sem.run_bind, eql_rep, run_eqGuard_agg (P := Tryz.prog) w .eql 44 p q x.cells.toArray y.cells.toArray (by kernel_rfl), Result.andThen_ok, Sem.run_pure]
theorem neq_rep (x y : RepD) (w : World) : (binOp .neq 44 x.val y.val).run Tryz.prog w = .ok (.bool (!decide (x = y))) w := by
  obtain ⟨a, b, c, d⟩ := x
  obtain ⟨a', b', c', d'⟩ := y
  have u3 := Tryz.underlying3
  have u4 := Tryz.underlying4
  have u34 := Tryz.underlying42
  have hS : Tryz.prog.underlying 44 = some (.struct (Tryz.prog.fieldsOf 44)) := by kernel_rfl
  have hp : Tryz.prog.stoodInHeld 44 = false := by kernel_rfl
  unfold RepD.val RepD.cells
  rw [run_neq_struct, show (10000 : Nat) = 9999 + 1 from rfl, run_equalIn_struct w 9999 44 _ _ hS hp]
  simp only [Program.fieldsOf, Tryz.underlying44]
  go_simp
  by_cases h0 : a = a' <;> by_cases h1 : b = b' <;> by_cases h2 : c = c' <;> by_cases h3 : d = d' <;> simp [h0, h1, h2, h3]
theorem exec_neq_rep {op : Oper} {a : Act} {w : World} (x y : RepD) (p q : Operand) (t : TypeId) (ho : op.op = .binOp .neq 44 p q t) (hp : a.eval p = x.val) (hq : a.eval q = y.val) : (execOp a.eval op).run Tryz.prog w = .ok (.value (.bool (!decide (x = y)))) w := by
  unfold execOp
  simp only [ho, hp, hq, Sem.run_bind, neq_rep, run_eqGuard_agg (P := Tryz.prog) w .neq 44 p q x.cells.toArray y.cells.toArray (by kernel_rfl), Result.andThen_ok, Sem.run_pure]
theorem exec_load_rep {op : Oper} {a : Act} {w : World} {g : Nat} {r : RepD} (x : Operand) (ho : op.op = .load 44 x) (hx : a.eval x = .pointer (some ⟨g, 0, none⟩)) (hg : RBox g r w) : (execOp a.eval op).run Tryz.prog w = .ok (.value r.val) w :=
  exec_load_box 44 x ho g 0 hx _ _ hg 4 _ Tryz.underlying44 (by rfl) (by kernel_rfl) r.cells (by rfl) (by rfl)
theorem field_err (r : RepD) (W : World) : (Instr.field 44 r.val 0).run Tryz.prog W = .ok (.int .i64 r.err) W := by kernel_rfl
theorem exec_field_err {op : Oper} {a : Act} {w : World} (x : Operand) (r : RepD) (ho : op.op = .field 44 x 0) (hx : a.eval x = r.val) : (execOp a.eval op).run Tryz.prog w = .ok (.value (.int .i64 r.err)) w := by
  unfold execOp
  simp only [ho, hx, Sem.run_bind, field_err, Result.andThen_ok, Sem.run_pure]
theorem RBox.cells_ {g : Nat} {r : RepD} {w : World} (h : RBox g r w) : w.cell? ⟨g, 0, none⟩ = some (.int .i64 r.err) ∧ w.cell? ⟨g, 1, none⟩ = some (.int .i64 r.saga) ∧ w.cell? ⟨g, 2, none⟩ = some (.int .i64 r.st) ∧ w.cell? ⟨g, 3, none⟩ = some (.int .i64 r.step) :=
  ⟨cell_of_row w g 0 _ _ _ h, cell_of_row w g 1 _ _ _ h, cell_of_row w g 2 _ _ _ h, cell_of_row w g 3 _ _ _ h⟩
/-- The document's example. -/
def holdB : StepD := ⟨⟨#[98]⟩, 1, 0, 1, true, false⟩
abbrev lB : List StepD := [holdB]
abbrev nmB : ByteArray := ⟨#[97]⟩
def opStart (name : ByteArray) (l : List StepD) : OpD := ⟨1, 0, 0, name, l, 0, 0, 0, false, false⟩
def opCan (id : Int) : OpD := ⟨2, 0, 0, ⟨#[]⟩, [], id, 0, 0, false, false⟩
theorem lB_ok : (checkF nmB lB).2 = 0 := by decide +kernel
theorem lB_wf : ∀ x ∈ lB, x.wf := by simp [holdB, StepD.wf, I64]; decide
theorem opB_wf : (opStart nmB lB).wf := ⟨⟨by decide, by decide⟩, ⟨by decide, by decide⟩, ⟨by decide, by decide⟩, by decide, lB_wf, ⟨by decide, by decide⟩, ⟨by decide, by decide⟩, ⟨by decide, by decide⟩⟩
theorem opCan_wf : (opCan 2).wf := ⟨⟨by decide, by decide⟩, ⟨by decide, by decide⟩, ⟨by decide, by decide⟩, by decide, by simp [opCan], ⟨by decide, by decide⟩, ⟨by decide, by decide⟩, ⟨by decide, by decide⟩⟩
theorem startB_R (most : Int) (t : BkS) (hm : (openN t.L : Int) < most) : applyR most t (opStart nmB lB) = ⟨0, t.last + 1, 1, 1⟩ := by
  unfold applyR startR opStart
  simp only [show ¬ ((1 : Int) = 0) from by decide, if_false, if_true, lB_ok, ne_eq, not_true_eq_false]
  rw [if_neg (by omega)]
theorem startB_S (most : Int) (t : BkS) (hm : (openN t.L : Int) < most) : applyS most t (opStart nmB lB) = ⟨t.last + 1, putE (newE (t.last + 1) nmB lB) (roomF t.L)⟩ := by
  unfold applyS startS opStart
  simp only [if_true, lB_ok, ne_eq, not_true_eq_false, if_false]
  rw [if_neg (by omega)]
theorem startB_full (most : Int) (t : BkS) (hm : most ≤ (openN t.L : Int)) : applyR most t (opStart nmB lB) = errR 7 ∧ applyS most t (opStart nmB lB) = t := by
  constructor
  · unfold applyR startR opStart
    simp only [show ¬ ((1 : Int) = 0) from by decide, if_false, if_true, lB_ok, ne_eq, not_true_eq_false]
    rw [if_pos hm]
  · unfold applyS startS opStart
    simp only [if_true, lB_ok, ne_eq, not_true_eq_false, if_false]
    rw [if_pos hm]
/-- The steps of the example, in a new block. -/
theorem stepB_at (w : World) (F : Nat → Prop) (hF : F w.heap.size) : StepsAt F (w.alloc (.cells holdB.cells.toArray 66 (0, 0))) (.slice (some ⟨w.heap.size, 0, none⟩) 1 1) lB :=
  flat_one w _ 6 holdB.cells.toArray rfl holdB.one F hF
section
variable {w : World}
set_option maxHeartbeats 8000000 in
set_option maxRecDepth 100000 in
theorem lives_any : Calls Tryz.prog 9 #[] w fun e w' => e = .returned (.bool true) ∧ Later w w' := by
  obtain ⟨i0, hi, hz0, hz1, _⟩ := info_parts (show (Tryz.prog.info? 66).map (fun i => (i.zero, i.size, i.bytes)) = some (some (.agg #[.string ⟨#[]⟩, .int .i64 0, .int .i64 0, .int .i64 0, .bool false, .bool false]), 6, 48) from by kernel_rfl)
  have HI := hide hi
  have HZ0 := hide hz0
  have HZ1 := hide hz1
  clear hi hz0 hz1
  have CN := hide (new_yes 2 w (by decide) (by decide))
  go_enter Tryz.func9, Tryz.ntmps9
  go_wp2_with (fail)
  refine CN.out.mono ?_
  rintro e w1 ⟨g, b, rfl, hg, hb, hl1, hbk⟩
  have HBK := hide (hbk (fun i => i ≠ g ∧ i ≠ b) (fun h => h.1 rfl) (fun h => h.2 rfl))
  have HGB := hide (And.intro hg hb)
  have L1 : Hid (Later w w1) := hl1
  obtain ⟨z, hz⟩ : ∃ z, w1.heap.size = z := ⟨_, rfl⟩
  obtain ⟨W2, hW2⟩ : ∃ W2, W2 = w1.alloc (.cells holdB.cells.toArray 66 (0, 0)) := ⟨_, rfl⟩
  obtain ⟨W3, hW3⟩ : ∃ W3, W3 = W2.alloc (.cells #[.string nmB, .slice (some ⟨z, 0, none⟩) 1 1] 31 (0, 0)) := ⟨_, rfl⟩
  have hz2 : W2.heap.size = z + 1 := by rw [hW2, ← hz]; simp
  have S2 : StepsAt (fun _ => True) W2 (.slice (some ⟨z, 0, none⟩) 1 1) lB := by rw [hW2, ← hz]; exact stepB_at w1 _ trivial
  have L12 : Later w1 W2 := by rw [hW2]; exact (Below.refl _ _).alloc (Nat.le_refl _) _
  have L23 : Later W2 W3 := by rw [hW3]; exact (Below.refl _ _).alloc (Nat.le_refl _) _
  have S3 : Hid (StepsAt (fun _ => True) W3 (.slice (some ⟨z, 0, none⟩) 1 1) lB) := StepsAt.kept S2 (Kept.of_below L23 _)
  have B3 : DefBox (z + 1) nmB (.slice (some ⟨z, 0, none⟩) 1 1) W3 := by rw [hW3, ← hz2]; exact heap_alloc_new W2 _
  have L13 : Hid (Later w1 W3) := Later.trans L12 L23
  have H3 := hide (HBK.out.later L13.out)
  have d0 : W3.cell? ⟨z + 1, 0, none⟩ = some (.string nmB) := B3.name_
  have d1 : W3.cell? ⟨z + 1, 1, none⟩ = some (.slice (some ⟨z, 0, none⟩) 1 1) := B3.steps
  have CA := hide (apply_any (o := opStart nmB lB) H3.out (by decide) (by decide) S3.out opB_wf (by decide) (fun i hi => by have a1 := H3.out.lt; exact ⟨by omega, by omega⟩))
  rw [startB_R 2 ⟨0, []⟩ (by decide), startB_S 2 ⟨0, []⟩ (by decide)] at CA
  have HZ := hide hz
  have HZ2 := hide hz2
  have HW2 := hide hW2.symm
  have HW3 := hide hW3.symm
  clear hz hz2 hW2 hW3 hg hb hl1 hbk S2 L12 L23 B3 CN
  unfold OpD.cells opStart at CA
  go_wp2_with (refine wpList_buildSlice_one (by rfl) 29 66 _ (by rfl) i0 _ 6 Tryz.underlying29 HI.out HZ0.out HZ1.out (by omega) (by omega) holdB.cells.toArray (by rfl) (by rfl) ?_; rw [HW2.out, HZ.out])
  simp only [HW3.out, HZ2.out]
  go_wp2_with (fail)
  refine CA.out.mono ?_
  rintro e w4 ⟨rfl, hb4, ht4⟩
  have H4 := hide hb4
  have T4 := hide ht4
  have R4 : Hid (RBox w4.heap.size (errR 0) (w4.alloc (.cells #[.int .i64 0, .int .i64 0, .int .i64 0, .int .i64 0] 44 (0, 0)))) := heap_alloc_new _ _
  have L4 : Hid (Later w4 (w4.alloc (.cells #[.int .i64 0, .int .i64 0, .int .i64 0, .int .i64 0] 44 (0, 0)))) := (Below.refl _ _).alloc (Nat.le_refl _) _
  clear hb4 ht4 CA d0 d1
  go_wp2_with (refine wpList_store_rep (r := ⟨0, 0 + 1, 1, 1⟩) (by rfl) _ _ (by rfl) (by rfl) R4.out (by rfl) ?_)
  intro w5 Z5 G5
  have L45 : Hid (Later w4 w5) := L4.out.grown G5 (by simp) (fun k hk => by have := Option.some.inj hk; omega)
  have X5 := hide Z5
  have H5 := hide (H4.out.later L45.out)
  have CB := hide (apply_any (o := opCan 2) H5.out (by decide) (by decide) (StepsAt.nil_ (fun _ => True) _) opCan_wf (by decide) (fun i hi => by have a1 := H5.out.lt; exact ⟨by omega, by omega⟩))
  have hrc : applyR 2 ⟨0 + 1, putE (newE (0 + 1) nmB lB) (roomF [])⟩ (opCan 2) = errR 8 := by kernel_rfl
  rw [hrc] at CB
  obtain ⟨t9, ht9⟩ : ∃ t9, applyS 2 ⟨0 + 1, putE (newE (0 + 1) nmB lB) (roomF [])⟩ (opCan 2) = t9 := ⟨_, rfl⟩
  rw [ht9] at CB
  unfold OpD.cells opCan at CB
  clear Z5 G5 hrc ht9 L4 R4
  go_wp2_with (first | (refine wpList_val rfl (by rfl) (exec_load_rep _ (by rfl) (by rfl) X5.out) ?_) | (refine wpList_val rfl (by rfl) (exec_eql_rep ⟨0, 0 + 1, 1, 1⟩ ⟨0, 1, 1, 1⟩ _ _ _ (by rfl) (by rfl) (by rfl)) ?_; rw [show decide ((⟨0, 0 + 1, 1, 1⟩ : RepD) = ⟨0, 1, 1, 1⟩) = true from rfl]))
  refine CB.out.mono ?_
  rintro e w6 ⟨rfl, hb6, ht6⟩
  have T6 := hide ht6
  clear hb6 ht6 CB
  go_wp2_with (refine wpList_val rfl (by rfl) (exec_field_err _ (errR 8) (by rfl) (by rfl)) ?_)
  go_ret
  have La : Later w W3 := Later.trans (show Later w w1 from L1.out) L13.out
  have Ta : Turned (fun i => i = g ∨ i = b) W3 w5 := T4.out.trans (Turned.of_below L45.out _)
  have Tb : Turned (fun i => i = g ∨ i = b) W3 w6 := Ta.trans T6.out
  have Tc : Turned (fun _ => False) w w6 := (Turned.of_below La _).onto Tb (fun i hi => .inr (by have := HGB.out; rcases hi with rfl | rfl <;> omega))
  exact ⟨rfl, Tc.below (fun i hi => hi.elim) (Nat.le_refl _)⟩
end
end Go.Proofs.YtpicnoinnngpeaaGreat
/- BookRoom, as data: what starts and reports of the example's sagas leave. -/
namespace Go.Proofs.YtpicnoinnngpeaaGreat
open Go.RowKit Go.Maps
def runB : SagaD := ⟨nmB, none, 0, 0, 1, 1, 1, upH 0⟩
def doneB : SagaD := ⟨nmB, none, 0, 0, 3, 0, 0, (upH 0).set 0 true⟩
def opRep (id : Int) : OpD := ⟨4, 0, 0, ⟨#[]⟩, [], id, 1, 1, false, true⟩
theorem rep_run : reportV 1 1 false true lB runB = (doneB, 0) := by kernel_rfl
theorem rep_done : (reportV 1 1 false true lB doneB).2 = 10 := by kernel_rfl
theorem run_open (id : Int) : (Ent.mk id runB lB).isOpen = true := rfl
theorem done_open (id : Int) : (Ent.mk id doneB lB).isOpen = false := rfl
/-- Such a book: its sagas are the example's, going on or done; so many go on; the last number. -/
structure RoomI (n : Nat) (t : BkS) (la op : Nat) : Prop where
  last : t.last = (la : Int)
  ids : ∀ x ∈ t.L, x.id ≤ (la : Int)
  each : ∀ x ∈ t.L, x.l = lB ∧ (x.s = runB ∨ x.s = doneB)
  count : openN t.L = op
  most : op ≤ n
  len : t.L.length ≤ 32
theorem RoomI.start0 (n : Nat) : RoomI n ⟨0, []⟩ 0 0 := ⟨rfl, by simp, by simp, rfl, by omega, by simp⟩
theorem isOpen_st {x : Ent} (h : x.s = runB ∨ x.s = doneB) : x.isOpen = (x.s.st == 1) ∧ (x.isOpen = false → (x.s.st == 3) = true) ∧ (x.isOpen = true → (x.s.st == 3) = false) := by
  unfold Ent.isOpen
  rcases h with h | h <;> rw [h] <;> simp [runB, doneB]
theorem RoomI.running {n : Nat} {t : BkS} {la op : Nat} (h : RoomI n t la op) : stateN t.L 1 = op := by
  rw [← h.count]
  unfold stateN openN
  refine List.countP_congr fun x hx => ?_
  rw [(isOpen_st (h.each x hx).2).1]
theorem both_states : ∀ (L : List Ent), (∀ x ∈ L, x.s = runB ∨ x.s = doneB) → stateN L 1 + stateN L 3 = L.length
  | [], _ => rfl
  | x :: r, h => by
    have ih := both_states r (fun y hy => h y (by simp [hy]))
    unfold stateN at ih ⊢
    rw [List.countP_cons, List.countP_cons, List.length_cons]
    rcases h x (by simp) with e | e <;> rw [e] <;> simp [runB, doneB] <;> omega
theorem RoomI.states {n : Nat} {t : BkS} {la op : Nat} (h : RoomI n t la op) : stateN t.L 1 + stateN t.L 3 = t.L.length := both_states t.L fun x hx => (h.each x hx).2
theorem dropE_none {L : List Ent} {id : Int} (h : ∀ x ∈ L, x.id ≠ id) : dropE L id = L := by
  unfold dropE
  rw [List.filter_eq_self]
  intro x hx
  simp [h x hx]
theorem dropE_len : ∀ {L : List Ent} {x : Ent}, RiseE L → x ∈ L → (dropE L x.id).length + 1 = L.length ∧ openN (dropE L x.id) + (if x.isOpen then 1 else 0) = openN L
  | [], _, _, h => by cases h
  | y :: r, x, hr, hx => by
    obtain ⟨h1, h2⟩ := List.pairwise_cons.1 hr
    rcases List.mem_cons.1 hx with rfl | hx
    · have e : dropE (x :: r) x.id = r := by
        unfold dropE
        rw [List.filter_cons_of_neg (by simp)]
        exact dropE_none fun z hz => by have := h1 z hz; omega
      rw [e]
      refine ⟨rfl, ?_⟩
      unfold openN
      rw [List.countP_cons]
    · have ih := dropE_len h2 hx
      have hne := h1 x hx
      have e : dropE (y :: r) x.id = y :: dropE r x.id := by
        unfold dropE
        rw [List.filter_cons_of_pos (by simp; omega)]
      rw [e]
      unfold openN at ih ⊢
      rw [List.countP_cons, List.countP_cons, List.length_cons, List.length_cons]
      omega
theorem roomF_room {L : List Ent} (hr : RiseE L) (hl : L.length ≤ 32) (ho : openN L < 32) : (roomF L).length ≤ 31 ∧ openN (roomF L) = openN L ∧ ∀ x ∈ roomF L, x ∈ L := by
  unfold roomF
  split
  · exact ⟨by omega, rfl, fun _ h => h⟩
  · cases hf : L.find? (fun x => !x.isOpen) with
    | none =>
      exfalso
      have hall : openN L = L.length := by
        unfold openN
        rw [List.countP_eq_length]
        intro x hx
        have := List.find?_eq_none.1 hf x hx
        simpa using this
      omega
    | some x =>
      have hx := List.mem_of_find?_eq_some hf
      have ho2 : x.isOpen = false := by have := List.find?_some hf; simpa using this
      obtain ⟨a1, a2⟩ := dropE_len hr hx
      rw [ho2] at a2
      exact ⟨by simp only; omega, by simpa using a2, fun y hy => dropE_sub y hy⟩
theorem RoomI.start {n : Nat} {t : BkS} {la op : Nat} (h : RoomI n t la op) (hr : RiseE t.L) (hn : n ≤ 32) (ho : op < n) : RoomI n ⟨t.last + 1, putE (newE (t.last + 1) nmB lB) (roomF t.L)⟩ (la + 1) (op + 1) := by
  obtain ⟨a1, a2, a3⟩ := roomF_room hr h.len (by rw [h.count]; omega)
  have hlt : ∀ y ∈ roomF t.L, y.id < (newE (t.last + 1) nmB lB).id := fun y hy => by
    have := h.ids y (a3 y hy)
    have := h.last
    show y.id < t.last + 1
    omega
  have e := putE_last (newE (t.last + 1) nmB lB) hlt
  have hl := h.last
  refine ⟨by show t.last + 1 = _; omega, fun x hx => ?_, fun x hx => ?_, ?_, by omega, ?_⟩
  · rw [e] at hx
    rcases List.mem_append.1 hx with hx | hx
    · have := h.ids x (a3 x hx); omega
    · obtain rfl : x = newE (t.last + 1) nmB lB := by simpa using hx
      show t.last + 1 ≤ _
      omega
  · rw [e] at hx
    rcases List.mem_append.1 hx with hx | hx
    · exact h.each x (a3 x hx)
    · obtain rfl : x = newE (t.last + 1) nmB lB := by simpa using hx
      exact ⟨rfl, .inl rfl⟩
  · simp only [e]
    unfold openN at a2 ⊢
    rw [List.countP_append, a2]
    have := h.count
    unfold openN at this
    rw [this]
    rfl
  · simp only [e]
    rw [List.length_append]
    simp
    omega
theorem openN_put : ∀ {L : List Ent} {x y : Ent}, RiseE L → x ∈ L → y.id = x.id → openN (putE y L) + (if x.isOpen then 1 else 0) = openN L + (if y.isOpen then 1 else 0)
  | [], _, _, _, h, _ => by cases h
  | z :: r, x, y, hr, hx, he => by
    obtain ⟨h1, h2⟩ := List.pairwise_cons.1 hr
    unfold putE
    rcases List.mem_cons.1 hx with rfl | hx
    · rw [if_neg (by omega), if_pos he.symm]
      unfold openN
      rw [List.countP_cons, List.countP_cons]
      omega
    · have hne := h1 x hx
      have ih := openN_put h2 hx he
      rw [if_pos (by omega)]
      unfold openN at ih ⊢
      rw [List.countP_cons, List.countP_cons]
      omega
/-- A report: the saga of that number is done, if it goes on. -/
theorem RoomI.report {n : Nat} {t : BkS} {la op : Nat} (h : RoomI n t la op) (hr : RiseE t.L) (most : Int) (id : Int) :
    ((applyR most t (opRep id)).err = 0 ∧ 1 ≤ op ∧ RoomI n (applyS most t (opRep id)) la (op - 1)) ∨ ((applyR most t (opRep id)).err ≠ 0 ∧ RoomI n (applyS most t (opRep id)) la op) := by
  have eR : applyR most t (opRep id) = eventR (reportV 1 1 false true) t id := rfl
  have eS : applyS most t (opRep id) = eventS (reportV 1 1 false true) t id := rfl
  rw [eR, eS]
  unfold eventR eventS
  cases hx : entAt t.L id with
  | none => exact .inr ⟨by show (8 : Int) ≠ 0; decide, h⟩
  | some x =>
    obtain ⟨hm, hid⟩ := entAt_mem hx
    obtain ⟨xi, xs, xl⟩ := x
    obtain ⟨e1, e2⟩ := h.each _ hm
    simp only at e1 e2 hid
    subst e1 hid
    rcases e2 with rfl | rfl
    · left
      simp only [rep_run]
      have ho := openN_put (y := ⟨xi, doneB, lB⟩) hr hm rfl
      rw [run_open, done_open] at ho
      simp only [if_true, Bool.false_eq_true, if_false] at ho
      have hc := h.count
      refine ⟨rfl, by omega, ⟨h.last, fun y hy => ?_, fun y hy => ?_, ?_, by have := h.most; omega, ?_⟩⟩
      · rcases mem_putE hy with rfl | hy
        · exact (show xi ≤ (la : Int) from h.ids _ hm)
        · exact h.ids y hy
      · rcases mem_putE hy with rfl | hy
        · exact ⟨rfl, .inr rfl⟩
        · exact h.each y hy
      · show openN (putE ⟨xi, doneB, lB⟩ t.L) = op - 1
        omega
      · have hl := putE_len_is ⟨xi, doneB, lB⟩ hr ⟨_, hm, rfl⟩
        have := h.len
        show (putE ⟨xi, doneB, lB⟩ t.L).length ≤ 32
        omega
    · right
      simp only [rep_done]
      exact ⟨by show (10 : Int) ≠ 0; decide, h⟩
end Go.Proofs.YtpicnoinnngpeaaGreat
