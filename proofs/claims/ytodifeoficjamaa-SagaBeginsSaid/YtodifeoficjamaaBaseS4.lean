/- Texts merged: SagK, SagL, SagP, SagQ, LitW, SagN, Long, PlanT, SagR, OpenD, Arg15. -/
import Derived.Test.YtodifeoficjamaaBaseS1
import Derived.Test.YtodifeoficjamaaBaseS2
import Derived.Test.YtodifeoficjamaaBaseS3
import Derived.Test.YtodifeoficjamaaProg
import Derived.Deep.Slices
import Derived.ChangeArms
import Derived.SizedLaws
import Derived.ShutString
import Derived.ProofKit
import Derived.OpenShut
/- A saga is cancelled. -/
namespace Go.Proofs.Ytodifeoficjamaa
open Go.RowKit
/-- What Cancel says: a saga, its steps in new memory, and an error. -/
def CTold (s : SagaD) (err : Int) (l : List StepD) (w : World) (e : Ending) (w' : World) : Prop := ∃ p n c, e = .returned (.tuple #[(s.withV p n c).val, .int .i64 err]) ∧ StepsAt (w.heap.size ≤ ·) w' (.slice p n c) l ∧ Later w w'
section
variable {w : World}
set_option maxHeartbeats 4000000 in
theorem cancel_arg {F : Nat → Prop} {s : SagaD} {l : List StepD} (h : StepsAt F w s.v l) (hl6 : l.length ≤ 1000000) (hw : ∀ x ∈ l, x.wf) (h1 : I64 s.step) (hq : goodF l s = false) : Calls Try.prog 29 #[s.val] w (CTold s 2 l w) := by
  obtain ⟨W1, hW1⟩ : ∃ W1, W1 = (w.alloc (.cells s.cells.toArray 27 (0, 0))).alloc (.cells #[.string ⟨#[]⟩, .slice none 0 0, .int .i64 0, .int .i64 0, .int .i64 0, .bool false, .bool false, .bool false, .bool false, .bool false, .bool false, .bool false, .bool false] 27 (0, 0)) := ⟨_, rfl⟩
  obtain ⟨g, hg⟩ : ∃ g, g = w.heap.size := ⟨_, rfl⟩
  have X1 : Hid (SBox 27 g s W1) := by rw [hW1, hg]; exact (heap_alloc_old _ _ (by simp)).trans (heap_alloc_new _ _)
  have Y1 : Hid (SBox 27 (g + 1) SagaD.zero W1) := by rw [hW1, hg]; exact heap_second _ _ _
  have L1 : Hid (Later w W1) := by rw [hW1]; exact ((Below.refl _ _).alloc (Nat.le_refl _) _).alloc (by simp) _
  have HG0 : Hid (w.heap.size ≤ g) := Nat.le_of_eq hg.symm
  have C : Hid (∀ W, Later W1 W → Calls Try.prog 14 #[s.val] W (Gives (.bool false) W)) := fun W hW => by rw [← hq]; exact good_any (StepsAt.kept h (Kept.of_below (L1.out.trans hW) _)) hw h1
  have CO : Hid (∀ W, Later W1 W → Calls Try.prog 21 #[s.val] W (Owns s l W)) := fun W hW => own_any (StepsAt.kept h (Kept.of_below (L1.out.trans hW) _)) hl6
  have HW1 := hide hW1.symm
  have HG := hide hg.symm
  clear hW1 hg h hl6 hw h1 hq
  have xe := X1.out
  rw [← HW1.out, ← HG.out] at xe
  have XE := hide xe
  clear xe
  go_enter Try.func29, Try.ntmps29
  go_wp2_with (refine wpList_load_saga (by rfl) _ (by rfl) (by rfl) XE.out ?_; simp only [HW1.out, HG.out])
  refine (C.out _ (Later.refl _)).mono ?_
  rintro e w2 ⟨rfl, hl⟩
  have L12 := hide hl
  have L2 := hide (L1.out.trans hl)
  have X2 := hide (X1.out.below hl)
  have Y2 := hide (Y1.out.below hl)
  clear hl C
  go_wp2_with (refine wpList_load_saga (by rfl) _ (by rfl) (by rfl) X2.out ?_)
  refine (CO.out _ L12.out).mono ?_
  rintro e w3 ⟨P, N, K, rfl, hs, hl⟩
  have HS9 := hide hs
  have HLT := hide (Y2.out.lt)
  have L3 := hide (L2.out.trans hl)
  have HSZ := hide (Below.size L2.out)
  have Y3 := hide (Y2.out.below hl)
  clear hl hs
  go_wp2_with (first | (refine wpList_load_saga (by rfl) _ (by rfl) (by rfl) X2.out ?_) | (refine wpList_store_saga (by rfl) _ _ (by rfl) (by rfl) Y3.out (by rfl) ?_; intro w4 Z4 G4))
  have S9 : Hid (StepsAt (w.heap.size ≤ ·) w4 (.slice P N K) l) := FlatAt.mono (own_kept HS9.out HLT.out G4) (fun i _ hf => Nat.le_trans HSZ.out hf)
  have HLF : Hid (Later w _) := L3.out.grown G4 (Below.size L3.out) (fun k hk => by have := Option.some.inj hk; have := HG0.out; omega)
  refine bodyPost_ret (results_box2 Try.results29 _ _ (g + 1) 27 _ _ (by rfl) Z4 Try.underlying27 (by rfl) (by kernel_rfl) (.int .i64 2) (by rfl)) (by rfl) ?_
  exact ⟨P, N, K, rfl, S9.out, HLF.out⟩
set_option maxHeartbeats 4000000 in
theorem cancel_undo {F : Nat → Prop} {s : SagaD} {l : List StepD} (h : StepsAt F w s.v l) (hl6 : l.length ≤ 1000000) (hw : ∀ x ∈ l, x.wf) (h1 : I64 s.step) (hq : goodF l s = true) (hst : s.st = 2) : Calls Try.prog 29 #[s.val] w (CTold s 0 l w) := by
  obtain ⟨W1, hW1⟩ : ∃ W1, W1 = (w.alloc (.cells s.cells.toArray 27 (0, 0))).alloc (.cells #[.string ⟨#[]⟩, .slice none 0 0, .int .i64 0, .int .i64 0, .int .i64 0, .bool false, .bool false, .bool false, .bool false, .bool false, .bool false, .bool false, .bool false] 27 (0, 0)) := ⟨_, rfl⟩
  obtain ⟨g, hg⟩ : ∃ g, g = w.heap.size := ⟨_, rfl⟩
  have X1 : Hid (SBox 27 g s W1) := by rw [hW1, hg]; exact (heap_alloc_old _ _ (by simp)).trans (heap_alloc_new _ _)
  have Y1 : Hid (SBox 27 (g + 1) SagaD.zero W1) := by rw [hW1, hg]; exact heap_second _ _ _
  have L1 : Hid (Later w W1) := by rw [hW1]; exact ((Below.refl _ _).alloc (Nat.le_refl _) _).alloc (by simp) _
  have HG0 : Hid (w.heap.size ≤ g) := Nat.le_of_eq hg.symm
  have C : Hid (∀ W, Later W1 W → Calls Try.prog 14 #[s.val] W (Gives (.bool true) W)) := fun W hW => by rw [← hq]; exact good_any (StepsAt.kept h (Kept.of_below (L1.out.trans hW) _)) hw h1
  have CO : Hid (∀ W, Later W1 W → Calls Try.prog 21 #[s.val] W (Owns s l W)) := fun W hW => own_any (StepsAt.kept h (Kept.of_below (L1.out.trans hW) _)) hl6
  have HW1 := hide hW1.symm
  have HG := hide hg.symm
  clear hW1 hg h hl6 hw h1 hq
  have xe := X1.out
  rw [← HW1.out, ← HG.out] at xe
  have XE := hide xe
  clear xe
  go_enter Try.func29, Try.ntmps29
  go_wp2_with (refine wpList_load_saga (by rfl) _ (by rfl) (by rfl) XE.out ?_; simp only [HW1.out, HG.out])
  refine (C.out _ (Later.refl _)).mono ?_
  rintro e w2 ⟨rfl, hl⟩
  have L12 := hide hl
  have L2 := hide (L1.out.trans hl)
  have X2 := hide (X1.out.below hl)
  have Y2 := hide (Y1.out.below hl)
  clear hl C
  have c2 := X2.out.c2
  rw [hst] at c2
  clear hst
  go_wp2_with (refine wpList_load_saga (by rfl) _ (by rfl) (by rfl) X2.out ?_)
  refine (CO.out _ L12.out).mono ?_
  rintro e w3 ⟨P, N, K, rfl, hs, hl⟩
  have HS9 := hide hs
  have HLT := hide (Y2.out.lt)
  have L3 := hide (L2.out.trans hl)
  have HSZ := hide (Below.size L2.out)
  have Y3 := hide (Y2.out.below hl)
  clear hl hs
  go_wp2_with (first | (refine wpList_load_saga (by rfl) _ (by rfl) (by rfl) X2.out ?_) | (refine wpList_store_saga (by rfl) _ _ (by rfl) (by rfl) Y3.out (by rfl) ?_; intro w4 Z4 G4))
  have S9 : Hid (StepsAt (w.heap.size ≤ ·) w4 (.slice P N K) l) := FlatAt.mono (own_kept HS9.out HLT.out G4) (fun i _ hf => Nat.le_trans HSZ.out hf)
  have HLF : Hid (Later w _) := L3.out.grown G4 (Below.size L3.out) (fun k hk => by have := Option.some.inj hk; have := HG0.out; omega)
  refine bodyPost_ret (results_box2 Try.results29 _ _ (g + 1) 27 _ _ (by rfl) Z4 Try.underlying27 (by rfl) (by kernel_rfl) (.int .i64 0) (by rfl)) (by rfl) ?_
  exact ⟨P, N, K, rfl, S9.out, HLF.out⟩
set_option maxHeartbeats 4000000 in
theorem cancel_late1 {F : Nat → Prop} {s : SagaD} {l : List StepD} (h : StepsAt F w s.v l) (_hl8 : l.length ≤ 8) (hw : ∀ x ∈ l, x.wf) (h1 : I64 s.step) (hq : goodF l s = true) (n1 : s.st ≠ 1) (n2 : s.st ≠ 2) : Calls Try.prog 29 #[s.val] w (CTold SagaD.zero 10 [] w) := by
  obtain ⟨W1, hW1⟩ : ∃ W1, W1 = (w.alloc (.cells s.cells.toArray 27 (0, 0))).alloc (.cells #[.string ⟨#[]⟩, .slice none 0 0, .int .i64 0, .int .i64 0, .int .i64 0, .bool false, .bool false, .bool false, .bool false, .bool false, .bool false, .bool false, .bool false] 27 (0, 0)) := ⟨_, rfl⟩
  obtain ⟨g, hg⟩ : ∃ g, g = w.heap.size := ⟨_, rfl⟩
  have X1 : Hid (SBox 27 g s W1) := by rw [hW1, hg]; exact (heap_alloc_old _ _ (by simp)).trans (heap_alloc_new _ _)
  have Y1 : Hid (SBox 27 (g + 1) SagaD.zero W1) := by rw [hW1, hg]; exact heap_second _ _ _
  have L1 : Hid (Later w W1) := by rw [hW1]; exact ((Below.refl _ _).alloc (Nat.le_refl _) _).alloc (by simp) _
  have HG0 : Hid (w.heap.size ≤ g) := Nat.le_of_eq hg.symm
  have C : Hid (∀ W, Later W1 W → Calls Try.prog 14 #[s.val] W (Gives (.bool true) W)) := fun W hW => by rw [← hq]; exact good_any (StepsAt.kept h (Kept.of_below (L1.out.trans hW) _)) hw h1
  have HW1 := hide hW1.symm
  have HG := hide hg.symm
  clear hW1 hg h hw h1 hq
  have xe := X1.out
  rw [← HW1.out, ← HG.out] at xe
  have XE := hide xe
  clear xe
  go_enter Try.func29, Try.ntmps29
  go_wp2_with (refine wpList_load_saga (by rfl) _ (by rfl) (by rfl) XE.out ?_; simp only [HW1.out, HG.out])
  refine (C.out _ (Later.refl _)).mono ?_
  rintro e w2 ⟨rfl, hl⟩
  have L12 := hide hl
  have L2 := hide (L1.out.trans hl)
  have X2 := hide (X1.out.below hl)
  have Y2 := hide (Y1.out.below hl)
  clear hl C
  have c2 := X2.out.c2
  have b2 : (s.st == 2) = false := by rw [beq_eq_false_iff_ne]; exact n2
  have HN1 := hide n1
  clear n1 n2
  go_wp2_with (fail)
  have XD := hide (show SBox 27 g s w2.drew from X2.out)
  have YD := hide (show SBox 27 (g + 1) SagaD.zero w2.drew from Y2.out)
  have LD := hide (L2.out.trans (Later.drew w2))
  have LD1 := hide (L12.out.trans (Later.drew w2))
  refine wp_region_L (by kernel_rfl) ?_
  refine wpAnyL_take (i := 0) (d := some 17) (v := ?vaa0) rfl rfl (by kernel_rfl) (by kernel_rfl) (by kernel_rfl) (fun _ _ _ h => h) (by rfl) ?yaa0 ?_
  case yaa0 => (intro w' hw'; go_simp; try (with_reducible rfl))
  simp only [Act.put]; try simp only [List.setIfInBounds_toArray]; try simp only [List.set_cons_zero, List.set_cons_succ]
  refine wpAnyL_take (i := 1) (d := some 18) (v := ?vaa1) rfl rfl (by kernel_rfl) (by kernel_rfl) (by kernel_rfl) (fun _ _ _ h => h) (by rfl) ?yaa1 ?_
  case yaa1 => (intro w' hw'; have c2 := (XD.out.below hw').c2; go_simp; try (with_reducible rfl))
  simp only [Act.put]; try simp only [List.setIfInBounds_toArray]; try simp only [List.set_cons_zero, List.set_cons_succ]
  refine wpAnyL_take (i := 2) (d := some 19) (v := .bool true) rfl rfl (by kernel_rfl) (by kernel_rfl) (by kernel_rfl) (fun _ _ _ h => h) (by rfl) ?yaa2 ?_
  case yaa2 => (intro w' hw'; go_simp; simp [HN1.out])
  simp only [Act.put]; try simp only [List.setIfInBounds_toArray]; try simp only [List.set_cons_zero, List.set_cons_succ]
  refine wpAnyL_take (i := 3) (d := some 20) (v := ?vaa3) rfl rfl (by kernel_rfl) (by kernel_rfl) (by kernel_rfl) (fun _ _ _ h => h) (by rfl) ?yaa3 ?_
  case yaa3 => (intro w' hw'; go_simp; try (with_reducible rfl))
  simp only [Act.put]; try simp only [List.setIfInBounds_toArray]; try simp only [List.set_cons_zero, List.set_cons_succ]
  refine wpAnyL_pass (i := 4) (d := some 21) rfl rfl (by kernel_rfl) (by kernel_rfl) (by kernel_rfl) (fun _ _ _ h => h) (by rfl) ?_
  try (simp only [Act.put]; try simp only [List.setIfInBounds_toArray]; try simp only [List.set_cons_zero, List.set_cons_succ])
  refine wpAnyL_pass (i := 5) (d := some 22) rfl rfl (by kernel_rfl) (by kernel_rfl) (by kernel_rfl) (fun _ _ _ h => h) (by rfl) ?_
  try (simp only [Act.put]; try simp only [List.setIfInBounds_toArray]; try simp only [List.set_cons_zero, List.set_cons_succ])
  refine wpAnyL_take (i := 6) (d := some 23) (v := ?vaa6) rfl rfl (by kernel_rfl) (by kernel_rfl) (by kernel_rfl) (fun _ _ _ h => h) (by rfl) ?yaa6 ?_
  case yaa6 => (intro w' hw'; go_simp; try (with_reducible rfl))
  simp only [Act.put]; try simp only [List.setIfInBounds_toArray]; try simp only [List.set_cons_zero, List.set_cons_succ]
  refine wpAnyL_take (i := 7) (d := some 24) (v := ?vaa7) rfl rfl (by kernel_rfl) (by kernel_rfl) (by kernel_rfl) (fun _ _ _ h => h) (by rfl) ?yaa7 ?_
  case yaa7 => (intro w' hw'; go_simp; try (with_reducible rfl))
  simp only [Act.put]; try simp only [List.setIfInBounds_toArray]; try simp only [List.set_cons_zero, List.set_cons_succ]
  refine wpAnyL_pass (i := 8) (d := some 25) rfl rfl (by kernel_rfl) (by kernel_rfl) (by kernel_rfl) (fun _ _ _ h => h) (by rfl) ?_
  try (simp only [Act.put]; try simp only [List.setIfInBounds_toArray]; try simp only [List.set_cons_zero, List.set_cons_succ])
  refine wpAnyL_pass (i := 9) (d := some 26) rfl rfl (by kernel_rfl) (by kernel_rfl) (by kernel_rfl) (fun _ _ _ h => h) (by rfl) ?_
  try (simp only [Act.put]; try simp only [List.setIfInBounds_toArray]; try simp only [List.set_cons_zero, List.set_cons_succ])
  refine wpAnyL_pass (i := 10) (d := some 27) rfl rfl (by kernel_rfl) (by kernel_rfl) (by kernel_rfl) (fun _ _ _ h => h) (by rfl) ?_
  try (simp only [Act.put]; try simp only [List.setIfInBounds_toArray]; try simp only [List.set_cons_zero, List.set_cons_succ])
  refine wpAnyL_pass (i := 11) (d := some 28) rfl rfl (by kernel_rfl) (by kernel_rfl) (by kernel_rfl) (fun _ _ _ h => h) (by rfl) ?_
  try (simp only [Act.put]; try simp only [List.setIfInBounds_toArray]; try simp only [List.set_cons_zero, List.set_cons_succ])
  refine wpAnyL_pass (i := 12) (d := some 29) rfl rfl (by kernel_rfl) (by kernel_rfl) (by kernel_rfl) (fun _ _ _ h => h) (by rfl) ?_
  try (simp only [Act.put]; try simp only [List.setIfInBounds_toArray]; try simp only [List.set_cons_zero, List.set_cons_succ])
  refine wpAnyL_pass (i := 13) (d := some 30) rfl rfl (by kernel_rfl) (by kernel_rfl) (by kernel_rfl) (fun _ _ _ h => h) (by rfl) ?_
  try (simp only [Act.put]; try simp only [List.setIfInBounds_toArray]; try simp only [List.set_cons_zero, List.set_cons_succ])
  refine wpAnyL_take (i := 14) (d := some 31) (v := ?vaa14) rfl rfl (by kernel_rfl) (by kernel_rfl) (by kernel_rfl) (fun _ _ _ h => h) (by rfl) ?yaa14 ?_
  case yaa14 => (intro w' hw'; go_simp; try (with_reducible rfl))
  simp only [Act.put]; try simp only [List.setIfInBounds_toArray]; try simp only [List.set_cons_zero, List.set_cons_succ]
  refine wpAnyL_take (i := 15) (d := some 16) (v := ?vaa15) rfl rfl (by kernel_rfl) (by kernel_rfl) (by kernel_rfl) (fun _ _ _ h => h) (by rfl) ?yaa15 ?_
  case yaa15 => (intro w' hw'; go_simp; try (with_reducible rfl))
  simp only [Act.put]; try simp only [List.setIfInBounds_toArray]; try simp only [List.set_cons_zero, List.set_cons_succ]
  refine wpAnyL_done (by kernel_rfl) ?_ _
  go_wp2_with (refine wpList_store_saga (s := SagaD.zero) (by rfl) _ _ (by rfl) (by rfl) YD.out (by rfl) ?_; intro w8 Z8 G8)
  have HLF : Hid (Later w _) := LD.out.grown G8 (Below.size LD.out) (fun k hk => by have := Option.some.inj hk; have := HG0.out; omega)
  refine bodyPost_ret (results_box2 Try.results29 _ _ (g + 1) 27 _ _ (by rfl) Z8 Try.underlying27 (by rfl) (by kernel_rfl) (.int .i64 10) (by rfl)) (by rfl) ?_
  exact ⟨none, 0, 0, rfl, FlatAt.nil_ _ _ _, HLF.out⟩
set_option maxHeartbeats 4000000 in
theorem cancel_late2 {F : Nat → Prop} {s : SagaD} {l : List StepD} (h : StepsAt F w s.v l) (hl8 : l.length ≤ 8) (hw : ∀ x ∈ l, x.wf) (h1 : I64 s.step) (hq : goodF l s = true) (hst : s.st = 1) (hse : sealedS l s = true) : Calls Try.prog 29 #[s.val] w (CTold SagaD.zero 10 [] w) := by
  obtain ⟨W1, hW1⟩ : ∃ W1, W1 = (w.alloc (.cells s.cells.toArray 27 (0, 0))).alloc (.cells #[.string ⟨#[]⟩, .slice none 0 0, .int .i64 0, .int .i64 0, .int .i64 0, .bool false, .bool false, .bool false, .bool false, .bool false, .bool false, .bool false, .bool false] 27 (0, 0)) := ⟨_, rfl⟩
  obtain ⟨g, hg⟩ : ∃ g, g = w.heap.size := ⟨_, rfl⟩
  have X1 : Hid (SBox 27 g s W1) := by rw [hW1, hg]; exact (heap_alloc_old _ _ (by simp)).trans (heap_alloc_new _ _)
  have Y1 : Hid (SBox 27 (g + 1) SagaD.zero W1) := by rw [hW1, hg]; exact heap_second _ _ _
  have L1 : Hid (Later w W1) := by rw [hW1]; exact ((Below.refl _ _).alloc (Nat.le_refl _) _).alloc (by simp) _
  have HG0 : Hid (w.heap.size ≤ g) := Nat.le_of_eq hg.symm
  have C : Hid (∀ W, Later W1 W → Calls Try.prog 14 #[s.val] W (Gives (.bool true) W)) := fun W hW => by rw [← hq]; exact good_any (StepsAt.kept h (Kept.of_below (L1.out.trans hW) _)) hw h1
  have CS : Hid (∀ W, Later W1 W → Calls Try.prog 45 #[s.val] W (Gives (.bool (sealedS l s)) W)) := fun W hW => sealedS_any (StepsAt.kept h (Kept.of_below (L1.out.trans hW) _)) (by omega)
  have CP : Hid (∀ W, Later W1 W → Calls Try.prog 46 #[.agg #[.string s.name, .slice s.p s.n s.c]] W fun e w' => e = .returned (.int .i64 ((pivotN l : Nat) : Int)) ∧ Later W w') := fun W hW => pivot_any (StepsAt.kept h (Kept.of_below (L1.out.trans hW) _)) (by omega)
  rw [hse] at CS
  have HW1 := hide hW1.symm
  have HG := hide hg.symm
  clear hW1 hg h hl8 hw h1 hq hse
  have xe := X1.out
  rw [← HW1.out, ← HG.out] at xe
  have XE := hide xe
  clear xe
  go_enter Try.func29, Try.ntmps29
  go_wp2_with (refine wpList_load_saga (by rfl) _ (by rfl) (by rfl) XE.out ?_; simp only [HW1.out, HG.out])
  refine (C.out _ (Later.refl _)).mono ?_
  rintro e w2 ⟨rfl, hl⟩
  have L12 := hide hl
  have L2 := hide (L1.out.trans hl)
  have X2 := hide (X1.out.below hl)
  have Y2 := hide (Y1.out.below hl)
  clear hl C
  have c2 := X2.out.c2
  rw [hst] at c2
  have HS1 := hide hst
  clear hst CP
  go_wp2_with (fail)
  have XD := hide (show SBox 27 g s w2.drew from X2.out)
  have YD := hide (show SBox 27 (g + 1) SagaD.zero w2.drew from Y2.out)
  have LD := hide (L2.out.trans (Later.drew w2))
  have LD1 := hide (L12.out.trans (Later.drew w2))
  refine wp_region_L (by kernel_rfl) ?_
  refine wpAnyL_take (i := 0) (d := some 17) (v := ?vaa0) rfl rfl (by kernel_rfl) (by kernel_rfl) (by kernel_rfl) (fun _ _ _ h => h) (by rfl) ?yaa0 ?_
  case yaa0 => (intro w' hw'; go_simp; try (with_reducible rfl))
  simp only [Act.put]; try simp only [List.setIfInBounds_toArray]; try simp only [List.set_cons_zero, List.set_cons_succ]
  refine wpAnyL_take (i := 1) (d := some 18) (v := ?vaa1) rfl rfl (by kernel_rfl) (by kernel_rfl) (by kernel_rfl) (fun _ _ _ h => h) (by rfl) ?yaa1 ?_
  case yaa1 => (intro w' hw'; have c2 := (XD.out.below hw').c2; rw [HS1.out] at c2; go_simp; try (with_reducible rfl))
  simp only [Act.put]; try simp only [List.setIfInBounds_toArray]; try simp only [List.set_cons_zero, List.set_cons_succ]
  refine wpAnyL_take (i := 2) (d := some 19) (v := ?vaa2) rfl rfl (by kernel_rfl) (by kernel_rfl) (by kernel_rfl) (fun _ _ _ h => h) (by rfl) ?yaa2 ?_
  case yaa2 => (intro w' hw'; go_simp; try (with_reducible rfl))
  simp only [Act.put]; try simp only [List.setIfInBounds_toArray]; try simp only [List.set_cons_zero, List.set_cons_succ]
  refine wpAnyL_take (i := 3) (d := some 20) (v := ?vaa3) rfl rfl (by kernel_rfl) (by kernel_rfl) (by kernel_rfl) (fun _ _ _ h => h) (by rfl) ?yaa3 ?_
  case yaa3 => (intro w' hw'; go_simp; try (with_reducible rfl))
  simp only [Act.put]; try simp only [List.setIfInBounds_toArray]; try simp only [List.set_cons_zero, List.set_cons_succ]
  refine wpAnyL_take (i := 4) (d := some 21) (v := s.val) rfl rfl (by kernel_rfl) (by kernel_rfl) (by kernel_rfl) (fun _ _ _ h => h) (by rfl) ?yaa4 ?_
  case yaa4 => (intro w' hw'; exact exec_load_saga _ (by rfl) (by rfl) (XD.out.below hw'))
  simp only [Act.put]; try simp only [List.setIfInBounds_toArray]; try simp only [List.set_cons_zero, List.set_cons_succ]
  refine wpAnyL_only (i := 5) rfl (by kernel_rfl) (by rfl) fun K hK => ?_
  go_simp
  refine (CS.out _ LD1.out).mono ?_
  rintro e w_5 ⟨rfl, hl_⟩
  have L5 := hide (LD.out.trans hl_)
  have L15 := hide (LD1.out.trans hl_)
  have X5 := hide (XD.out.below hl_)
  have Y5 := hide (YD.out.below hl_)
  refine hK.out _ _ hl_ ?_
  clear hl_
  clear hK K
  try (simp only [Act.put]; try simp only [List.setIfInBounds_toArray]; try simp only [List.set_cons_zero, List.set_cons_succ])
  refine wpAnyL_take (i := 6) (d := some 23) (v := ?vaa6) rfl rfl (by kernel_rfl) (by kernel_rfl) (by kernel_rfl) (fun _ _ _ h => h) (by rfl) ?yaa6 ?_
  case yaa6 => (intro w' hw'; go_simp; try (with_reducible rfl))
  simp only [Act.put]; try simp only [List.setIfInBounds_toArray]; try simp only [List.set_cons_zero, List.set_cons_succ]
  refine wpAnyL_take (i := 7) (d := some 24) (v := ?vaa7) rfl rfl (by kernel_rfl) (by kernel_rfl) (by kernel_rfl) (fun _ _ _ h => h) (by rfl) ?yaa7 ?_
  case yaa7 => (intro w' hw'; go_simp; try (with_reducible rfl))
  simp only [Act.put]; try simp only [List.setIfInBounds_toArray]; try simp only [List.set_cons_zero, List.set_cons_succ]
  refine wpAnyL_pass (i := 8) (d := some 25) rfl rfl (by kernel_rfl) (by kernel_rfl) (by kernel_rfl) (fun _ _ _ h => h) (by rfl) ?_
  try (simp only [Act.put]; try simp only [List.setIfInBounds_toArray]; try simp only [List.set_cons_zero, List.set_cons_succ])
  refine wpAnyL_pass (i := 9) (d := some 26) rfl rfl (by kernel_rfl) (by kernel_rfl) (by kernel_rfl) (fun _ _ _ h => h) (by rfl) ?_
  try (simp only [Act.put]; try simp only [List.setIfInBounds_toArray]; try simp only [List.set_cons_zero, List.set_cons_succ])
  refine wpAnyL_pass (i := 10) (d := some 27) rfl rfl (by kernel_rfl) (by kernel_rfl) (by kernel_rfl) (fun _ _ _ h => h) (by rfl) ?_
  try (simp only [Act.put]; try simp only [List.setIfInBounds_toArray]; try simp only [List.set_cons_zero, List.set_cons_succ])
  refine wpAnyL_pass (i := 11) (d := some 28) rfl rfl (by kernel_rfl) (by kernel_rfl) (by kernel_rfl) (fun _ _ _ h => h) (by rfl) ?_
  try (simp only [Act.put]; try simp only [List.setIfInBounds_toArray]; try simp only [List.set_cons_zero, List.set_cons_succ])
  refine wpAnyL_pass (i := 12) (d := some 29) rfl rfl (by kernel_rfl) (by kernel_rfl) (by kernel_rfl) (fun _ _ _ h => h) (by rfl) ?_
  try (simp only [Act.put]; try simp only [List.setIfInBounds_toArray]; try simp only [List.set_cons_zero, List.set_cons_succ])
  refine wpAnyL_pass (i := 13) (d := some 30) rfl rfl (by kernel_rfl) (by kernel_rfl) (by kernel_rfl) (fun _ _ _ h => h) (by rfl) ?_
  try (simp only [Act.put]; try simp only [List.setIfInBounds_toArray]; try simp only [List.set_cons_zero, List.set_cons_succ])
  refine wpAnyL_take (i := 14) (d := some 31) (v := ?vaa14) rfl rfl (by kernel_rfl) (by kernel_rfl) (by kernel_rfl) (fun _ _ _ h => h) (by rfl) ?yaa14 ?_
  case yaa14 => (intro w' hw'; go_simp; try (with_reducible rfl))
  simp only [Act.put]; try simp only [List.setIfInBounds_toArray]; try simp only [List.set_cons_zero, List.set_cons_succ]
  refine wpAnyL_take (i := 15) (d := some 16) (v := ?vaa15) rfl rfl (by kernel_rfl) (by kernel_rfl) (by kernel_rfl) (fun _ _ _ h => h) (by rfl) ?yaa15 ?_
  case yaa15 => (intro w' hw'; go_simp; try (with_reducible rfl))
  simp only [Act.put]; try simp only [List.setIfInBounds_toArray]; try simp only [List.set_cons_zero, List.set_cons_succ]
  refine wpAnyL_done (by kernel_rfl) ?_ _
  go_wp2_with (refine wpList_store_saga (s := SagaD.zero) (by rfl) _ _ (by rfl) (by rfl) Y5.out (by rfl) ?_; intro w8 Z8 G8)
  have HLF : Hid (Later w _) := L5.out.grown G8 (Below.size L5.out) (fun k hk => by have := Option.some.inj hk; have := HG0.out; omega)
  refine bodyPost_ret (results_box2 Try.results29 _ _ (g + 1) 27 _ _ (by rfl) Z8 Try.underlying27 (by rfl) (by kernel_rfl) (.int .i64 10) (by rfl)) (by rfl) ?_
  exact ⟨none, 0, 0, rfl, FlatAt.nil_ _ _ _, HLF.out⟩
set_option maxHeartbeats 4000000 in
theorem cancel_late3 {F : Nat → Prop} {s : SagaD} {l : List StepD} (h : StepsAt F w s.v l) (hl8 : l.length ≤ 8) (hw : ∀ x ∈ l, x.wf) (h1 : I64 s.step) (hq : goodF l s = true) (hst : s.st = 1) (hse : sealedS l s = false) (hp : s.step = ((pivotN l : Nat) : Int)) : Calls Try.prog 29 #[s.val] w (CTold SagaD.zero 10 [] w) := by
  obtain ⟨W1, hW1⟩ : ∃ W1, W1 = (w.alloc (.cells s.cells.toArray 27 (0, 0))).alloc (.cells #[.string ⟨#[]⟩, .slice none 0 0, .int .i64 0, .int .i64 0, .int .i64 0, .bool false, .bool false, .bool false, .bool false, .bool false, .bool false, .bool false, .bool false] 27 (0, 0)) := ⟨_, rfl⟩
  obtain ⟨g, hg⟩ : ∃ g, g = w.heap.size := ⟨_, rfl⟩
  have X1 : Hid (SBox 27 g s W1) := by rw [hW1, hg]; exact (heap_alloc_old _ _ (by simp)).trans (heap_alloc_new _ _)
  have Y1 : Hid (SBox 27 (g + 1) SagaD.zero W1) := by rw [hW1, hg]; exact heap_second _ _ _
  have L1 : Hid (Later w W1) := by rw [hW1]; exact ((Below.refl _ _).alloc (Nat.le_refl _) _).alloc (by simp) _
  have HG0 : Hid (w.heap.size ≤ g) := Nat.le_of_eq hg.symm
  have C : Hid (∀ W, Later W1 W → Calls Try.prog 14 #[s.val] W (Gives (.bool true) W)) := fun W hW => by rw [← hq]; exact good_any (StepsAt.kept h (Kept.of_below (L1.out.trans hW) _)) hw h1
  have CS : Hid (∀ W, Later W1 W → Calls Try.prog 45 #[s.val] W (Gives (.bool (sealedS l s)) W)) := fun W hW => sealedS_any (StepsAt.kept h (Kept.of_below (L1.out.trans hW) _)) (by omega)
  have CP : Hid (∀ W, Later W1 W → Calls Try.prog 46 #[.agg #[.string s.name, .slice s.p s.n s.c]] W fun e w' => e = .returned (.int .i64 ((pivotN l : Nat) : Int)) ∧ Later W w') := fun W hW => pivot_any (StepsAt.kept h (Kept.of_below (L1.out.trans hW) _)) (by omega)
  rw [hse] at CS
  obtain ⟨Q2, hQ2⟩ : ∃ q, (s.step == ((pivotN l : Nat) : Int)) = q := ⟨_, rfl⟩
  obtain rfl : Q2 = true := by rw [← hQ2, hp]; simp
  have HPV := hide hp
  have HW1 := hide hW1.symm
  have HG := hide hg.symm
  clear hW1 hg h hl8 hw h1 hq hse hp hQ2
  have xe := X1.out
  rw [← HW1.out, ← HG.out] at xe
  have XE := hide xe
  clear xe
  go_enter Try.func29, Try.ntmps29
  go_wp2_with (refine wpList_load_saga (by rfl) _ (by rfl) (by rfl) XE.out ?_; simp only [HW1.out, HG.out])
  refine (C.out _ (Later.refl _)).mono ?_
  rintro e w2 ⟨rfl, hl⟩
  have L12 := hide hl
  have L2 := hide (L1.out.trans hl)
  have X2 := hide (X1.out.below hl)
  have Y2 := hide (Y1.out.below hl)
  clear hl C
  have c2 := X2.out.c2
  rw [hst] at c2
  have HS1 := hide hst
  clear hst
  go_wp2_with (fail)
  have XD := hide (show SBox 27 g s w2.drew from X2.out)
  have YD := hide (show SBox 27 (g + 1) SagaD.zero w2.drew from Y2.out)
  have LD := hide (L2.out.trans (Later.drew w2))
  have LD1 := hide (L12.out.trans (Later.drew w2))
  refine wp_region_L (by kernel_rfl) ?_
  refine wpAnyL_take (i := 0) (d := some 17) (v := ?vaa0) rfl rfl (by kernel_rfl) (by kernel_rfl) (by kernel_rfl) (fun _ _ _ h => h) (by rfl) ?yaa0 ?_
  case yaa0 => (intro w' hw'; go_simp; try (with_reducible rfl))
  simp only [Act.put]; try simp only [List.setIfInBounds_toArray]; try simp only [List.set_cons_zero, List.set_cons_succ]
  refine wpAnyL_take (i := 1) (d := some 18) (v := ?vaa1) rfl rfl (by kernel_rfl) (by kernel_rfl) (by kernel_rfl) (fun _ _ _ h => h) (by rfl) ?yaa1 ?_
  case yaa1 => (intro w' hw'; have c2 := (XD.out.below hw').c2; rw [HS1.out] at c2; go_simp; try (with_reducible rfl))
  simp only [Act.put]; try simp only [List.setIfInBounds_toArray]; try simp only [List.set_cons_zero, List.set_cons_succ]
  refine wpAnyL_take (i := 2) (d := some 19) (v := ?vaa2) rfl rfl (by kernel_rfl) (by kernel_rfl) (by kernel_rfl) (fun _ _ _ h => h) (by rfl) ?yaa2 ?_
  case yaa2 => (intro w' hw'; go_simp; try (with_reducible rfl))
  simp only [Act.put]; try simp only [List.setIfInBounds_toArray]; try simp only [List.set_cons_zero, List.set_cons_succ]
  refine wpAnyL_take (i := 3) (d := some 20) (v := ?vaa3) rfl rfl (by kernel_rfl) (by kernel_rfl) (by kernel_rfl) (fun _ _ _ h => h) (by rfl) ?yaa3 ?_
  case yaa3 => (intro w' hw'; go_simp; try (with_reducible rfl))
  simp only [Act.put]; try simp only [List.setIfInBounds_toArray]; try simp only [List.set_cons_zero, List.set_cons_succ]
  refine wpAnyL_take (i := 4) (d := some 21) (v := s.val) rfl rfl (by kernel_rfl) (by kernel_rfl) (by kernel_rfl) (fun _ _ _ h => h) (by rfl) ?yaa4 ?_
  case yaa4 => (intro w' hw'; exact exec_load_saga _ (by rfl) (by rfl) (XD.out.below hw'))
  simp only [Act.put]; try simp only [List.setIfInBounds_toArray]; try simp only [List.set_cons_zero, List.set_cons_succ]
  refine wpAnyL_only (i := 5) rfl (by kernel_rfl) (by rfl) fun K hK => ?_
  go_simp
  refine (CS.out _ LD1.out).mono ?_
  rintro e w_5 ⟨rfl, hl_⟩
  have L5 := hide (LD.out.trans hl_)
  have L15 := hide (LD1.out.trans hl_)
  have X5 := hide (XD.out.below hl_)
  have Y5 := hide (YD.out.below hl_)
  refine hK.out _ _ hl_ ?_
  clear hl_
  clear hK K
  try (simp only [Act.put]; try simp only [List.setIfInBounds_toArray]; try simp only [List.set_cons_zero, List.set_cons_succ])
  refine wpAnyL_take (i := 6) (d := some 23) (v := ?vaa6) rfl rfl (by kernel_rfl) (by kernel_rfl) (by kernel_rfl) (fun _ _ _ h => h) (by rfl) ?yaa6 ?_
  case yaa6 => (intro w' hw'; go_simp; try (with_reducible rfl))
  simp only [Act.put]; try simp only [List.setIfInBounds_toArray]; try simp only [List.set_cons_zero, List.set_cons_succ]
  refine wpAnyL_take (i := 7) (d := some 24) (v := ?vaa7) rfl rfl (by kernel_rfl) (by kernel_rfl) (by kernel_rfl) (fun _ _ _ h => h) (by rfl) ?yaa7 ?_
  case yaa7 => (intro w' hw'; go_simp; try (with_reducible rfl))
  simp only [Act.put]; try simp only [List.setIfInBounds_toArray]; try simp only [List.set_cons_zero, List.set_cons_succ]
  refine wpAnyL_take (i := 8) (d := some 25) (v := ?vaa8) rfl rfl (by kernel_rfl) (by kernel_rfl) (by kernel_rfl) (fun _ _ _ h => h) (by rfl) ?yaa8 ?_
  case yaa8 => (intro w' hw'; go_simp; try (with_reducible rfl))
  simp only [Act.put]; try simp only [List.setIfInBounds_toArray]; try simp only [List.set_cons_zero, List.set_cons_succ]
  refine wpAnyL_take (i := 9) (d := some 26) (v := ?vaa9) rfl rfl (by kernel_rfl) (by kernel_rfl) (by kernel_rfl) (fun _ _ _ h => h) (by rfl) ?yaa9 ?_
  case yaa9 => (intro w' hw'; have c3 := (X5.out.below hw').c3; go_simp; try (with_reducible rfl))
  simp only [Act.put]; try simp only [List.setIfInBounds_toArray]; try simp only [List.set_cons_zero, List.set_cons_succ]
  refine wpAnyL_take (i := 10) (d := some 27) (v := ?vaa10) rfl rfl (by kernel_rfl) (by kernel_rfl) (by kernel_rfl) (fun _ _ _ h => h) (by rfl) ?yaa10 ?_
  case yaa10 => (intro w' hw'; go_simp; try (with_reducible rfl))
  simp only [Act.put]; try simp only [List.setIfInBounds_toArray]; try simp only [List.set_cons_zero, List.set_cons_succ]
  refine wpAnyL_take (i := 11) (d := some 28) (v := .agg #[.string s.name, .slice s.p s.n s.c]) rfl rfl (by kernel_rfl) (by kernel_rfl) (by kernel_rfl) (fun _ _ _ h => h) (by rfl) ?yaa11 ?_
  case yaa11 => (intro w' hw'; exact exec_load_sdef _ (by rfl) (by rfl) (X5.out.below hw'))
  simp only [Act.put]; try simp only [List.setIfInBounds_toArray]; try simp only [List.set_cons_zero, List.set_cons_succ]
  refine wpAnyL_only (i := 12) rfl (by kernel_rfl) (by rfl) fun K hK => ?_
  go_simp
  refine (CP.out _ L15.out).mono ?_
  rintro e w_12 ⟨rfl, hl_⟩
  have L12a := hide (L5.out.trans hl_)
  have L112 := hide (L15.out.trans hl_)
  have X12 := hide (X5.out.below hl_)
  have Y12 := hide (Y5.out.below hl_)
  refine hK.out _ _ hl_ ?_
  clear hl_
  clear hK K
  try (simp only [Act.put]; try simp only [List.setIfInBounds_toArray]; try simp only [List.set_cons_zero, List.set_cons_succ])
  refine wpAnyL_take (i := 13) (d := some 30) (v := .bool true) rfl rfl (by kernel_rfl) (by kernel_rfl) (by kernel_rfl) (fun _ _ _ h => h) (by rfl) ?yaa13 ?_
  case yaa13 => (intro w' hw'; go_simp; exact HPV.out)
  simp only [Act.put]; try simp only [List.setIfInBounds_toArray]; try simp only [List.set_cons_zero, List.set_cons_succ]
  refine wpAnyL_take (i := 14) (d := some 31) (v := ?vaa14) rfl rfl (by kernel_rfl) (by kernel_rfl) (by kernel_rfl) (fun _ _ _ h => h) (by rfl) ?yaa14 ?_
  case yaa14 => (intro w' hw'; go_simp; try (with_reducible rfl))
  simp only [Act.put]; try simp only [List.setIfInBounds_toArray]; try simp only [List.set_cons_zero, List.set_cons_succ]
  refine wpAnyL_take (i := 15) (d := some 16) (v := ?vaa15) rfl rfl (by kernel_rfl) (by kernel_rfl) (by kernel_rfl) (fun _ _ _ h => h) (by rfl) ?yaa15 ?_
  case yaa15 => (intro w' hw'; go_simp; try (with_reducible rfl))
  simp only [Act.put]; try simp only [List.setIfInBounds_toArray]; try simp only [List.set_cons_zero, List.set_cons_succ]
  refine wpAnyL_done (by kernel_rfl) ?_ _
  go_wp2_with (refine wpList_store_saga (s := SagaD.zero) (by rfl) _ _ (by rfl) (by rfl) Y12.out (by rfl) ?_; intro w8 Z8 G8)
  have HLF : Hid (Later w _) := L12a.out.grown G8 (Below.size L12a.out) (fun k hk => by have := Option.some.inj hk; have := HG0.out; omega)
  refine bodyPost_ret (results_box2 Try.results29 _ _ (g + 1) 27 _ _ (by rfl) Z8 Try.underlying27 (by rfl) (by kernel_rfl) (.int .i64 10) (by rfl)) (by rfl) ?_
  exact ⟨none, 0, 0, rfl, FlatAt.nil_ _ _ _, HLF.out⟩
set_option maxHeartbeats 4000000 in
theorem cancel_ok {F : Nat → Prop} {s : SagaD} {l : List StepD} (h : StepsAt F w s.v l) (hl8 : l.length ≤ 8) (hw : ∀ x ∈ l, x.wf) (h1 : I64 s.step) (hq : goodF l s = true) (hst : s.st = 1) (hse : sealedS l s = false) (hp : s.step ≠ ((pivotN l : Nat) : Int)) (p1 : 1 ≤ s.step) (p8 : s.step ≤ 8) : Calls Try.prog 29 #[s.val] w (CTold (failsS l (s.hitN true)) 0 l w) := by
  obtain ⟨W1, hW1⟩ : ∃ W1, W1 = (w.alloc (.cells s.cells.toArray 27 (0, 0))).alloc (.cells #[.string ⟨#[]⟩, .slice none 0 0, .int .i64 0, .int .i64 0, .int .i64 0, .bool false, .bool false, .bool false, .bool false, .bool false, .bool false, .bool false, .bool false] 27 (0, 0)) := ⟨_, rfl⟩
  obtain ⟨g, hg⟩ : ∃ g, g = w.heap.size := ⟨_, rfl⟩
  have X1 : Hid (SBox 27 g s W1) := by rw [hW1, hg]; exact (heap_alloc_old _ _ (by simp)).trans (heap_alloc_new _ _)
  have Y1 : Hid (SBox 27 (g + 1) SagaD.zero W1) := by rw [hW1, hg]; exact heap_second _ _ _
  have L1 : Hid (Later w W1) := by rw [hW1]; exact ((Below.refl _ _).alloc (Nat.le_refl _) _).alloc (by simp) _
  have HG0 : Hid (w.heap.size ≤ g) := Nat.le_of_eq hg.symm
  have C : Hid (∀ W, Later W1 W → Calls Try.prog 14 #[s.val] W (Gives (.bool true) W)) := fun W hW => by rw [← hq]; exact good_any (StepsAt.kept h (Kept.of_below (L1.out.trans hW) _)) hw h1
  have CS : Hid (∀ W, Later W1 W → Calls Try.prog 45 #[s.val] W (Gives (.bool (sealedS l s)) W)) := fun W hW => sealedS_any (StepsAt.kept h (Kept.of_below (L1.out.trans hW) _)) (by omega)
  have CP : Hid (∀ W, Later W1 W → Calls Try.prog 46 #[.agg #[.string s.name, .slice s.p s.n s.c]] W fun e w' => e = .returned (.int .i64 ((pivotN l : Nat) : Int)) ∧ Later W w') := fun W hW => pivot_any (StepsAt.kept h (Kept.of_below (L1.out.trans hW) _)) (by omega)
  have CH : Hid (∀ W, Later W1 W → Calls Try.prog 34 #[s.val, .bool true] W (Gives (s.hitN true).val W)) := fun W _ => hit_any s true p1 p8
  have CF : Hid (∀ W, Later W1 W → Calls Try.prog 47 #[(s.hitN true).val] W (Gives (failsS l (s.hitN true)).val W)) := fun W hW => failsS_any (s := s.hitN true) (StepsAt.kept h (Kept.of_below (L1.out.trans hW) _)) (by omega) (by show I64 s.step; unfold I64; omega)
  have CO : Hid (∀ W, Later W1 W → Calls Try.prog 21 #[(failsS l (s.hitN true)).val] W (Owns (failsS l (s.hitN true)) l W)) := fun W hW => own_any (s := failsS l (s.hitN true)) (by rw [failsS_v, hitN_v]; exact StepsAt.kept h (Kept.of_below (L1.out.trans hW) _)) (by omega)
  rw [hse] at CS
  obtain ⟨Q2, hQ2⟩ : ∃ q, (s.step == ((pivotN l : Nat) : Int)) = q := ⟨_, rfl⟩
  obtain rfl : Q2 = false := by rw [← hQ2, beq_eq_false_iff_ne]; exact hp
  have HPV := hide hp
  obtain ⟨s2, hs2⟩ : ∃ x, failsS l (s.hitN true) = x := ⟨_, rfl⟩
  rw [hs2] at CF CO ⊢
  have HW1 := hide hW1.symm
  have HG := hide hg.symm
  clear hW1 hg h hl8 hw h1 hq hse hp hQ2 p1 p8 hs2
  have xe := X1.out
  rw [← HW1.out, ← HG.out] at xe
  have XE := hide xe
  clear xe
  go_enter Try.func29, Try.ntmps29
  go_wp2_with (refine wpList_load_saga (by rfl) _ (by rfl) (by rfl) XE.out ?_; simp only [HW1.out, HG.out])
  refine (C.out _ (Later.refl _)).mono ?_
  rintro e w2 ⟨rfl, hl⟩
  have L12 := hide hl
  have L2 := hide (L1.out.trans hl)
  have X2 := hide (X1.out.below hl)
  have Y2 := hide (Y1.out.below hl)
  clear hl C
  have c2 := X2.out.c2
  rw [hst] at c2
  have HS1 := hide hst
  clear hst
  go_wp2_with (fail)
  have XD := hide (show SBox 27 g s w2.drew from X2.out)
  have YD := hide (show SBox 27 (g + 1) SagaD.zero w2.drew from Y2.out)
  have LD := hide (L2.out.trans (Later.drew w2))
  have LD1 := hide (L12.out.trans (Later.drew w2))
  refine wp_region_L (by kernel_rfl) ?_
  refine wpAnyL_take (i := 0) (d := some 17) (v := ?vaa0) rfl rfl (by kernel_rfl) (by kernel_rfl) (by kernel_rfl) (fun _ _ _ h => h) (by rfl) ?yaa0 ?_
  case yaa0 => (intro w' hw'; go_simp; try (with_reducible rfl))
  simp only [Act.put]; try simp only [List.setIfInBounds_toArray]; try simp only [List.set_cons_zero, List.set_cons_succ]
  refine wpAnyL_take (i := 1) (d := some 18) (v := ?vaa1) rfl rfl (by kernel_rfl) (by kernel_rfl) (by kernel_rfl) (fun _ _ _ h => h) (by rfl) ?yaa1 ?_
  case yaa1 => (intro w' hw'; have c2 := (XD.out.below hw').c2; rw [HS1.out] at c2; go_simp; try (with_reducible rfl))
  simp only [Act.put]; try simp only [List.setIfInBounds_toArray]; try simp only [List.set_cons_zero, List.set_cons_succ]
  refine wpAnyL_take (i := 2) (d := some 19) (v := ?vaa2) rfl rfl (by kernel_rfl) (by kernel_rfl) (by kernel_rfl) (fun _ _ _ h => h) (by rfl) ?yaa2 ?_
  case yaa2 => (intro w' hw'; go_simp; try (with_reducible rfl))
  simp only [Act.put]; try simp only [List.setIfInBounds_toArray]; try simp only [List.set_cons_zero, List.set_cons_succ]
  refine wpAnyL_take (i := 3) (d := some 20) (v := ?vaa3) rfl rfl (by kernel_rfl) (by kernel_rfl) (by kernel_rfl) (fun _ _ _ h => h) (by rfl) ?yaa3 ?_
  case yaa3 => (intro w' hw'; go_simp; try (with_reducible rfl))
  simp only [Act.put]; try simp only [List.setIfInBounds_toArray]; try simp only [List.set_cons_zero, List.set_cons_succ]
  refine wpAnyL_take (i := 4) (d := some 21) (v := s.val) rfl rfl (by kernel_rfl) (by kernel_rfl) (by kernel_rfl) (fun _ _ _ h => h) (by rfl) ?yaa4 ?_
  case yaa4 => (intro w' hw'; exact exec_load_saga _ (by rfl) (by rfl) (XD.out.below hw'))
  simp only [Act.put]; try simp only [List.setIfInBounds_toArray]; try simp only [List.set_cons_zero, List.set_cons_succ]
  refine wpAnyL_only (i := 5) rfl (by kernel_rfl) (by rfl) fun K hK => ?_
  go_simp
  refine (CS.out _ LD1.out).mono ?_
  rintro e w_5 ⟨rfl, hl_⟩
  have L5 := hide (LD.out.trans hl_)
  have L15 := hide (LD1.out.trans hl_)
  have X5 := hide (XD.out.below hl_)
  have Y5 := hide (YD.out.below hl_)
  refine hK.out _ _ hl_ ?_
  clear hl_
  clear hK K
  try (simp only [Act.put]; try simp only [List.setIfInBounds_toArray]; try simp only [List.set_cons_zero, List.set_cons_succ])
  refine wpAnyL_take (i := 6) (d := some 23) (v := ?vaa6) rfl rfl (by kernel_rfl) (by kernel_rfl) (by kernel_rfl) (fun _ _ _ h => h) (by rfl) ?yaa6 ?_
  case yaa6 => (intro w' hw'; go_simp; try (with_reducible rfl))
  simp only [Act.put]; try simp only [List.setIfInBounds_toArray]; try simp only [List.set_cons_zero, List.set_cons_succ]
  refine wpAnyL_take (i := 7) (d := some 24) (v := ?vaa7) rfl rfl (by kernel_rfl) (by kernel_rfl) (by kernel_rfl) (fun _ _ _ h => h) (by rfl) ?yaa7 ?_
  case yaa7 => (intro w' hw'; go_simp; try (with_reducible rfl))
  simp only [Act.put]; try simp only [List.setIfInBounds_toArray]; try simp only [List.set_cons_zero, List.set_cons_succ]
  refine wpAnyL_take (i := 8) (d := some 25) (v := ?vaa8) rfl rfl (by kernel_rfl) (by kernel_rfl) (by kernel_rfl) (fun _ _ _ h => h) (by rfl) ?yaa8 ?_
  case yaa8 => (intro w' hw'; go_simp; try (with_reducible rfl))
  simp only [Act.put]; try simp only [List.setIfInBounds_toArray]; try simp only [List.set_cons_zero, List.set_cons_succ]
  refine wpAnyL_take (i := 9) (d := some 26) (v := ?vaa9) rfl rfl (by kernel_rfl) (by kernel_rfl) (by kernel_rfl) (fun _ _ _ h => h) (by rfl) ?yaa9 ?_
  case yaa9 => (intro w' hw'; have c3 := (X5.out.below hw').c3; go_simp; try (with_reducible rfl))
  simp only [Act.put]; try simp only [List.setIfInBounds_toArray]; try simp only [List.set_cons_zero, List.set_cons_succ]
  refine wpAnyL_take (i := 10) (d := some 27) (v := ?vaa10) rfl rfl (by kernel_rfl) (by kernel_rfl) (by kernel_rfl) (fun _ _ _ h => h) (by rfl) ?yaa10 ?_
  case yaa10 => (intro w' hw'; go_simp; try (with_reducible rfl))
  simp only [Act.put]; try simp only [List.setIfInBounds_toArray]; try simp only [List.set_cons_zero, List.set_cons_succ]
  refine wpAnyL_take (i := 11) (d := some 28) (v := .agg #[.string s.name, .slice s.p s.n s.c]) rfl rfl (by kernel_rfl) (by kernel_rfl) (by kernel_rfl) (fun _ _ _ h => h) (by rfl) ?yaa11 ?_
  case yaa11 => (intro w' hw'; exact exec_load_sdef _ (by rfl) (by rfl) (X5.out.below hw'))
  simp only [Act.put]; try simp only [List.setIfInBounds_toArray]; try simp only [List.set_cons_zero, List.set_cons_succ]
  refine wpAnyL_only (i := 12) rfl (by kernel_rfl) (by rfl) fun K hK => ?_
  go_simp
  refine (CP.out _ L15.out).mono ?_
  rintro e w_12 ⟨rfl, hl_⟩
  have L12a := hide (L5.out.trans hl_)
  have L112 := hide (L15.out.trans hl_)
  have X12 := hide (X5.out.below hl_)
  have Y12 := hide (Y5.out.below hl_)
  refine hK.out _ _ hl_ ?_
  clear hl_
  clear hK K
  try (simp only [Act.put]; try simp only [List.setIfInBounds_toArray]; try simp only [List.set_cons_zero, List.set_cons_succ])
  refine wpAnyL_take (i := 13) (d := some 30) (v := .bool false) rfl rfl (by kernel_rfl) (by kernel_rfl) (by kernel_rfl) (fun _ _ _ h => h) (by rfl) ?yaa13 ?_
  case yaa13 => (intro w' hw'; go_simp; exact HPV.out)
  simp only [Act.put]; try simp only [List.setIfInBounds_toArray]; try simp only [List.set_cons_zero, List.set_cons_succ]
  refine wpAnyL_take (i := 14) (d := some 31) (v := ?vaa14) rfl rfl (by kernel_rfl) (by kernel_rfl) (by kernel_rfl) (fun _ _ _ h => h) (by rfl) ?yaa14 ?_
  case yaa14 => (intro w' hw'; go_simp; try (with_reducible rfl))
  simp only [Act.put]; try simp only [List.setIfInBounds_toArray]; try simp only [List.set_cons_zero, List.set_cons_succ]
  refine wpAnyL_take (i := 15) (d := some 16) (v := ?vaa15) rfl rfl (by kernel_rfl) (by kernel_rfl) (by kernel_rfl) (fun _ _ _ h => h) (by rfl) ?yaa15 ?_
  case yaa15 => (intro w' hw'; go_simp; try (with_reducible rfl))
  simp only [Act.put]; try simp only [List.setIfInBounds_toArray]; try simp only [List.set_cons_zero, List.set_cons_succ]
  refine wpAnyL_done (by kernel_rfl) ?_ _
  go_wp2_with (refine wpList_load_saga (by rfl) _ (by rfl) (by rfl) X12.out ?_)
  refine (CH.out _ L112.out).mono ?_
  rintro e w21 ⟨rfl, hl⟩
  have L121 := hide (L112.out.trans hl)
  have L21 := hide (L12a.out.trans hl)
  have Y21 := hide (Y12.out.below hl)
  clear hl
  go_wp2_with (fail)
  refine (CF.out _ L121.out).mono ?_
  rintro e w22 ⟨rfl, hl⟩
  have L122 := hide (L121.out.trans hl)
  have L22 := hide (L21.out.trans hl)
  have Y22 := hide (Y21.out.below hl)
  clear hl
  go_wp2_with (fail)
  refine (CO.out _ L122.out).mono ?_
  rintro e w23 ⟨P, N, K, rfl, hs, hl⟩
  have HS9 := hide hs
  have HLT := hide (Y22.out.lt)
  have L23 := hide (L22.out.trans hl)
  have HSZ := hide (Below.size L22.out)
  have Y23 := hide (Y22.out.below hl)
  clear hl hs
  go_wp2_with (first | (refine wpList_load_saga (by rfl) _ (by rfl) (by rfl) X12.out ?_) | (refine wpList_store_saga (by rfl) _ _ (by rfl) (by rfl) Y23.out (by rfl) ?_; intro w24 Z24 G24))
  have S9 : Hid (StepsAt (w.heap.size ≤ ·) w24 (.slice P N K) l) := FlatAt.mono (own_kept HS9.out HLT.out G24) (fun i _ hf => Nat.le_trans HSZ.out hf)
  have HLF : Hid (Later w _) := L23.out.grown G24 (Below.size L23.out) (fun k hk => by have := Option.some.inj hk; have := HG0.out; omega)
  refine bodyPost_ret (results_box2 Try.results29 _ _ (g + 1) 27 _ _ (by rfl) Z24 Try.underlying27 (by rfl) (by kernel_rfl) (.int .i64 0) (by rfl)) (by rfl) ?_
  exact ⟨P, N, K, rfl, S9.out, HLF.out⟩
/-- The list of steps that Cancel tells. -/
def cancelL (l : List StepD) (s : SagaD) : List StepD := if (cancelF l s).2 = 10 then [] else l
theorem cancel_any {F : Nat → Prop} {s : SagaD} {l : List StepD} (h : StepsAt F w s.v l) (hl6 : l.length ≤ 1000000) (hw : ∀ x ∈ l, x.wf) (h1 : I64 s.step) : Calls Try.prog 29 #[s.val] w (CTold (cancelF l s).1 (cancelF l s).2 (cancelL l s) w) := by
  unfold cancelL cancelF
  cases hq : goodF l s with
  | false => exact cancel_arg h hl6 hw h1 hq
  | true =>
    rw [if_pos rfl]
    have he : (checkF s.name l).2 = 0 := by
      unfold goodF at hq
      by_cases he : (checkF s.name l).2 = 0
      · exact he
      · rw [if_pos he] at hq; cases hq
    have hl8 := (check_good he).1
    by_cases n2 : s.st = 2
    · rw [if_pos n2]; exact cancel_undo h hl6 hw h1 hq n2
    · rw [if_neg n2]
      by_cases n1 : s.st = 1
      · have hwb : wantsB l s = true := by unfold wantsB; rw [hq, n1]; rfl
        obtain ⟨_, p1, p2, p3, _⟩ := wants_parts hwb
        cases hse : sealedS l s with
        | true =>
          rw [show lateB l s = true from by unfold lateB; rw [hse]; simp]
          exact cancel_late2 h hl8 hw h1 hq n1 hse
        | false =>
          by_cases hp : s.step = ((pivotN l : Nat) : Int)
          · rw [show lateB l s = true from by unfold lateB; rw [decide_eq_true hp]; simp]
            exact cancel_late3 h hl8 hw h1 hq n1 hse hp
          · rw [show lateB l s = false from by unfold lateB; rw [hse, decide_eq_false hp, n1]; rfl]
            exact cancel_ok h hl8 hw h1 hq n1 hse hp p1 p3
      · rw [show lateB l s = true from by unfold lateB; rw [decide_eq_true n1]; rfl]
        exact cancel_late1 h hl8 hw h1 hq n1 n2
end
end Go.Proofs.Ytodifeoficjamaa
/- Something happens to a saga. -/
namespace Go.Proofs.Ytodifeoficjamaa
open Go.RowKit
structure EvD where
  kind : Int
  step : Int
  tr : Int
  back : Bool
  good : Bool
def EvD.cells (c : EvD) : List Value := [.int .i64 c.kind, .int .i64 c.step, .int .i64 c.tr, .bool c.back, .bool c.good]
abbrev EvD.val (c : EvD) : Value := .agg c.cells.toArray
/-- What it makes of a saga; did it do something? -/
def happenF (l : List StepD) (s : SagaD) (e : EvD) : SagaD × Bool :=
  if e.kind = 0 then (reportF l s e.step e.tr e.back e.good, isIt l s e.step e.tr e.back)
  else if e.kind = 1 then (lapseF l s e.step e.tr e.back, isIt l s e.step e.tr e.back)
  else if e.kind = 2 then ((cancelF l s).1, decide ((cancelF l s).2 = 0))
  else if e.kind = 3 then (reportF l s (wantsC l s).step (wantsC l s).tr (wantsC l s).back true, isIt l s (wantsC l s).step (wantsC l s).tr (wantsC l s).back)
  else if e.kind = 4 then (reportF l s (wantsC l s).step (wantsC l s).tr (wantsC l s).back false, isIt l s (wantsC l s).step (wantsC l s).tr (wantsC l s).back)
  else (lapseF l s (wantsC l s).step (wantsC l s).tr (wantsC l s).back, isIt l s (wantsC l s).step (wantsC l s).tr (wantsC l s).back)
def happenL (l : List StepD) (s : SagaD) (e : EvD) : List StepD := if e.kind = 2 then cancelL l s else l
def EvBox (g : Nat) (c : EvD) (w : World) : Prop := w.heap[g]? = some (.cells c.cells.toArray 47 (0, 0))
theorem EvBox.below {g : Nat} {c : EvD} {w w' : World} (h : EvBox g c w) (hl : Later w w') : EvBox g c w' := (Below.block hl g (lt_of_block h)).trans h
theorem EvBox.cells {g : Nat} {c : EvD} {w : World} (h : EvBox g c w) : w.cell? ⟨g, 0, none⟩ = some (.int .i64 c.kind) ∧ w.cell? ⟨g, 1, none⟩ = some (.int .i64 c.step) ∧ w.cell? ⟨g, 2, none⟩ = some (.int .i64 c.tr) ∧ w.cell? ⟨g, 3, none⟩ = some (.bool c.back) ∧ w.cell? ⟨g, 4, none⟩ = some (.bool c.good) :=
  ⟨(cell_of_row w g 0 _ _ _ h).trans rfl, (cell_of_row w g 1 _ _ _ h).trans rfl, (cell_of_row w g 2 _ _ _ h).trans rfl, (cell_of_row w g 3 _ _ _ h).trans rfl, (cell_of_row w g 4 _ _ _ h).trans rfl⟩
section
variable {w : World}
set_option maxHeartbeats 4000000 in
theorem hap0 {F : Nat → Prop} {s : SagaD} {l : List StepD} {ev : EvD} (h : StepsAt F w s.v l) (hl6 : l.length ≤ 1000000) (hw : ∀ x ∈ l, x.wf) (h1 : I64 s.step) (hk : ev.kind = 0) : Calls Try.prog 16 #[s.val, ev.val] w (Told (reportF l s ev.step ev.tr ev.back ev.good) (isIt l s ev.step ev.tr ev.back) l w) := by
  obtain ⟨W1, hW1⟩ : ∃ W1, W1 = ((w.alloc (.cells s.cells.toArray 27 (0, 0))).alloc (.cells ev.cells.toArray 47 (0, 0))).alloc (.cells #[.string ⟨#[]⟩, .slice none 0 0, .int .i64 0, .int .i64 0, .int .i64 0, .bool false, .bool false, .bool false, .bool false, .bool false, .bool false, .bool false, .bool false] 27 (0, 0)) := ⟨_, rfl⟩
  obtain ⟨g, hg⟩ : ∃ g, g = w.heap.size := ⟨_, rfl⟩
  have X1 : Hid (SBox 27 g s W1) := by rw [hW1, hg]; exact (heap_alloc_old _ _ (by simp <;> omega)).trans ((heap_alloc_old _ _ (by simp <;> omega)).trans (heap_alloc_new _ _))
  have V1 : Hid (EvBox (g + 1) ev W1) := by rw [hW1, hg]; exact (heap_alloc_old _ _ (by simp <;> omega)).trans (heap_second _ _ _)
  have Y1 : Hid (SBox 27 (g + 1 + 1) SagaD.zero W1) := by
    rw [hW1, hg]
    have hh := heap_second (w.alloc (.cells s.cells.toArray 27 (0, 0))) (.cells ev.cells.toArray 47 (0, 0)) (.cells #[.string ⟨#[]⟩, .slice none 0 0, .int .i64 0, .int .i64 0, .int .i64 0, .bool false, .bool false, .bool false, .bool false, .bool false, .bool false, .bool false, .bool false] 27 (0, 0))
    rwa [show (w.alloc (.cells s.cells.toArray 27 (0, 0))).heap.size = w.heap.size + 1 from by simp] at hh
  have L1 : Hid (Later w W1) := by rw [hW1]; exact (((Below.refl _ _).alloc (Nat.le_refl _) _).alloc (by simp) _).alloc (by simp <;> omega) _
  have HG0 : Hid (w.heap.size ≤ g) := Nat.le_of_eq hg.symm
  have CW0 : Hid (∀ W, Later W1 W → Calls Try.prog 11 #[s.val] W (Wanted l s W)) := fun W hW => wants_any (StepsAt.kept h (Kept.of_below (L1.out.trans hW) _)) hw h1
  obtain ⟨cs, hcs⟩ : ∃ c, (wantsC l s).stub = c := ⟨_, rfl⟩
  obtain ⟨ct, hct⟩ : ∃ c, (wantsC l s).step = c := ⟨_, rfl⟩
  obtain ⟨cr, hcr⟩ : ∃ c, (wantsC l s).tr = c := ⟨_, rfl⟩
  obtain ⟨cb, hcb⟩ : ∃ c, (wantsC l s).back = c := ⟨_, rfl⟩
  have CW : Hid (∀ W, Later W1 W → Calls Try.prog 11 #[s.val] W fun e w' => e = .returned (.tuple #[.agg #[.int .i64 0, .int .i64 cs, .int .i64 0, .int .i64 ct, .int .i64 cr, .bool cb], .int .i64 (wantsW l s), .bool (wantsB l s)]) ∧ Later W w') := fun W hW => (CW0.out W hW).mono (fun e w' he => ⟨by rw [he.1, ← hcs, ← hct, ← hcr, ← hcb]; rfl, he.2⟩)
  obtain ⟨ticks, ht⟩ : ∃ t, wantsW l s = t := ⟨_, rfl⟩
  obtain ⟨wb, hwb⟩ : ∃ t, wantsB l s = t := ⟨_, rfl⟩
  rw [ht, hwb] at CW
  have C : Hid (∀ W, Later W1 W → Calls Try.prog 18 #[s.val, .int .i64 ev.step, .int .i64 ev.tr, .bool ev.back, .bool ev.good] W (Told (reportF l s ev.step ev.tr ev.back ev.good) (isIt l s ev.step ev.tr ev.back) l W)) := fun W hW => report_any (StepsAt.kept h (Kept.of_below (L1.out.trans hW) _)) hl6 hw h1
  obtain ⟨s2, hs2⟩ : ∃ x, reportF l s ev.step ev.tr ev.back ev.good = x := ⟨_, rfl⟩
  obtain ⟨Q, hQ⟩ : ∃ x, isIt l s ev.step ev.tr ev.back = x := ⟨_, rfl⟩
  rw [hs2, hQ] at C ⊢
  have HW1 := hide hW1.symm
  have HG := hide hg.symm
  have xe := X1.out
  rw [hW1, hg] at xe
  have XE := hide xe
  clear hW1 hg h hl6 hw h1 ht hwb xe CW0 hcs hct hcr hcb hs2 hQ
  go_enter Try.func16, Try.ntmps16
  go_wp2_with (refine wpList_load_saga (by rfl) _ (by rfl) (by rfl) XE.out ?_; simp only [HW1.out, HG.out])
  refine (CW.out _ (Later.refl _)).mono ?_
  rintro e w2 ⟨rfl, hl⟩
  have L12 := hide hl
  have L2 := hide (L1.out.trans hl)
  have X2 := hide (X1.out.below hl)
  have Y2 := hide (Y1.out.below hl)
  have V2 := hide (V1.out.below hl)
  clear hl CW
  obtain ⟨w3, hw3⟩ : ∃ w3, w3 = w2.alloc (.cells #[.int .i64 0, .int .i64 cs, .int .i64 0, .int .i64 ct, .int .i64 cr, .bool cb] 38 (0, 0)) := ⟨_, rfl⟩
  obtain ⟨y, hy⟩ : ∃ y, y = w2.heap.size := ⟨_, rfl⟩
  have B3 : Hid (CBox y ⟨cs, ct, cr, cb⟩ w3) := by rw [hw3, hy]; exact heap_alloc_new w2 _
  have L23 : Hid (Later w2 w3) := by rw [hw3]; exact (Below.refl _ _).alloc (Nat.le_refl _) _
  have L13 := hide (L12.out.trans L23.out)
  have L3 := hide (L2.out.trans L23.out)
  have X3 := hide (X2.out.below L23.out)
  have Y3 := hide (Y2.out.below L23.out)
  have V3 := hide (V2.out.below L23.out)
  obtain ⟨k0, k1, k2, k3, k4, k5, kf⟩ := B3.out.cells
  obtain ⟨e0, e1, e2, e3, e4⟩ := V3.out.cells
  have z0 := e0
  rw [hw3] at z0
  have x3 := X3.out
  rw [hw3] at x3
  have XR := hide x3
  have HW3 := hide hw3.symm
  have HY := hide hy.symm
  clear k0 k1 k2 kf hw3 hy x3
  rw [hk] at z0 e0
  clear hk
  go_wp2_with (refine wpList_load_saga (by rfl) _ (by rfl) (by rfl) XR.out ?_; simp only [HW3.out, HY.out])
  refine (C.out _ L13.out).mono ?_
  rintro e w4 ⟨P, N, K, rfl, hs, hl⟩
  have HLT := hide (Y3.out.lt)
  have HSZ := hide (Below.size L3.out)
  have HS9 := hide hs
  have L4 := hide (L3.out.trans hl)
  have Y4 := hide (Y3.out.below hl)
  clear hl hs
  clear e0 e1 e2 e3 e4 z0 k3 k4 k5
  go_wp2_with (refine wpList_store_saga (by rfl) _ _ (by rfl) (by rfl) Y4.out (by rfl) ?_; intro w5 Z5 G5)
  have S9 : Hid (StepsAt (w.heap.size ≤ ·) w5 (.slice P N K) _) := FlatAt.mono (own_kept HS9.out HLT.out G5) (fun i _ hf => Nat.le_trans HSZ.out hf)
  have HLF : Hid (Later w w5) := L4.out.grown G5 (Below.size L4.out) (fun k hk => by have := Option.some.inj hk; have := HG0.out; omega)
  refine bodyPost_ret (results_box2 Try.results16 _ _ (g + 1 + 1) 27 _ _ (by rfl) Z5 Try.underlying27 (by rfl) (by kernel_rfl) (.bool Q) (by rfl)) (by rfl) ?_
  exact ⟨P, N, K, rfl, S9.out, HLF.out⟩

set_option maxHeartbeats 4000000 in
theorem hap1 {F : Nat → Prop} {s : SagaD} {l : List StepD} {ev : EvD} (h : StepsAt F w s.v l) (hl6 : l.length ≤ 1000000) (hw : ∀ x ∈ l, x.wf) (h1 : I64 s.step) (hk : ev.kind = 1) : Calls Try.prog 16 #[s.val, ev.val] w (Told (lapseF l s ev.step ev.tr ev.back) (isIt l s ev.step ev.tr ev.back) l w) := by
  obtain ⟨W1, hW1⟩ : ∃ W1, W1 = ((w.alloc (.cells s.cells.toArray 27 (0, 0))).alloc (.cells ev.cells.toArray 47 (0, 0))).alloc (.cells #[.string ⟨#[]⟩, .slice none 0 0, .int .i64 0, .int .i64 0, .int .i64 0, .bool false, .bool false, .bool false, .bool false, .bool false, .bool false, .bool false, .bool false] 27 (0, 0)) := ⟨_, rfl⟩
  obtain ⟨g, hg⟩ : ∃ g, g = w.heap.size := ⟨_, rfl⟩
  have X1 : Hid (SBox 27 g s W1) := by rw [hW1, hg]; exact (heap_alloc_old _ _ (by simp <;> omega)).trans ((heap_alloc_old _ _ (by simp <;> omega)).trans (heap_alloc_new _ _))
  have V1 : Hid (EvBox (g + 1) ev W1) := by rw [hW1, hg]; exact (heap_alloc_old _ _ (by simp <;> omega)).trans (heap_second _ _ _)
  have Y1 : Hid (SBox 27 (g + 1 + 1) SagaD.zero W1) := by
    rw [hW1, hg]
    have hh := heap_second (w.alloc (.cells s.cells.toArray 27 (0, 0))) (.cells ev.cells.toArray 47 (0, 0)) (.cells #[.string ⟨#[]⟩, .slice none 0 0, .int .i64 0, .int .i64 0, .int .i64 0, .bool false, .bool false, .bool false, .bool false, .bool false, .bool false, .bool false, .bool false] 27 (0, 0))
    rwa [show (w.alloc (.cells s.cells.toArray 27 (0, 0))).heap.size = w.heap.size + 1 from by simp] at hh
  have L1 : Hid (Later w W1) := by rw [hW1]; exact (((Below.refl _ _).alloc (Nat.le_refl _) _).alloc (by simp) _).alloc (by simp <;> omega) _
  have HG0 : Hid (w.heap.size ≤ g) := Nat.le_of_eq hg.symm
  have CW0 : Hid (∀ W, Later W1 W → Calls Try.prog 11 #[s.val] W (Wanted l s W)) := fun W hW => wants_any (StepsAt.kept h (Kept.of_below (L1.out.trans hW) _)) hw h1
  obtain ⟨cs, hcs⟩ : ∃ c, (wantsC l s).stub = c := ⟨_, rfl⟩
  obtain ⟨ct, hct⟩ : ∃ c, (wantsC l s).step = c := ⟨_, rfl⟩
  obtain ⟨cr, hcr⟩ : ∃ c, (wantsC l s).tr = c := ⟨_, rfl⟩
  obtain ⟨cb, hcb⟩ : ∃ c, (wantsC l s).back = c := ⟨_, rfl⟩
  have CW : Hid (∀ W, Later W1 W → Calls Try.prog 11 #[s.val] W fun e w' => e = .returned (.tuple #[.agg #[.int .i64 0, .int .i64 cs, .int .i64 0, .int .i64 ct, .int .i64 cr, .bool cb], .int .i64 (wantsW l s), .bool (wantsB l s)]) ∧ Later W w') := fun W hW => (CW0.out W hW).mono (fun e w' he => ⟨by rw [he.1, ← hcs, ← hct, ← hcr, ← hcb]; rfl, he.2⟩)
  obtain ⟨ticks, ht⟩ : ∃ t, wantsW l s = t := ⟨_, rfl⟩
  obtain ⟨wb, hwb⟩ : ∃ t, wantsB l s = t := ⟨_, rfl⟩
  rw [ht, hwb] at CW
  have C : Hid (∀ W, Later W1 W → Calls Try.prog 28 #[s.val, .int .i64 ev.step, .int .i64 ev.tr, .bool ev.back] W (Told (lapseF l s ev.step ev.tr ev.back) (isIt l s ev.step ev.tr ev.back) l W)) := fun W hW => lapse_any (StepsAt.kept h (Kept.of_below (L1.out.trans hW) _)) hl6 hw h1
  obtain ⟨s2, hs2⟩ : ∃ x, lapseF l s ev.step ev.tr ev.back = x := ⟨_, rfl⟩
  obtain ⟨Q, hQ⟩ : ∃ x, isIt l s ev.step ev.tr ev.back = x := ⟨_, rfl⟩
  rw [hs2, hQ] at C ⊢
  have HW1 := hide hW1.symm
  have HG := hide hg.symm
  have xe := X1.out
  rw [hW1, hg] at xe
  have XE := hide xe
  clear hW1 hg h hl6 hw h1 ht hwb xe CW0 hcs hct hcr hcb hs2 hQ
  go_enter Try.func16, Try.ntmps16
  go_wp2_with (refine wpList_load_saga (by rfl) _ (by rfl) (by rfl) XE.out ?_; simp only [HW1.out, HG.out])
  refine (CW.out _ (Later.refl _)).mono ?_
  rintro e w2 ⟨rfl, hl⟩
  have L12 := hide hl
  have L2 := hide (L1.out.trans hl)
  have X2 := hide (X1.out.below hl)
  have Y2 := hide (Y1.out.below hl)
  have V2 := hide (V1.out.below hl)
  clear hl CW
  obtain ⟨w3, hw3⟩ : ∃ w3, w3 = w2.alloc (.cells #[.int .i64 0, .int .i64 cs, .int .i64 0, .int .i64 ct, .int .i64 cr, .bool cb] 38 (0, 0)) := ⟨_, rfl⟩
  obtain ⟨y, hy⟩ : ∃ y, y = w2.heap.size := ⟨_, rfl⟩
  have B3 : Hid (CBox y ⟨cs, ct, cr, cb⟩ w3) := by rw [hw3, hy]; exact heap_alloc_new w2 _
  have L23 : Hid (Later w2 w3) := by rw [hw3]; exact (Below.refl _ _).alloc (Nat.le_refl _) _
  have L13 := hide (L12.out.trans L23.out)
  have L3 := hide (L2.out.trans L23.out)
  have X3 := hide (X2.out.below L23.out)
  have Y3 := hide (Y2.out.below L23.out)
  have V3 := hide (V2.out.below L23.out)
  obtain ⟨k0, k1, k2, k3, k4, k5, kf⟩ := B3.out.cells
  obtain ⟨e0, e1, e2, e3, e4⟩ := V3.out.cells
  have z0 := e0
  rw [hw3] at z0
  have x3 := X3.out
  rw [hw3] at x3
  have XR := hide x3
  have HW3 := hide hw3.symm
  have HY := hide hy.symm
  clear k0 k1 k2 kf hw3 hy x3
  rw [hk] at z0 e0
  clear hk
  go_wp2_with (refine wpList_load_saga (by rfl) _ (by rfl) (by rfl) XR.out ?_; simp only [HW3.out, HY.out])
  refine (C.out _ L13.out).mono ?_
  rintro e w4 ⟨P, N, K, rfl, hs, hl⟩
  have HLT := hide (Y3.out.lt)
  have HSZ := hide (Below.size L3.out)
  have HS9 := hide hs
  have L4 := hide (L3.out.trans hl)
  have Y4 := hide (Y3.out.below hl)
  clear hl hs
  clear e0 e1 e2 e3 e4 z0 k3 k4 k5
  go_wp2_with (refine wpList_store_saga (by rfl) _ _ (by rfl) (by rfl) Y4.out (by rfl) ?_; intro w5 Z5 G5)
  have S9 : Hid (StepsAt (w.heap.size ≤ ·) w5 (.slice P N K) _) := FlatAt.mono (own_kept HS9.out HLT.out G5) (fun i _ hf => Nat.le_trans HSZ.out hf)
  have HLF : Hid (Later w w5) := L4.out.grown G5 (Below.size L4.out) (fun k hk => by have := Option.some.inj hk; have := HG0.out; omega)
  refine bodyPost_ret (results_box2 Try.results16 _ _ (g + 1 + 1) 27 _ _ (by rfl) Z5 Try.underlying27 (by rfl) (by kernel_rfl) (.bool Q) (by rfl)) (by rfl) ?_
  exact ⟨P, N, K, rfl, S9.out, HLF.out⟩

set_option maxHeartbeats 4000000 in
theorem hap3 {F : Nat → Prop} {s : SagaD} {l : List StepD} {ev : EvD} (h : StepsAt F w s.v l) (hl6 : l.length ≤ 1000000) (hw : ∀ x ∈ l, x.wf) (h1 : I64 s.step) (hk : ev.kind = 3) : Calls Try.prog 16 #[s.val, ev.val] w (Told (reportF l s (wantsC l s).step (wantsC l s).tr (wantsC l s).back true) (isIt l s (wantsC l s).step (wantsC l s).tr (wantsC l s).back) l w) := by
  obtain ⟨W1, hW1⟩ : ∃ W1, W1 = ((w.alloc (.cells s.cells.toArray 27 (0, 0))).alloc (.cells ev.cells.toArray 47 (0, 0))).alloc (.cells #[.string ⟨#[]⟩, .slice none 0 0, .int .i64 0, .int .i64 0, .int .i64 0, .bool false, .bool false, .bool false, .bool false, .bool false, .bool false, .bool false, .bool false] 27 (0, 0)) := ⟨_, rfl⟩
  obtain ⟨g, hg⟩ : ∃ g, g = w.heap.size := ⟨_, rfl⟩
  have X1 : Hid (SBox 27 g s W1) := by rw [hW1, hg]; exact (heap_alloc_old _ _ (by simp <;> omega)).trans ((heap_alloc_old _ _ (by simp <;> omega)).trans (heap_alloc_new _ _))
  have V1 : Hid (EvBox (g + 1) ev W1) := by rw [hW1, hg]; exact (heap_alloc_old _ _ (by simp <;> omega)).trans (heap_second _ _ _)
  have Y1 : Hid (SBox 27 (g + 1 + 1) SagaD.zero W1) := by
    rw [hW1, hg]
    have hh := heap_second (w.alloc (.cells s.cells.toArray 27 (0, 0))) (.cells ev.cells.toArray 47 (0, 0)) (.cells #[.string ⟨#[]⟩, .slice none 0 0, .int .i64 0, .int .i64 0, .int .i64 0, .bool false, .bool false, .bool false, .bool false, .bool false, .bool false, .bool false, .bool false] 27 (0, 0))
    rwa [show (w.alloc (.cells s.cells.toArray 27 (0, 0))).heap.size = w.heap.size + 1 from by simp] at hh
  have L1 : Hid (Later w W1) := by rw [hW1]; exact (((Below.refl _ _).alloc (Nat.le_refl _) _).alloc (by simp) _).alloc (by simp <;> omega) _
  have HG0 : Hid (w.heap.size ≤ g) := Nat.le_of_eq hg.symm
  have CW0 : Hid (∀ W, Later W1 W → Calls Try.prog 11 #[s.val] W (Wanted l s W)) := fun W hW => wants_any (StepsAt.kept h (Kept.of_below (L1.out.trans hW) _)) hw h1
  obtain ⟨cs, hcs⟩ : ∃ c, (wantsC l s).stub = c := ⟨_, rfl⟩
  obtain ⟨ct, hct⟩ : ∃ c, (wantsC l s).step = c := ⟨_, rfl⟩
  obtain ⟨cr, hcr⟩ : ∃ c, (wantsC l s).tr = c := ⟨_, rfl⟩
  obtain ⟨cb, hcb⟩ : ∃ c, (wantsC l s).back = c := ⟨_, rfl⟩
  have CW : Hid (∀ W, Later W1 W → Calls Try.prog 11 #[s.val] W fun e w' => e = .returned (.tuple #[.agg #[.int .i64 0, .int .i64 cs, .int .i64 0, .int .i64 ct, .int .i64 cr, .bool cb], .int .i64 (wantsW l s), .bool (wantsB l s)]) ∧ Later W w') := fun W hW => (CW0.out W hW).mono (fun e w' he => ⟨by rw [he.1, ← hcs, ← hct, ← hcr, ← hcb]; rfl, he.2⟩)
  obtain ⟨ticks, ht⟩ : ∃ t, wantsW l s = t := ⟨_, rfl⟩
  obtain ⟨wb, hwb⟩ : ∃ t, wantsB l s = t := ⟨_, rfl⟩
  rw [ht, hwb] at CW
  have C : Hid (∀ W, Later W1 W → Calls Try.prog 18 #[s.val, .int .i64 ct, .int .i64 cr, .bool cb, .bool true] W (Told (reportF l s (wantsC l s).step (wantsC l s).tr (wantsC l s).back true) (isIt l s (wantsC l s).step (wantsC l s).tr (wantsC l s).back) l W)) := fun W hW => by
    have hh := report_any (step := (wantsC l s).step) (tr := (wantsC l s).tr) (back := (wantsC l s).back) (good := true) (StepsAt.kept h (Kept.of_below (L1.out.trans hW) _)) hl6 hw h1
    rwa [hct, hcr, hcb] at hh ⊢
  obtain ⟨s2, hs2⟩ : ∃ x, reportF l s (wantsC l s).step (wantsC l s).tr (wantsC l s).back true = x := ⟨_, rfl⟩
  obtain ⟨Q, hQ⟩ : ∃ x, isIt l s (wantsC l s).step (wantsC l s).tr (wantsC l s).back = x := ⟨_, rfl⟩
  rw [hs2, hQ] at C ⊢
  have HW1 := hide hW1.symm
  have HG := hide hg.symm
  have xe := X1.out
  rw [hW1, hg] at xe
  have XE := hide xe
  clear hW1 hg h hl6 hw h1 ht hwb xe CW0 hcs hct hcr hcb hs2 hQ
  go_enter Try.func16, Try.ntmps16
  go_wp2_with (refine wpList_load_saga (by rfl) _ (by rfl) (by rfl) XE.out ?_; simp only [HW1.out, HG.out])
  refine (CW.out _ (Later.refl _)).mono ?_
  rintro e w2 ⟨rfl, hl⟩
  have L12 := hide hl
  have L2 := hide (L1.out.trans hl)
  have X2 := hide (X1.out.below hl)
  have Y2 := hide (Y1.out.below hl)
  have V2 := hide (V1.out.below hl)
  clear hl CW
  obtain ⟨w3, hw3⟩ : ∃ w3, w3 = w2.alloc (.cells #[.int .i64 0, .int .i64 cs, .int .i64 0, .int .i64 ct, .int .i64 cr, .bool cb] 38 (0, 0)) := ⟨_, rfl⟩
  obtain ⟨y, hy⟩ : ∃ y, y = w2.heap.size := ⟨_, rfl⟩
  have B3 : Hid (CBox y ⟨cs, ct, cr, cb⟩ w3) := by rw [hw3, hy]; exact heap_alloc_new w2 _
  have L23 : Hid (Later w2 w3) := by rw [hw3]; exact (Below.refl _ _).alloc (Nat.le_refl _) _
  have L13 := hide (L12.out.trans L23.out)
  have L3 := hide (L2.out.trans L23.out)
  have X3 := hide (X2.out.below L23.out)
  have Y3 := hide (Y2.out.below L23.out)
  have V3 := hide (V2.out.below L23.out)
  obtain ⟨k0, k1, k2, k3, k4, k5, kf⟩ := B3.out.cells
  obtain ⟨e0, e1, e2, e3, e4⟩ := V3.out.cells
  have z0 := e0
  rw [hw3] at z0
  have x3 := X3.out
  rw [hw3] at x3
  have XR := hide x3
  have HW3 := hide hw3.symm
  have HY := hide hy.symm
  clear k0 k1 k2 kf hw3 hy x3
  rw [hk] at z0 e0
  clear hk
  go_wp2_with (refine wpList_load_saga (by rfl) _ (by rfl) (by rfl) XR.out ?_; simp only [HW3.out, HY.out])
  refine (C.out _ L13.out).mono ?_
  rintro e w4 ⟨P, N, K, rfl, hs, hl⟩
  have HLT := hide (Y3.out.lt)
  have HSZ := hide (Below.size L3.out)
  have HS9 := hide hs
  have L4 := hide (L3.out.trans hl)
  have Y4 := hide (Y3.out.below hl)
  clear hl hs
  clear e0 e1 e2 e3 e4 z0 k3 k4 k5
  go_wp2_with (refine wpList_store_saga (by rfl) _ _ (by rfl) (by rfl) Y4.out (by rfl) ?_; intro w5 Z5 G5)
  have S9 : Hid (StepsAt (w.heap.size ≤ ·) w5 (.slice P N K) _) := FlatAt.mono (own_kept HS9.out HLT.out G5) (fun i _ hf => Nat.le_trans HSZ.out hf)
  have HLF : Hid (Later w w5) := L4.out.grown G5 (Below.size L4.out) (fun k hk => by have := Option.some.inj hk; have := HG0.out; omega)
  refine bodyPost_ret (results_box2 Try.results16 _ _ (g + 1 + 1) 27 _ _ (by rfl) Z5 Try.underlying27 (by rfl) (by kernel_rfl) (.bool Q) (by rfl)) (by rfl) ?_
  exact ⟨P, N, K, rfl, S9.out, HLF.out⟩

set_option maxHeartbeats 4000000 in
theorem hap4 {F : Nat → Prop} {s : SagaD} {l : List StepD} {ev : EvD} (h : StepsAt F w s.v l) (hl6 : l.length ≤ 1000000) (hw : ∀ x ∈ l, x.wf) (h1 : I64 s.step) (hk : ev.kind = 4) : Calls Try.prog 16 #[s.val, ev.val] w (Told (reportF l s (wantsC l s).step (wantsC l s).tr (wantsC l s).back false) (isIt l s (wantsC l s).step (wantsC l s).tr (wantsC l s).back) l w) := by
  obtain ⟨W1, hW1⟩ : ∃ W1, W1 = ((w.alloc (.cells s.cells.toArray 27 (0, 0))).alloc (.cells ev.cells.toArray 47 (0, 0))).alloc (.cells #[.string ⟨#[]⟩, .slice none 0 0, .int .i64 0, .int .i64 0, .int .i64 0, .bool false, .bool false, .bool false, .bool false, .bool false, .bool false, .bool false, .bool false] 27 (0, 0)) := ⟨_, rfl⟩
  obtain ⟨g, hg⟩ : ∃ g, g = w.heap.size := ⟨_, rfl⟩
  have X1 : Hid (SBox 27 g s W1) := by rw [hW1, hg]; exact (heap_alloc_old _ _ (by simp <;> omega)).trans ((heap_alloc_old _ _ (by simp <;> omega)).trans (heap_alloc_new _ _))
  have V1 : Hid (EvBox (g + 1) ev W1) := by rw [hW1, hg]; exact (heap_alloc_old _ _ (by simp <;> omega)).trans (heap_second _ _ _)
  have Y1 : Hid (SBox 27 (g + 1 + 1) SagaD.zero W1) := by
    rw [hW1, hg]
    have hh := heap_second (w.alloc (.cells s.cells.toArray 27 (0, 0))) (.cells ev.cells.toArray 47 (0, 0)) (.cells #[.string ⟨#[]⟩, .slice none 0 0, .int .i64 0, .int .i64 0, .int .i64 0, .bool false, .bool false, .bool false, .bool false, .bool false, .bool false, .bool false, .bool false] 27 (0, 0))
    rwa [show (w.alloc (.cells s.cells.toArray 27 (0, 0))).heap.size = w.heap.size + 1 from by simp] at hh
  have L1 : Hid (Later w W1) := by rw [hW1]; exact (((Below.refl _ _).alloc (Nat.le_refl _) _).alloc (by simp) _).alloc (by simp <;> omega) _
  have HG0 : Hid (w.heap.size ≤ g) := Nat.le_of_eq hg.symm
  have CW0 : Hid (∀ W, Later W1 W → Calls Try.prog 11 #[s.val] W (Wanted l s W)) := fun W hW => wants_any (StepsAt.kept h (Kept.of_below (L1.out.trans hW) _)) hw h1
  obtain ⟨cs, hcs⟩ : ∃ c, (wantsC l s).stub = c := ⟨_, rfl⟩
  obtain ⟨ct, hct⟩ : ∃ c, (wantsC l s).step = c := ⟨_, rfl⟩
  obtain ⟨cr, hcr⟩ : ∃ c, (wantsC l s).tr = c := ⟨_, rfl⟩
  obtain ⟨cb, hcb⟩ : ∃ c, (wantsC l s).back = c := ⟨_, rfl⟩
  have CW : Hid (∀ W, Later W1 W → Calls Try.prog 11 #[s.val] W fun e w' => e = .returned (.tuple #[.agg #[.int .i64 0, .int .i64 cs, .int .i64 0, .int .i64 ct, .int .i64 cr, .bool cb], .int .i64 (wantsW l s), .bool (wantsB l s)]) ∧ Later W w') := fun W hW => (CW0.out W hW).mono (fun e w' he => ⟨by rw [he.1, ← hcs, ← hct, ← hcr, ← hcb]; rfl, he.2⟩)
  obtain ⟨ticks, ht⟩ : ∃ t, wantsW l s = t := ⟨_, rfl⟩
  obtain ⟨wb, hwb⟩ : ∃ t, wantsB l s = t := ⟨_, rfl⟩
  rw [ht, hwb] at CW
  have C : Hid (∀ W, Later W1 W → Calls Try.prog 18 #[s.val, .int .i64 ct, .int .i64 cr, .bool cb, .bool false] W (Told (reportF l s (wantsC l s).step (wantsC l s).tr (wantsC l s).back false) (isIt l s (wantsC l s).step (wantsC l s).tr (wantsC l s).back) l W)) := fun W hW => by
    have hh := report_any (step := (wantsC l s).step) (tr := (wantsC l s).tr) (back := (wantsC l s).back) (good := false) (StepsAt.kept h (Kept.of_below (L1.out.trans hW) _)) hl6 hw h1
    rwa [hct, hcr, hcb] at hh ⊢
  obtain ⟨s2, hs2⟩ : ∃ x, reportF l s (wantsC l s).step (wantsC l s).tr (wantsC l s).back false = x := ⟨_, rfl⟩
  obtain ⟨Q, hQ⟩ : ∃ x, isIt l s (wantsC l s).step (wantsC l s).tr (wantsC l s).back = x := ⟨_, rfl⟩
  rw [hs2, hQ] at C ⊢
  have HW1 := hide hW1.symm
  have HG := hide hg.symm
  have xe := X1.out
  rw [hW1, hg] at xe
  have XE := hide xe
  clear hW1 hg h hl6 hw h1 ht hwb xe CW0 hcs hct hcr hcb hs2 hQ
  go_enter Try.func16, Try.ntmps16
  go_wp2_with (refine wpList_load_saga (by rfl) _ (by rfl) (by rfl) XE.out ?_; simp only [HW1.out, HG.out])
  refine (CW.out _ (Later.refl _)).mono ?_
  rintro e w2 ⟨rfl, hl⟩
  have L12 := hide hl
  have L2 := hide (L1.out.trans hl)
  have X2 := hide (X1.out.below hl)
  have Y2 := hide (Y1.out.below hl)
  have V2 := hide (V1.out.below hl)
  clear hl CW
  obtain ⟨w3, hw3⟩ : ∃ w3, w3 = w2.alloc (.cells #[.int .i64 0, .int .i64 cs, .int .i64 0, .int .i64 ct, .int .i64 cr, .bool cb] 38 (0, 0)) := ⟨_, rfl⟩
  obtain ⟨y, hy⟩ : ∃ y, y = w2.heap.size := ⟨_, rfl⟩
  have B3 : Hid (CBox y ⟨cs, ct, cr, cb⟩ w3) := by rw [hw3, hy]; exact heap_alloc_new w2 _
  have L23 : Hid (Later w2 w3) := by rw [hw3]; exact (Below.refl _ _).alloc (Nat.le_refl _) _
  have L13 := hide (L12.out.trans L23.out)
  have L3 := hide (L2.out.trans L23.out)
  have X3 := hide (X2.out.below L23.out)
  have Y3 := hide (Y2.out.below L23.out)
  have V3 := hide (V2.out.below L23.out)
  obtain ⟨k0, k1, k2, k3, k4, k5, kf⟩ := B3.out.cells
  obtain ⟨e0, e1, e2, e3, e4⟩ := V3.out.cells
  have z0 := e0
  rw [hw3] at z0
  have x3 := X3.out
  rw [hw3] at x3
  have XR := hide x3
  have HW3 := hide hw3.symm
  have HY := hide hy.symm
  clear k0 k1 k2 kf hw3 hy x3
  rw [hk] at z0 e0
  clear hk
  go_wp2_with (refine wpList_load_saga (by rfl) _ (by rfl) (by rfl) XR.out ?_; simp only [HW3.out, HY.out])
  refine (C.out _ L13.out).mono ?_
  rintro e w4 ⟨P, N, K, rfl, hs, hl⟩
  have HLT := hide (Y3.out.lt)
  have HSZ := hide (Below.size L3.out)
  have HS9 := hide hs
  have L4 := hide (L3.out.trans hl)
  have Y4 := hide (Y3.out.below hl)
  clear hl hs
  clear e0 e1 e2 e3 e4 z0 k3 k4 k5
  go_wp2_with (refine wpList_store_saga (by rfl) _ _ (by rfl) (by rfl) Y4.out (by rfl) ?_; intro w5 Z5 G5)
  have S9 : Hid (StepsAt (w.heap.size ≤ ·) w5 (.slice P N K) _) := FlatAt.mono (own_kept HS9.out HLT.out G5) (fun i _ hf => Nat.le_trans HSZ.out hf)
  have HLF : Hid (Later w w5) := L4.out.grown G5 (Below.size L4.out) (fun k hk => by have := Option.some.inj hk; have := HG0.out; omega)
  refine bodyPost_ret (results_box2 Try.results16 _ _ (g + 1 + 1) 27 _ _ (by rfl) Z5 Try.underlying27 (by rfl) (by kernel_rfl) (.bool Q) (by rfl)) (by rfl) ?_
  exact ⟨P, N, K, rfl, S9.out, HLF.out⟩

set_option maxHeartbeats 4000000 in
theorem hap5 {F : Nat → Prop} {s : SagaD} {l : List StepD} {ev : EvD} (h : StepsAt F w s.v l) (hl6 : l.length ≤ 1000000) (hw : ∀ x ∈ l, x.wf) (h1 : I64 s.step) (n0 : ev.kind ≠ 0) (n1 : ev.kind ≠ 1) (n2 : ev.kind ≠ 2) (n3 : ev.kind ≠ 3) (n4 : ev.kind ≠ 4) : Calls Try.prog 16 #[s.val, ev.val] w (Told (lapseF l s (wantsC l s).step (wantsC l s).tr (wantsC l s).back) (isIt l s (wantsC l s).step (wantsC l s).tr (wantsC l s).back) l w) := by
  obtain ⟨W1, hW1⟩ : ∃ W1, W1 = ((w.alloc (.cells s.cells.toArray 27 (0, 0))).alloc (.cells ev.cells.toArray 47 (0, 0))).alloc (.cells #[.string ⟨#[]⟩, .slice none 0 0, .int .i64 0, .int .i64 0, .int .i64 0, .bool false, .bool false, .bool false, .bool false, .bool false, .bool false, .bool false, .bool false] 27 (0, 0)) := ⟨_, rfl⟩
  obtain ⟨g, hg⟩ : ∃ g, g = w.heap.size := ⟨_, rfl⟩
  have X1 : Hid (SBox 27 g s W1) := by rw [hW1, hg]; exact (heap_alloc_old _ _ (by simp <;> omega)).trans ((heap_alloc_old _ _ (by simp <;> omega)).trans (heap_alloc_new _ _))
  have V1 : Hid (EvBox (g + 1) ev W1) := by rw [hW1, hg]; exact (heap_alloc_old _ _ (by simp <;> omega)).trans (heap_second _ _ _)
  have Y1 : Hid (SBox 27 (g + 1 + 1) SagaD.zero W1) := by
    rw [hW1, hg]
    have hh := heap_second (w.alloc (.cells s.cells.toArray 27 (0, 0))) (.cells ev.cells.toArray 47 (0, 0)) (.cells #[.string ⟨#[]⟩, .slice none 0 0, .int .i64 0, .int .i64 0, .int .i64 0, .bool false, .bool false, .bool false, .bool false, .bool false, .bool false, .bool false, .bool false] 27 (0, 0))
    rwa [show (w.alloc (.cells s.cells.toArray 27 (0, 0))).heap.size = w.heap.size + 1 from by simp] at hh
  have L1 : Hid (Later w W1) := by rw [hW1]; exact (((Below.refl _ _).alloc (Nat.le_refl _) _).alloc (by simp) _).alloc (by simp <;> omega) _
  have HG0 : Hid (w.heap.size ≤ g) := Nat.le_of_eq hg.symm
  have CW0 : Hid (∀ W, Later W1 W → Calls Try.prog 11 #[s.val] W (Wanted l s W)) := fun W hW => wants_any (StepsAt.kept h (Kept.of_below (L1.out.trans hW) _)) hw h1
  obtain ⟨cs, hcs⟩ : ∃ c, (wantsC l s).stub = c := ⟨_, rfl⟩
  obtain ⟨ct, hct⟩ : ∃ c, (wantsC l s).step = c := ⟨_, rfl⟩
  obtain ⟨cr, hcr⟩ : ∃ c, (wantsC l s).tr = c := ⟨_, rfl⟩
  obtain ⟨cb, hcb⟩ : ∃ c, (wantsC l s).back = c := ⟨_, rfl⟩
  have CW : Hid (∀ W, Later W1 W → Calls Try.prog 11 #[s.val] W fun e w' => e = .returned (.tuple #[.agg #[.int .i64 0, .int .i64 cs, .int .i64 0, .int .i64 ct, .int .i64 cr, .bool cb], .int .i64 (wantsW l s), .bool (wantsB l s)]) ∧ Later W w') := fun W hW => (CW0.out W hW).mono (fun e w' he => ⟨by rw [he.1, ← hcs, ← hct, ← hcr, ← hcb]; rfl, he.2⟩)
  obtain ⟨ticks, ht⟩ : ∃ t, wantsW l s = t := ⟨_, rfl⟩
  obtain ⟨wb, hwb⟩ : ∃ t, wantsB l s = t := ⟨_, rfl⟩
  rw [ht, hwb] at CW
  have C : Hid (∀ W, Later W1 W → Calls Try.prog 28 #[s.val, .int .i64 ct, .int .i64 cr, .bool cb] W (Told (lapseF l s (wantsC l s).step (wantsC l s).tr (wantsC l s).back) (isIt l s (wantsC l s).step (wantsC l s).tr (wantsC l s).back) l W)) := fun W hW => by
    have hh := lapse_any (step := (wantsC l s).step) (tr := (wantsC l s).tr) (back := (wantsC l s).back) (StepsAt.kept h (Kept.of_below (L1.out.trans hW) _)) hl6 hw h1
    rwa [hct, hcr, hcb] at hh ⊢
  obtain ⟨s2, hs2⟩ : ∃ x, lapseF l s (wantsC l s).step (wantsC l s).tr (wantsC l s).back = x := ⟨_, rfl⟩
  obtain ⟨Q, hQ⟩ : ∃ x, isIt l s (wantsC l s).step (wantsC l s).tr (wantsC l s).back = x := ⟨_, rfl⟩
  rw [hs2, hQ] at C ⊢
  have HW1 := hide hW1.symm
  have HG := hide hg.symm
  have xe := X1.out
  rw [hW1, hg] at xe
  have XE := hide xe
  clear hW1 hg h hl6 hw h1 ht hwb xe CW0 hcs hct hcr hcb hs2 hQ
  go_enter Try.func16, Try.ntmps16
  go_wp2_with (refine wpList_load_saga (by rfl) _ (by rfl) (by rfl) XE.out ?_; simp only [HW1.out, HG.out])
  refine (CW.out _ (Later.refl _)).mono ?_
  rintro e w2 ⟨rfl, hl⟩
  have L12 := hide hl
  have L2 := hide (L1.out.trans hl)
  have X2 := hide (X1.out.below hl)
  have Y2 := hide (Y1.out.below hl)
  have V2 := hide (V1.out.below hl)
  clear hl CW
  obtain ⟨w3, hw3⟩ : ∃ w3, w3 = w2.alloc (.cells #[.int .i64 0, .int .i64 cs, .int .i64 0, .int .i64 ct, .int .i64 cr, .bool cb] 38 (0, 0)) := ⟨_, rfl⟩
  obtain ⟨y, hy⟩ : ∃ y, y = w2.heap.size := ⟨_, rfl⟩
  have B3 : Hid (CBox y ⟨cs, ct, cr, cb⟩ w3) := by rw [hw3, hy]; exact heap_alloc_new w2 _
  have L23 : Hid (Later w2 w3) := by rw [hw3]; exact (Below.refl _ _).alloc (Nat.le_refl _) _
  have L13 := hide (L12.out.trans L23.out)
  have L3 := hide (L2.out.trans L23.out)
  have X3 := hide (X2.out.below L23.out)
  have Y3 := hide (Y2.out.below L23.out)
  have V3 := hide (V2.out.below L23.out)
  obtain ⟨k0, k1, k2, k3, k4, k5, kf⟩ := B3.out.cells
  obtain ⟨e0, e1, e2, e3, e4⟩ := V3.out.cells
  have z0 := e0
  rw [hw3] at z0
  have x3 := X3.out
  rw [hw3] at x3
  have XR := hide x3
  have HW3 := hide hw3.symm
  have HY := hide hy.symm
  clear k0 k1 k2 kf hw3 hy x3
  have b0 : (ev.kind == 0) = false := by rw [beq_eq_false_iff_ne]; exact n0
  have b1 : (ev.kind == 1) = false := by rw [beq_eq_false_iff_ne]; exact n1
  have b2 : (ev.kind == 2) = false := by rw [beq_eq_false_iff_ne]; exact n2
  have b3 : (ev.kind == 3) = false := by rw [beq_eq_false_iff_ne]; exact n3
  have b4 : (ev.kind == 4) = false := by rw [beq_eq_false_iff_ne]; exact n4
  clear n0 n1 n2 n3 n4
  go_wp2_with (refine wpList_load_saga (by rfl) _ (by rfl) (by rfl) XR.out ?_; simp only [HW3.out, HY.out])
  refine (C.out _ L13.out).mono ?_
  rintro e w4 ⟨P, N, K, rfl, hs, hl⟩
  have HLT := hide (Y3.out.lt)
  have HSZ := hide (Below.size L3.out)
  have HS9 := hide hs
  have L4 := hide (L3.out.trans hl)
  have Y4 := hide (Y3.out.below hl)
  clear hl hs
  clear e0 e1 e2 e3 e4 z0 k3 k4 k5
  go_wp2_with (refine wpList_store_saga (by rfl) _ _ (by rfl) (by rfl) Y4.out (by rfl) ?_; intro w5 Z5 G5)
  have S9 : Hid (StepsAt (w.heap.size ≤ ·) w5 (.slice P N K) _) := FlatAt.mono (own_kept HS9.out HLT.out G5) (fun i _ hf => Nat.le_trans HSZ.out hf)
  have HLF : Hid (Later w w5) := L4.out.grown G5 (Below.size L4.out) (fun k hk => by have := Option.some.inj hk; have := HG0.out; omega)
  refine bodyPost_ret (results_box2 Try.results16 _ _ (g + 1 + 1) 27 _ _ (by rfl) Z5 Try.underlying27 (by rfl) (by kernel_rfl) (.bool Q) (by rfl)) (by rfl) ?_
  exact ⟨P, N, K, rfl, S9.out, HLF.out⟩

set_option maxHeartbeats 4000000 in
theorem hap2 {F : Nat → Prop} {s : SagaD} {l : List StepD} {ev : EvD} (h : StepsAt F w s.v l) (hl6 : l.length ≤ 1000000) (hw : ∀ x ∈ l, x.wf) (h1 : I64 s.step) (hk : ev.kind = 2) : Calls Try.prog 16 #[s.val, ev.val] w (Told (cancelF l s).1 (decide ((cancelF l s).2 = 0)) (cancelL l s) w) := by
  obtain ⟨W1, hW1⟩ : ∃ W1, W1 = ((w.alloc (.cells s.cells.toArray 27 (0, 0))).alloc (.cells ev.cells.toArray 47 (0, 0))).alloc (.cells #[.string ⟨#[]⟩, .slice none 0 0, .int .i64 0, .int .i64 0, .int .i64 0, .bool false, .bool false, .bool false, .bool false, .bool false, .bool false, .bool false, .bool false] 27 (0, 0)) := ⟨_, rfl⟩
  obtain ⟨g, hg⟩ : ∃ g, g = w.heap.size := ⟨_, rfl⟩
  have X1 : Hid (SBox 27 g s W1) := by rw [hW1, hg]; exact (heap_alloc_old _ _ (by simp <;> omega)).trans ((heap_alloc_old _ _ (by simp <;> omega)).trans (heap_alloc_new _ _))
  have V1 : Hid (EvBox (g + 1) ev W1) := by rw [hW1, hg]; exact (heap_alloc_old _ _ (by simp <;> omega)).trans (heap_second _ _ _)
  have Y1 : Hid (SBox 27 (g + 1 + 1) SagaD.zero W1) := by
    rw [hW1, hg]
    have hh := heap_second (w.alloc (.cells s.cells.toArray 27 (0, 0))) (.cells ev.cells.toArray 47 (0, 0)) (.cells #[.string ⟨#[]⟩, .slice none 0 0, .int .i64 0, .int .i64 0, .int .i64 0, .bool false, .bool false, .bool false, .bool false, .bool false, .bool false, .bool false, .bool false] 27 (0, 0))
    rwa [show (w.alloc (.cells s.cells.toArray 27 (0, 0))).heap.size = w.heap.size + 1 from by simp] at hh
  have L1 : Hid (Later w W1) := by rw [hW1]; exact (((Below.refl _ _).alloc (Nat.le_refl _) _).alloc (by simp) _).alloc (by simp <;> omega) _
  have HG0 : Hid (w.heap.size ≤ g) := Nat.le_of_eq hg.symm
  have CW0 : Hid (∀ W, Later W1 W → Calls Try.prog 11 #[s.val] W (Wanted l s W)) := fun W hW => wants_any (StepsAt.kept h (Kept.of_below (L1.out.trans hW) _)) hw h1
  obtain ⟨cs, hcs⟩ : ∃ c, (wantsC l s).stub = c := ⟨_, rfl⟩
  obtain ⟨ct, hct⟩ : ∃ c, (wantsC l s).step = c := ⟨_, rfl⟩
  obtain ⟨cr, hcr⟩ : ∃ c, (wantsC l s).tr = c := ⟨_, rfl⟩
  obtain ⟨cb, hcb⟩ : ∃ c, (wantsC l s).back = c := ⟨_, rfl⟩
  have CW : Hid (∀ W, Later W1 W → Calls Try.prog 11 #[s.val] W fun e w' => e = .returned (.tuple #[.agg #[.int .i64 0, .int .i64 cs, .int .i64 0, .int .i64 ct, .int .i64 cr, .bool cb], .int .i64 (wantsW l s), .bool (wantsB l s)]) ∧ Later W w') := fun W hW => (CW0.out W hW).mono (fun e w' he => ⟨by rw [he.1, ← hcs, ← hct, ← hcr, ← hcb]; rfl, he.2⟩)
  obtain ⟨ticks, ht⟩ : ∃ t, wantsW l s = t := ⟨_, rfl⟩
  obtain ⟨wb, hwb⟩ : ∃ t, wantsB l s = t := ⟨_, rfl⟩
  rw [ht, hwb] at CW
  have C : Hid (∀ W, Later W1 W → Calls Try.prog 29 #[s.val] W (CTold (cancelF l s).1 (cancelF l s).2 (cancelL l s) W)) := fun W hW => cancel_any (StepsAt.kept h (Kept.of_below (L1.out.trans hW) _)) hl6 hw h1
  obtain ⟨s2, hs2⟩ : ∃ x, (cancelF l s).1 = x := ⟨_, rfl⟩
  obtain ⟨E, hE⟩ : ∃ x, (cancelF l s).2 = x := ⟨_, rfl⟩
  rw [hs2, hE] at C ⊢
  obtain ⟨Q, hQ⟩ : ∃ q, decide (E = 0) = q := ⟨_, rfl⟩
  have HQ : Hid ((E == 0) = Q) := by show _ = _; rw [← hQ]; by_cases h0 : E = 0 <;> simp [h0]
  rw [hQ]
  have HW1 := hide hW1.symm
  have HG := hide hg.symm
  have xe := X1.out
  rw [hW1, hg] at xe
  have XE := hide xe
  clear hW1 hg h hl6 hw h1 ht hwb xe CW0 hcs hct hcr hcb hs2 hE hQ
  go_enter Try.func16, Try.ntmps16
  go_wp2_with (refine wpList_load_saga (by rfl) _ (by rfl) (by rfl) XE.out ?_; simp only [HW1.out, HG.out])
  refine (CW.out _ (Later.refl _)).mono ?_
  rintro e w2 ⟨rfl, hl⟩
  have L12 := hide hl
  have L2 := hide (L1.out.trans hl)
  have X2 := hide (X1.out.below hl)
  have Y2 := hide (Y1.out.below hl)
  have V2 := hide (V1.out.below hl)
  clear hl CW
  obtain ⟨w3, hw3⟩ : ∃ w3, w3 = w2.alloc (.cells #[.int .i64 0, .int .i64 cs, .int .i64 0, .int .i64 ct, .int .i64 cr, .bool cb] 38 (0, 0)) := ⟨_, rfl⟩
  obtain ⟨y, hy⟩ : ∃ y, y = w2.heap.size := ⟨_, rfl⟩
  have B3 : Hid (CBox y ⟨cs, ct, cr, cb⟩ w3) := by rw [hw3, hy]; exact heap_alloc_new w2 _
  have L23 : Hid (Later w2 w3) := by rw [hw3]; exact (Below.refl _ _).alloc (Nat.le_refl _) _
  have L13 := hide (L12.out.trans L23.out)
  have L3 := hide (L2.out.trans L23.out)
  have X3 := hide (X2.out.below L23.out)
  have Y3 := hide (Y2.out.below L23.out)
  have V3 := hide (V2.out.below L23.out)
  obtain ⟨k0, k1, k2, k3, k4, k5, kf⟩ := B3.out.cells
  obtain ⟨e0, e1, e2, e3, e4⟩ := V3.out.cells
  have z0 := e0
  rw [hw3] at z0
  have x3 := X3.out
  rw [hw3] at x3
  have XR := hide x3
  have HW3 := hide hw3.symm
  have HY := hide hy.symm
  clear k0 k1 k2 kf hw3 hy x3
  rw [hk] at z0 e0
  clear hk
  go_wp2_with (refine wpList_load_saga (by rfl) _ (by rfl) (by rfl) XR.out ?_; simp only [HW3.out, HY.out])
  refine (C.out _ L13.out).mono ?_
  rintro e w4 ⟨P, N, K, rfl, hs, hl⟩
  have HLT := hide (Y3.out.lt)
  have HSZ := hide (Below.size L3.out)
  have HS9 := hide hs
  have L4 := hide (L3.out.trans hl)
  have Y4 := hide (Y3.out.below hl)
  have HL34 := hide hl
  clear hl hs e0 e1 e2 e3 e4 z0 k3 k4 k5
  have T0 : Hid (SBox 27 w4.heap.size SagaD.zero (w4.alloc (.cells #[.string ⟨#[]⟩, .slice none 0 0, .int .i64 0, .int .i64 0, .int .i64 0, .bool false, .bool false, .bool false, .bool false, .bool false, .bool false, .bool false, .bool false] 27 (0, 0)))) := heap_alloc_new _ _
  have L4a : Hid (Later w4 (w4.alloc (.cells #[.string ⟨#[]⟩, .slice none 0 0, .int .i64 0, .int .i64 0, .int .i64 0, .bool false, .bool false, .bool false, .bool false, .bool false, .bool false, .bool false, .bool false] 27 (0, 0)))) := (Below.refl _ _).alloc (Nat.le_refl _) _
  go_wp2_with (refine wpList_store_saga (by rfl) _ _ (by rfl) (by rfl) T0.out (by rfl) ?_)
  intro w5 T5 G5
  have Y5 := hide ((Y4.out.below L4a.out).other G5 (fun e => by have := Option.some.inj e; have := Y4.out.lt; omega))
  have L5 : Hid (Later w w5) := (L4.out.trans L4a.out).grown G5 (Below.size (L4.out.trans L4a.out)) (fun k hk => by have := Option.some.inj hk; have := Below.size L4.out; omega)
  have S5 : Hid (StepsAt (w3.heap.size ≤ ·) w5 (.slice P N K) (cancelL l s)) := by
    have h4 : StepsAt (fun i => w3.heap.size ≤ i ∧ i ≠ w4.heap.size) w4 (.slice P N K) (cancelL l s) := FlatAt.mono HS9.out (fun i hi hf => ⟨hf, by omega⟩)
    have h5 := StepsAt.kept (StepsAt.kept h4 (Kept.of_below L4a.out _)) (Kept.of_grown G5 (fun k hk hf => hf.2 (Option.some.inj hk).symm))
    exact FlatAt.mono h5 (fun i _ hf => hf.1)
  have T6 := hide T5
  have hq := HQ.out
  clear T5
  go_wp2_with (first | (refine wpList_load_saga (by rfl) _ (by rfl) (by rfl) T6.out ?_) | (refine wpList_store_saga (by rfl) _ _ (by rfl) (by rfl) Y5.out (by rfl) ?_; intro w6 Z6 G6))
  have S9 : Hid (StepsAt (w.heap.size ≤ ·) w6 (.slice P N K) _) := FlatAt.mono (own_kept S5.out HLT.out G6) (fun i _ hf => Nat.le_trans HSZ.out hf)
  have HLF : Hid (Later w w6) := L5.out.grown G6 (Below.size L5.out) (fun k hk => by have := Option.some.inj hk; have := HG0.out; omega)
  refine bodyPost_ret (results_box2 Try.results16 _ _ (g + 1 + 1) 27 _ _ (by rfl) Z6 Try.underlying27 (by rfl) (by kernel_rfl) (.bool Q) (by rfl)) (by rfl) ?_
  exact ⟨P, N, K, rfl, S9.out, HLF.out⟩

theorem happen_any {F : Nat → Prop} {s : SagaD} {l : List StepD} {ev : EvD} (h : StepsAt F w s.v l) (hl6 : l.length ≤ 1000000) (hw : ∀ x ∈ l, x.wf) (h1 : I64 s.step) : Calls Try.prog 16 #[s.val, ev.val] w (Told (happenF l s ev).1 (happenF l s ev).2 (happenL l s ev) w) := by
  unfold happenF happenL
  by_cases n0 : ev.kind = 0
  · rw [if_pos n0, if_neg (by omega)]; exact hap0 h hl6 hw h1 n0
  · rw [if_neg n0]
    by_cases n1 : ev.kind = 1
    · rw [if_pos n1, if_neg (by omega)]; exact hap1 h hl6 hw h1 n1
    · rw [if_neg n1]
      by_cases n2 : ev.kind = 2
      · rw [if_pos n2, if_pos n2]; exact hap2 h hl6 hw h1 n2
      · rw [if_neg n2, if_neg n2]
        by_cases n3 : ev.kind = 3
        · rw [if_pos n3]; exact hap3 h hl6 hw h1 n3
        · rw [if_neg n3]
          by_cases n4 : ev.kind = 4
          · rw [if_pos n4]; exact hap4 h hl6 hw h1 n4
          · rw [if_neg n4]; exact hap5 h hl6 hw h1 n0 n1 n2 n3 n4
end
end Go.Proofs.Ytodifeoficjamaa
/- What comes of a saga, event by event: what is hit, what is told, and how many commands are left. -/
namespace Go.Proofs.Ytodifeoficjamaa
open Go.RowKit

theorem up_get {m : Nat} {i : Nat} (h : i < 8) : (upH (m : Int)).l[i]? = some (decide (i < m)) := by
  have hc : i = 0 ∨ i = 1 ∨ i = 2 ∨ i = 3 ∨ i = 4 ∨ i = 5 ∨ i = 6 ∨ i = 7 := by omega
  rcases hc with rfl | rfl | rfl | rfl | rfl | rfl | rfl | rfl <;> simp only [upH, Hits.l, List.getElem?_cons_zero, List.getElem?_cons_succ] <;> congr 1 <;> simp only [decide_eq_decide] <;> omega
theorem up_set_on {m : Nat} (h : m < 8) : (upH (m : Int)).set m true = upH ((m : Int) + 1) := by
  have hc : m = 0 ∨ m = 1 ∨ m = 2 ∨ m = 3 ∨ m = 4 ∨ m = 5 ∨ m = 6 ∨ m = 7 := by omega
  rcases hc with rfl | rfl | rfl | rfl | rfl | rfl | rfl | rfl <;> rfl
theorem up_set_same {m : Nat} (h : m < 8) : (upH ((m : Int) + 1)).set m true = upH ((m : Int) + 1) := by
  have hc : m = 0 ∨ m = 1 ∨ m = 2 ∨ m = 3 ∨ m = 4 ∨ m = 5 ∨ m = 6 ∨ m = 7 := by omega
  rcases hc with rfl | rfl | rfl | rfl | rfl | rfl | rfl | rfl <;> rfl
theorem up_set_off {m : Nat} (h : m < 8) : (upH ((m : Int) + 1)).set m false = upH (m : Int) := by
  have hc : m = 0 ∨ m = 1 ∨ m = 2 ∨ m = 3 ∨ m = 4 ∨ m = 5 ∨ m = 6 ∨ m = 7 := by omega
  rcases hc with rfl | rfl | rfl | rfl | rfl | rfl | rfl | rfl <;> rfl

/-- Each step ahead of the pivot has a way back. -/
theorem undo_free : ∀ (l done : List StepD), (firstBad done l).2 = 0 → pivotB done = false → ∀ (i : Nat) (s : StepD), l[i]? = some s → (l.take (i + 1)).any (fun a => a.pivot) = false → s.undo = true
  | [], _, _, _, i, s, hs, _ => by simp at hs
  | x :: r, done, h, hd, i, s, hs, hp => by
    unfold firstBad at h
    split at h
    · rename_i h0
      have hxp : x.pivot = false := by
        rw [List.take_succ_cons, List.any_cons] at hp
        cases hq : x.pivot <;> simp_all
      cases i with
      | zero =>
        obtain rfl : x = s := by simpa using hs
        unfold stepErr at h0
        split at h0
        · cases h0
        · split at h0
          · cases h0
          · split at h0
            · cases h0
            · rename_i hu
              rw [hd, hxp] at hu
              simpa using hu
      | succ i =>
        refine undo_free r (done ++ [x]) h ?_ i s (by simpa using hs) ?_
        · unfold pivotB at hd ⊢
          rw [List.any_append, hd]
          simp [hxp]
        · rw [List.take_succ_cons, List.any_cons] at hp
          cases hq : (r.take (i + 1)).any (fun a => a.pivot) <;> simp_all
    · exact absurd h ‹_›
theorem undo_has : ∀ (l done : List StepD), (firstBad done l).2 = 0 → ∀ (i : Nat) (s : StepD), l[i]? = some s → s.undo = true → pivotB (done ++ l.take (i + 1)) = false
  | [], _, _, i, s, hs, _ => by simp at hs
  | x :: r, done, h, i, s, hs, hu => by
    unfold firstBad at h
    split at h
    · rename_i h0
      cases i with
      | zero =>
        obtain rfl : x = s := by simpa using hs
        unfold stepErr at h0
        split at h0
        · cases h0
        · split at h0
          · cases h0
          · split at h0
            · cases h0
            · rename_i hne
              rw [hu] at hne
              unfold pivotB at hne ⊢
              rw [List.any_append]
              simp at hne ⊢
              exact hne
      | succ i =>
        have := undo_has r (done ++ [x]) h i s (by simpa using hs) hu
        rw [List.take_succ_cons]
        simpa using this
    · exact absurd h ‹_›
theorem check_first {name : ByteArray} {l : List StepD} (h : (checkF name l).2 = 0) : (firstBad [] l).2 = 0 := by
  unfold checkF at h
  split at h
  · cases h
  · exact h
/-- The first m steps can all be undone. -/
def Free (l : List StepD) (m : Nat) : Prop := (l.take m).any (fun a => a.pivot) = false
theorem Free.undo {name : ByteArray} {l : List StepD} (hc : (checkF name l).2 = 0) {m : Nat} (h : Free l m) {i : Nat} {s : StepD} (hi : i < m) (hs : l[i]? = some s) : s.undo = true := by
  refine undo_free l [] (check_first hc) rfl i s hs ?_
  unfold Free at h
  rw [List.any_eq_false] at h ⊢
  intro x hx
  refine h x ?_
  obtain ⟨j, hj, rfl⟩ := List.mem_iff_getElem.1 hx
  have hj2 : j < i + 1 := by rw [List.length_take] at hj; omega
  rw [List.getElem_take]
  have hjl : j < l.length := by rw [List.length_take] at hj; omega
  exact List.mem_iff_getElem.2 ⟨j, by rw [List.length_take]; omega, by rw [List.getElem_take]⟩
theorem free_of_undo {name : ByteArray} {l : List StepD} (hc : (checkF name l).2 = 0) {i : Nat} {s : StepD} (hs : l[i]? = some s) (hu : s.undo = true) : Free l (i + 1) := by
  exact undo_has l [] (check_first hc) i s hs hu
theorem Free.le {l : List StepD} {m k : Nat} (h : Free l m) (hk : k ≤ m) : Free l k := by
  unfold Free at h ⊢
  rw [List.any_eq_false] at h ⊢
  intro x hx
  refine h x ?_
  obtain ⟨j, hj, rfl⟩ := List.mem_iff_getElem.1 hx
  rw [List.length_take] at hj
  rw [List.getElem_take]
  exact List.mem_iff_getElem.2 ⟨j, by rw [List.length_take]; omega, by rw [List.getElem_take]⟩
/-- What is not sealed can be undone. -/
theorem free_of_open {l : List StepD} {m : Nat} (h8 : l.length ≤ 8) (hm : m ≤ l.length) (h : sealedF l (upH (m : Int)).l = false) : Free l m := by
  unfold Free
  cases hq : (l.take m).any (fun a => a.pivot) with
  | false => rfl
  | true =>
    exfalso
    rw [List.any_eq_true] at hq
    obtain ⟨x, hx, hxp⟩ := hq
    obtain ⟨j, hj, rfl⟩ := List.mem_iff_getElem.1 hx
    rw [List.length_take] at hj
    rw [List.getElem_take] at hxp
    have hle : l.findIdx (fun s => s.pivot) ≤ j := by
      rcases Nat.lt_or_ge j (l.findIdx (fun s => s.pivot)) with hlt | hge
      · exact absurd hxp (by simpa using List.not_of_lt_findIdx hlt)
      · exact hge
    have hp : pivotN l = l.findIdx (fun s => s.pivot) + 1 := by unfold pivotN; rw [if_pos (by omega)]
    unfold sealedF at h
    rw [hp] at h
    have hg := up_get (m := m) (i := l.findIdx (fun s => s.pivot)) (by omega)
    rw [show ((l.findIdx (fun s => s.pivot) + 1 : Nat) : Int) = (l.findIdx (fun s => s.pivot) : Int) + 1 from by omega, hit_at hg] at h
    simp at h
    omega
theorem down_up {name : ByteArray} {l : List StepD} (hc : (checkF name l).2 = 0) {m : Nat} (hm : m ≤ l.length) (hf : Free l m) : ∀ (K : Nat), m ≤ K → K ≤ l.length → downN l (upH (m : Int)).l K = m
  | 0, h, _ => by
    obtain rfl : m = 0 := by omega
    rfl
  | K + 1, h, hK => by
    have h8 := (check_good hc).1
    have hg := up_get (m := m) (i := K) (by omega)
    have hl : l[K]? = some l[K] := List.getElem?_eq_getElem (by omega)
    have e : okAt l (upH (m : Int)).l K = decide (K < m) := by
      unfold okAt
      rw [hl, hg]
      by_cases hq : K < m
      · simp [Free.undo hc hf hq hl]
      · simp [hq]
    unfold downN
    rw [e]
    by_cases hq : K < m
    · rw [if_pos (by simpa using hq)]; omega
    · rw [if_neg (by simpa using hq)]
      exact down_up hc hm hf K (by omega) (by omega)
theorem downF_up {name : ByteArray} {l : List StepD} (hc : (checkF name l).2 = 0) {m : Nat} {k : Int} (hm : (m : Int) ≤ k) (hk : k ≤ (l.length : Int)) (hf : Free l m) : downF l (upH (m : Int)).l k = m := by
  unfold downF
  rw [Int.min_eq_left hk]
  exact down_up hc (by omega) hf _ (by omega) (by omega)

/-- How many commands the first k steps take, and those of them that can be undone. -/
def sumT : List StepD → Int
  | [] => 0
  | s :: r => triesF s + sumT r
def sumU : List StepD → Int
  | [] => 0
  | s :: r => (if s.undo then triesF s else 0) + sumU r
theorem sumT_app : ∀ (l : List StepD) (s : StepD), sumT (l ++ [s]) = sumT l + triesF s
  | [], s => by simp [sumT]
  | x :: r, s => by rw [List.cons_append, sumT, sumT, sumT_app r s]; omega
theorem sumU_app : ∀ (l : List StepD) (s : StepD), sumU (l ++ [s]) = sumU l + (if s.undo then triesF s else 0)
  | [], s => by simp [sumU]
  | x :: r, s => by rw [List.cons_append, sumU, sumU, sumU_app r s]; omega
theorem sum_both : ∀ (l : List StepD), sumL triesF l = sumT l + sumU l
  | [] => rfl
  | s :: r => by
    rw [sumL, sumT, sumU, sum_both r]
    split <;> omega
theorem take_next {l : List StepD} {i : Nat} {s : StepD} (h : l[i]? = some s) : l.take (i + 1) = l.take i ++ [s] := by
  obtain ⟨hi, rfl⟩ := List.getElem?_eq_some_iff.1 h
  exact List.take_succ_eq_append_getElem hi
def A (l : List StepD) (k : Nat) : Int := sumT (l.take k)
def U (l : List StepD) (k : Nat) : Int := sumU (l.take k)
theorem A_next {l : List StepD} {i : Nat} {s : StepD} (h : l[i]? = some s) : A l (i + 1) = A l i + triesF s := by unfold A; rw [take_next h, sumT_app]
theorem U_next {l : List StepD} {i : Nat} {s : StepD} (h : l[i]? = some s) : U l (i + 1) = U l i + (if s.undo then triesF s else 0) := by unfold U; rw [take_next h, sumU_app]
theorem A_le {name : ByteArray} {l : List StepD} (hc : (checkF name l).2 = 0) {i : Nat} : ∀ (d : Nat), i + d ≤ l.length → A l i ≤ A l (i + d)
  | 0, _ => Int.le_refl _
  | d + 1, h => by
    have hl : l[i + d]? = some l[i + d] := List.getElem?_eq_getElem (by omega)
    have h1 := A_le hc (i := i) d (by omega)
    have h2 := A_next hl
    have h3 := tries_range ((check_good hc).2.2.2 _ (List.getElem_mem (show i + d < l.length by omega)))
    rw [show i + (d + 1) = i + d + 1 from rfl]
    omega
theorem U_le {name : ByteArray} {l : List StepD} (hc : (checkF name l).2 = 0) {i : Nat} : ∀ (d : Nat), i + d ≤ l.length → U l i ≤ U l (i + d)
  | 0, _ => Int.le_refl _
  | d + 1, h => by
    have hl : l[i + d]? = some l[i + d] := List.getElem?_eq_getElem (by omega)
    have h1 := U_le hc (i := i) d (by omega)
    have h2 := U_next hl
    have h3 := tries_range ((check_good hc).2.2.2 _ (List.getElem_mem (show i + d < l.length by omega)))
    rw [show i + (d + 1) = i + d + 1 from rfl]
    split at h2 <;> omega

/-- A saga that is running at step q + 1. -/
structure Runs (l : List StepD) (s : SagaD) (q : Nat) : Prop where
  st : s.st = 1
  step : s.step = (q : Int) + 1
  lt : q < l.length
  lo : 1 ≤ s.tr
  hi : s.tr ≤ triesN l s.step
  hit : s.hit = upH (q : Int) ∨ s.hit = upH ((q : Int) + 1)
/-- One on its way back, at step q + 1. -/
structure Backs (l : List StepD) (s : SagaD) (q : Nat) : Prop where
  st : s.st = 2
  step : s.step = (q : Int) + 1
  lt : q < l.length
  lo : 1 ≤ s.tr
  hi : s.tr ≤ triesN l s.step
  hit : s.hit = upH ((q : Int) + 1)
  free : Free l (q + 1)
section
variable {l : List StepD} {s : SagaD} {q : Nat}
theorem Runs.wants (hc : (checkF s.name l).2 = 0) (h : Runs l s q) : wantsB l s = true := by
  unfold wantsB goodF cameF
  rw [if_neg (by rw [hc]; decide), if_pos h.st, h.st, decide_eq_true h.lo, decide_eq_true h.hi, h.step, show (q : Int) + 1 - 1 = (q : Int) from by omega]
  rcases h.hit with e | e <;> simp [e]
theorem Backs.wants (hc : (checkF s.name l).2 = 0) (h : Backs l s q) : wantsB l s = true := by
  have hl : l[q]? = some (l[q]'h.lt) := List.getElem?_eq_getElem h.lt
  have hu := Free.undo hc h.free (Nat.lt_succ_self q) hl
  unfold wantsB goodF undoAt
  rw [if_neg (by rw [hc]; decide), if_neg (by rw [h.st]; decide), if_pos h.st, h.st, decide_eq_true h.lo, decide_eq_true h.hi, h.step, h.hit, show ((q : Int) + 1 - 1).toNat = q from by omega, hl]
  simp [hu]
theorem done_wants (h1 : s.st ≠ 1) (h2 : s.st ≠ 2) : wantsB l s = false := by unfold wantsB; simp [h1, h2]
theorem tries_one (hc : (checkF s.name l).2 = 0) {k : Nat} (hk : k < l.length) : 1 ≤ triesN l ((k : Int) + 1) := by
  have hl : l[k]? = some l[k] := List.getElem?_eq_getElem hk
  rw [triesN_at hl]
  have hg := (check_good hc).2.2.2 _ (List.getElem_mem hk)
  rw [tries_good hg]
  have := good_nums hg
  omega
/-- Where nothing is sealed, a saga of which m steps are hit goes back to step m. -/
theorem down_to (hc : (checkF s.name l).2 = 0) {m : Nat} (hh : s.hit = upH (m : Int)) (hm : (m : Int) ≤ s.step) (hs : s.step ≤ (l.length : Int)) (hf : Free l m) : downS l s = if m = 0 then s.ended 4 0 else s.at_ 2 (m : Int) := by
  unfold downS
  rw [hh, downF_up hc hm hs hf]
theorem back_at (hc : (checkF s.name l).2 = 0) {m : Nat} (hh : s.hit = upH ((m : Int) + 1)) (hm : m < l.length) (hf : Free l (m + 1)) : Backs l (s.at_ 2 ((m : Int) + 1)) m :=
  ⟨rfl, rfl, hm, Int.le_refl 1, tries_one (s := s) hc hm, hh, hf⟩
/-- What comes of a saga, of which m steps are hit, when it fails. -/
theorem fails_case (hc : (checkF s.name l).2 = 0) {m : Nat} (hh : s.hit = upH (m : Int)) (hm : (m : Int) ≤ s.step) (hs : s.step ≤ (l.length : Int)) :
    failsS l s = s.ended 5 s.step ∨ (m = 0 ∧ failsS l s = s.ended 4 0) ∨ (∃ k, m = k + 1 ∧ failsS l s = s.at_ 2 ((k : Int) + 1) ∧ Backs l (s.at_ 2 ((k : Int) + 1)) k) := by
  unfold failsS
  cases hq : sealedS l s with
  | true => exact .inl (by rw [if_pos rfl])
  | false =>
    rw [if_neg (by simp)]
    have hf : Free l m := free_of_open (check_good hc).1 (by omega) (by unfold sealedS at hq; rw [hh] at hq; exact hq)
    rw [down_to hc hh hm hs hf]
    cases m with
    | zero => exact .inr (.inl ⟨rfl, by rw [if_pos rfl]⟩)
    | succ k =>
      rw [if_neg (by omega), show ((k + 1 : Nat) : Int) = (k : Int) + 1 from by omega]
      exact .inr (.inr ⟨k, rfl, rfl, back_at hc (by rw [hh]; rfl) (by omega) hf⟩)
end
end Go.Proofs.Ytodifeoficjamaa
/- What an event makes of a saga that is running or on its way back, and how many commands are left. -/
namespace Go.Proofs.Ytodifeoficjamaa
open Go.RowKit
section
variable {l : List StepD} {s : SagaD} {q : Nat} {ev : EvD}
theorem wants_fields (h : wantsB l s = true) : (wantsC l s).step = s.step ∧ (wantsC l s).tr = s.tr ∧ (wantsC l s).back = decide (s.st = 2) := by
  unfold wantsC
  rw [h]
  exact ⟨rfl, rfl, rfl⟩
theorem is_wanted (h : wantsB l s = true) : isIt l s (wantsC l s).step (wantsC l s).tr (wantsC l s).back = true := by
  obtain ⟨e1, e2, e3⟩ := wants_fields h
  unfold isIt
  rw [h, e1, e2, e3]
  simp
/-- What an event that is about what is wanted makes of a saga. -/
def evE (l : List StepD) (s : SagaD) (k : Int) : SagaD := if k = 3 then reportE l s (decide (s.st = 2)) true else if k = 4 then missedS l s else lapseE l s
theorem hap_it (h : wantsB l s = true) (hk : 3 ≤ ev.kind) : happenF l s ev = (evE l s ev.kind, true) := by
  have hi := is_wanted h
  obtain ⟨e1, e2, e3⟩ := wants_fields h
  unfold happenF evE
  rw [if_neg (by omega), if_neg (by omega), if_neg (by omega)]
  unfold reportF lapseF
  rw [hi, e3]
  split
  · rfl
  · split <;> rfl
theorem hap_off (h : wantsB l s = false) (hk : ev.kind ≠ 2) : happenF l s ev = (s, false) := by
  have hi : ∀ a b c, isIt l s a b c = false := fun a b c => by unfold isIt; rw [h]; rfl
  unfold happenF reportF lapseF
  rw [hi, hi]
  simp [hk]
theorem Runs.withV (h : Runs l s q) (p : Option Addr) (n c : Nat) : Runs l (s.withV p n c) q := ⟨h.st, h.step, h.lt, h.lo, h.hi, h.hit⟩
theorem Backs.withV (h : Backs l s q) (p : Option Addr) (n c : Nat) : Backs l (s.withV p n c) q := ⟨h.st, h.step, h.lt, h.lo, h.hi, h.hit, h.free⟩
/-- A saga that is missed, of which m steps are hit. -/
theorem missed_run (hc : (checkF s.name l).2 = 0) (h : Runs l s q) {m : Nat} (hh : s.hit = upH (m : Int)) (hm : m = q ∨ m = q + 1) :
    (missedS l s).name = s.name ∧ ((Runs l (missedS l s) q ∧ (missedS l s).tr = s.tr + 1) ∨ (missedS l s).st = 5 ∨ (q = 0 ∧ (missedS l s).st = 4) ∨ (∃ k, Backs l (missedS l s) k ∧ (missedS l s).tr = 1 ∧ q ≤ k + 1 ∧ k ≤ q)) := by
  unfold missedS
  by_cases ht : s.tr < triesN l s.step
  · rw [if_pos ht]
    exact ⟨rfl, .inl ⟨⟨h.st, h.step, h.lt, by show 1 ≤ s.tr + 1; have := h.lo; omega, by show s.tr + 1 ≤ triesN l s.step; omega, h.hit⟩, rfl⟩⟩
  · rw [if_neg ht, if_neg (by rw [h.st]; decide)]
    have hlt := h.lt
    rcases fails_case hc hh (by have := h.step; omega) (by have := h.step; omega) with e | ⟨h0, e⟩ | ⟨k, hk, e, hb⟩
    · rw [e]; exact ⟨rfl, .inr (.inl rfl)⟩
    · rw [e]; exact ⟨rfl, .inr (.inr (.inl ⟨by omega, rfl⟩))⟩
    · rw [e]; exact ⟨rfl, .inr (.inr (.inr ⟨k, hb, rfl, by omega, by omega⟩))⟩
theorem missed_back (h : Backs l s q) : (missedS l s).name = s.name ∧ ((Backs l (missedS l s) q ∧ (missedS l s).tr = s.tr + 1) ∨ (missedS l s).st = 5) := by
  unfold missedS
  by_cases ht : s.tr < triesN l s.step
  · rw [if_pos ht]
    exact ⟨rfl, .inl ⟨⟨h.st, h.step, h.lt, by show 1 ≤ s.tr + 1; have := h.lo; omega, by show s.tr + 1 ≤ triesN l s.step; omega, h.hit, h.free⟩, rfl⟩⟩
  · rw [if_neg ht, if_pos h.st]
    exact ⟨rfl, .inr rfl⟩
theorem hitN_step (h : s.step = (q : Int) + 1) (b : Bool) : s.hitN b = ⟨s.name, s.p, s.n, s.c, s.st, s.step, s.tr, s.hit.set q b⟩ := by
  unfold SagaD.hitN
  rw [h, show ((q : Int) + 1 - 1).toNat = q from by omega]
theorem Runs.hitOn (hc : (checkF s.name l).2 = 0) (h : Runs l s q) : (s.hitN true).hit = upH ((q : Int) + 1) := by
  have h8 := (check_good hc).1
  have hlt := h.lt
  rw [hitN_step h.step]
  show s.hit.set q true = _
  rcases h.hit with e | e
  · rw [e]; exact up_set_on (by omega)
  · rw [e]; exact up_set_same (by omega)
theorem Runs.on (hc : (checkF s.name l).2 = 0) (h : Runs l s q) : Runs l (s.hitN true) q := ⟨h.st, h.step, h.lt, h.lo, h.hi, .inr (h.hitOn hc)⟩
theorem Backs.hitOn (hc : (checkF s.name l).2 = 0) (h : Backs l s q) : (s.hitN true).hit = upH ((q : Int) + 1) := by
  have h8 := (check_good hc).1
  have hlt := h.lt
  rw [hitN_step h.step]
  show s.hit.set q true = _
  rw [h.hit]; exact up_set_same (by omega)
theorem Backs.on (hc : (checkF s.name l).2 = 0) (h : Backs l s q) : Backs l (s.hitN true) q := ⟨h.st, h.step, h.lt, h.lo, h.hi, h.hitOn hc, h.free⟩
/-- What an event makes of a saga that is running. -/
def RunOut (l : List StepD) (s : SagaD) (q : Nat) (k : Int) (t : SagaD) : Prop :=
  (k = 3 ∧ q + 1 = l.length ∧ t.st = 3) ∨ (k = 3 ∧ Runs l t (q + 1) ∧ t.tr = 1) ∨ (k ≠ 3 ∧ Runs l t q ∧ t.tr = s.tr + 1) ∨ (k ≠ 3 ∧ t.st = 5) ∨ (k ≠ 3 ∧ q = 0 ∧ t.st = 4) ∨ (k ≠ 3 ∧ ∃ j, Backs l t j ∧ t.tr = 1 ∧ q ≤ j + 1 ∧ j ≤ q)
theorem run_ev (hc : (checkF s.name l).2 = 0) (h : Runs l s q) (k : Int) : (evE l s k).name = s.name ∧ RunOut l s q k (evE l s k) := by
  unfold evE
  have hst := h.st
  by_cases h3 : k = 3
  · rw [if_pos h3]
    unfold reportE
    rw [show decide (s.st = 2) = false from by rw [hst]; rfl]
    simp only [if_pos, Bool.false_eq_true, if_false]
    unfold nextS
    have hs : (s.hitN true).step = (q : Int) + 1 := h.step
    rw [hs]
    by_cases hn : (q : Int) + 1 = (l.length : Int)
    · rw [if_pos hn]
      exact ⟨rfl, .inl ⟨h3, by omega, rfl⟩⟩
    · rw [if_neg hn]
      have hlt := h.lt
      refine ⟨rfl, .inr (.inl ⟨h3, ⟨rfl, rfl, by omega, Int.le_refl 1, tries_one (s := s) hc (k := q + 1) (by omega), .inl ?_⟩, rfl⟩)⟩
      exact h.hitOn hc
  · rw [if_neg h3]
    by_cases h4 : k = 4
    · rw [if_pos h4]
      have hm : ∃ m : Nat, s.hit = upH (m : Int) ∧ (m = q ∨ m = q + 1) := by
        rcases h.hit with e | e
        · exact ⟨q, e, .inl rfl⟩
        · exact ⟨q + 1, by rw [e]; rfl, .inr rfl⟩
      obtain ⟨m, hh, hm⟩ := hm
      obtain ⟨e1, e2 | e2 | e2 | e2⟩ := missed_run hc h hh hm
      · exact ⟨e1, .inr (.inr (.inl ⟨h3, e2⟩))⟩
      · exact ⟨e1, .inr (.inr (.inr (.inl ⟨h3, e2⟩)))⟩
      · exact ⟨e1, .inr (.inr (.inr (.inr (.inl ⟨h3, e2⟩))))⟩
      · exact ⟨e1, .inr (.inr (.inr (.inr (.inr ⟨h3, e2⟩))))⟩
    · rw [if_neg h4]
      unfold lapseE
      obtain ⟨e1, e2 | e2 | e2 | e2⟩ := missed_run (s := s.hitN true) hc (h.on hc) (m := q + 1) (by rw [h.hitOn hc]; rfl) (.inr rfl)
      · exact ⟨e1, .inr (.inr (.inl ⟨h3, e2⟩))⟩
      · exact ⟨e1, .inr (.inr (.inr (.inl ⟨h3, e2⟩)))⟩
      · exact ⟨e1, .inr (.inr (.inr (.inr (.inl ⟨h3, e2⟩))))⟩
      · exact ⟨e1, .inr (.inr (.inr (.inr (.inr ⟨h3, e2⟩))))⟩
/-- What an event makes of one on its way back. -/
def BackOut (l : List StepD) (s : SagaD) (q : Nat) (k : Int) (t : SagaD) : Prop :=
  (k = 3 ∧ q = 0 ∧ t.st = 4) ∨ (k = 3 ∧ ∃ j, q = j + 1 ∧ Backs l t j ∧ t.tr = 1) ∨ (k ≠ 3 ∧ Backs l t q ∧ t.tr = s.tr + 1) ∨ (k ≠ 3 ∧ t.st = 5)
theorem back_ev (hc : (checkF s.name l).2 = 0) (h : Backs l s q) (k : Int) : (evE l s k).name = s.name ∧ BackOut l s q k (evE l s k) := by
  unfold evE
  have hst := h.st
  have h8 := (check_good hc).1
  have hlt := h.lt
  by_cases h3 : k = 3
  · rw [if_pos h3]
    unfold reportE
    rw [show decide (s.st = 2) = true from by rw [hst]; rfl]
    simp only [if_pos]
    have hh : (s.hitN false).hit = upH (q : Int) := by
      rw [hitN_step h.step]
      show s.hit.set q false = _
      rw [h.hit]
      exact up_set_off (by omega)
    have hs : (s.hitN false).step = (q : Int) + 1 := h.step
    have hd := down_to (s := s.hitN false) hc hh (by rw [hs]; omega) (by rw [hs]; omega) (h.free.le (by omega))
    rw [hd]
    cases q with
    | zero => rw [if_pos rfl]; exact ⟨rfl, .inl ⟨h3, rfl, rfl⟩⟩
    | succ j =>
      rw [if_neg (by omega)]
      refine ⟨rfl, .inr (.inl ⟨h3, j, rfl, ?_, rfl⟩)⟩
      rw [show ((j + 1 : Nat) : Int) = (j : Int) + 1 from by omega]
      exact back_at (s := s.hitN false) hc (by rw [hh]; rfl) (by omega) (h.free.le (by omega))
  · rw [if_neg h3]
    by_cases h4 : k = 4
    · rw [if_pos h4]
      obtain ⟨e1, e2 | e2⟩ := missed_back h
      · exact ⟨e1, .inr (.inr (.inl ⟨h3, e2⟩))⟩
      · exact ⟨e1, .inr (.inr (.inr ⟨h3, e2⟩))⟩
    · rw [if_neg h4]
      unfold lapseE
      obtain ⟨e1, e2 | e2⟩ := missed_back (h.on hc)
      · exact ⟨e1, .inr (.inr (.inl ⟨h3, e2⟩))⟩
      · exact ⟨e1, .inr (.inr (.inr ⟨h3, e2⟩))⟩
/-- Cancelled, while it is running. -/
theorem cancel_run (hc : (checkF s.name l).2 = 0) (h : Runs l s q) : ((cancelF l s).2 = 10 ∧ (cancelF l s).1 = SagaD.zero) ∨ ((cancelF l s).2 = 0 ∧ (cancelF l s).1.name = s.name ∧ ((cancelF l s).1.st = 5 ∨ Backs l (cancelF l s).1 q)) := by
  have hw := wants_parts (h.wants hc)
  unfold cancelF
  rw [if_pos hw.2.2.2.2.2.2.2, if_neg (by rw [h.st]; decide)]
  cases lateB l s with
  | true => exact .inl ⟨rfl, rfl⟩
  | false =>
    have hlt := h.lt
    have hs : (s.hitN true).step = (q : Int) + 1 := h.step
    rw [if_neg (by simp)]
    refine .inr ⟨rfl, ?_⟩
    rcases fails_case (s := s.hitN true) hc (m := q + 1) (by rw [h.hitOn hc]; rfl) (by rw [hs]; omega) (by rw [hs]; omega) with e | ⟨h0, e⟩ | ⟨k, hk, e, hb⟩
    · rw [e]; exact ⟨rfl, .inl rfl⟩
    · omega
    · obtain rfl : q = k := by omega
      rw [e]; exact ⟨rfl, .inr hb⟩
theorem cancel_back (hc : (checkF s.name l).2 = 0) (h : Backs l s q) : cancelF l s = (s, 0) := by
  have hw := wants_parts (h.wants hc)
  unfold cancelF
  rw [if_pos hw.2.2.2.2.2.2.2, if_pos h.st]
theorem cancel_off (h2 : s.st ≠ 2) (h1 : s.st ≠ 1) : ((cancelF l s).2 = 10 ∧ (cancelF l s).1 = SagaD.zero) ∨ ((cancelF l s).2 = 2 ∧ (cancelF l s).1 = s) := by
  unfold cancelF
  cases goodF l s with
  | false => exact .inr ⟨rfl, rfl⟩
  | true =>
    rw [if_pos rfl, if_neg h2, show lateB l s = true from by unfold lateB; simp [h1]]
    exact .inl ⟨rfl, rfl⟩

theorem downS_step (l : List StepD) (s : SagaD) : 0 ≤ (downS l s).step ∧ (downS l s).step ≤ (l.length : Int) := by
  have := downF_le l s.hit.l s.step
  unfold downS
  split
  · exact ⟨Int.le_refl 0, by show (0 : Int) ≤ _; omega⟩
  · exact ⟨by show (0 : Int) ≤ ((downF l s.hit.l s.step : Nat) : Int); omega, by show ((downF l s.hit.l s.step : Nat) : Int) ≤ _; omega⟩
theorem failsS_step {l : List StepD} {s : SagaD} (h0 : 0 ≤ s.step) (h1 : s.step ≤ 8) (hl : l.length ≤ 8) : 0 ≤ (failsS l s).step ∧ (failsS l s).step ≤ 9 := by
  unfold failsS
  split
  · exact ⟨h0, by show s.step ≤ 9; omega⟩
  · have := downS_step l s; omega
theorem missedS_step {l : List StepD} {s : SagaD} (h0 : 0 ≤ s.step) (h1 : s.step ≤ 8) (hl : l.length ≤ 8) : 0 ≤ (missedS l s).step ∧ (missedS l s).step ≤ 9 := by
  unfold missedS
  split
  · exact ⟨h0, by show s.step ≤ 9; omega⟩
  · split
    · exact ⟨h0, by show s.step ≤ 9; omega⟩
    · exact failsS_step h0 h1 hl
theorem ev_step {l : List StepD} {s : SagaD} (k : Int) (h0 : 0 ≤ s.step) (h1 : s.step ≤ 8) (hl : l.length ≤ 8) : 0 ≤ (evE l s k).step ∧ (evE l s k).step ≤ 9 := by
  unfold evE
  split
  · unfold reportE
    split
    · split
      · have := downS_step l (s.hitN false); omega
      · unfold nextS
        split
        · exact ⟨Int.le_refl 0, by show (0 : Int) ≤ 9; omega⟩
        · exact ⟨by show 0 ≤ s.step + 1; omega, by show s.step + 1 ≤ 9; omega⟩
    · exact missedS_step h0 h1 hl
  · split
    · exact missedS_step h0 h1 hl
    · exact missedS_step (s := s.hitN true) h0 h1 hl
theorem cancel_step {l : List StepD} {s : SagaD} (h0 : 0 ≤ s.step) (h1 : s.step ≤ 8) (hl : l.length ≤ 8) : 0 ≤ (cancelF l s).1.step ∧ (cancelF l s).1.step ≤ 9 := by
  unfold cancelF
  split
  · split
    · exact ⟨h0, by show s.step ≤ 9; omega⟩
    · split
      · exact ⟨Int.le_refl 0, by show (0 : Int) ≤ 9; omega⟩
      · exact failsS_step (s := s.hitN true) h0 h1 hl
  · exact ⟨h0, by show s.step ≤ 9; omega⟩

/-- How many commands are left at most. -/
def phi (l : List StepD) (s : SagaD) : Int :=
  if s.st = 1 then A l l.length - A l (s.step - 1).toNat - s.tr + 1 + U l l.length else if s.st = 2 then U l (s.step - 1).toNat + triesN l s.step - s.tr + 1 else 0
theorem Runs.phi (h : Runs l s q) : phi l s = A l l.length - A l q - s.tr + 1 + U l l.length := by
  unfold Proofs.Ytodifeoficjamaa.phi
  rw [if_pos h.st, h.step, show ((q : Int) + 1 - 1).toNat = q from by omega]
theorem Backs.phi (h : Backs l s q) : phi l s = U l q + triesN l ((q : Int) + 1) - s.tr + 1 := by
  unfold Proofs.Ytodifeoficjamaa.phi
  rw [if_neg (by rw [h.st]; decide), if_pos h.st, h.step, show ((q : Int) + 1 - 1).toNat = q from by omega]
theorem phi_off (h1 : s.st ≠ 1) (h2 : s.st ≠ 2) : phi l s = 0 := by unfold phi; rw [if_neg h1, if_neg h2]
theorem U_nn {name : ByteArray} (hc : (checkF name l).2 = 0) {k : Nat} (hk : k ≤ l.length) : 0 ≤ U l k := by
  have := U_le hc (i := 0) k (by omega)
  rw [Nat.zero_add] at this
  exact this
theorem Runs.pos (hc : (checkF s.name l).2 = 0) (h : Runs l s q) : 1 + U l l.length ≤ Proofs.Ytodifeoficjamaa.phi l s := by
  have hl : l[q]? = some (l[q]'h.lt) := List.getElem?_eq_getElem h.lt
  have h1 := A_next hl
  have hlt := h.lt
  have h2 := A_le hc (i := q + 1) (l.length - (q + 1)) (by omega)
  rw [show q + 1 + (l.length - (q + 1)) = l.length from by omega] at h2
  have h3 := h.hi
  rw [h.step, triesN_at hl] at h3
  rw [h.phi]
  omega
theorem Backs.pos (_hc : (checkF s.name l).2 = 0) (h : Backs l s q) : 1 + U l q ≤ Proofs.Ytodifeoficjamaa.phi l s := by
  have h3 := h.hi
  rw [h.step] at h3
  rw [h.phi]
  omega
theorem Backs.top {name : ByteArray} (hc : (checkF name l).2 = 0) (h : Backs l s q) (ht : s.tr = 1) : Proofs.Ytodifeoficjamaa.phi l s = U l (q + 1) := by
  have hl : l[q]? = some (l[q]'h.lt) := List.getElem?_eq_getElem h.lt
  have h1 := U_next hl
  rw [Free.undo hc h.free (Nat.lt_succ_self q) hl, if_pos rfl] at h1
  rw [h.phi, ht, triesN_at hl, h1]
  omega
theorem run_less (hc : (checkF s.name l).2 = 0) (h : Runs l s q) {k : Int} {t : SagaD} (ht : RunOut l s q k t) : Proofs.Ytodifeoficjamaa.phi l t + 1 ≤ Proofs.Ytodifeoficjamaa.phi l s := by
  have h0 := h.pos hc
  have hu := U_nn hc (Nat.le_refl l.length)
  have hlt := h.lt
  rcases ht with ⟨_, _, e⟩ | ⟨_, e, e2⟩ | ⟨_, e, e2⟩ | ⟨_, e⟩ | ⟨_, _, e⟩ | ⟨_, j, e, e2, _, _⟩
  · rw [phi_off (s := t) (by rw [e]; decide) (by rw [e]; decide)]; omega
  · have hl : l[q]? = some (l[q]'h.lt) := List.getElem?_eq_getElem h.lt
    have h1 := A_next hl
    have h3 := h.hi
    rw [h.step, triesN_at hl] at h3
    rw [e.phi, h.phi, e2]
    omega
  · rw [e.phi, h.phi, e2]; omega
  · rw [phi_off (s := t) (by rw [e]; decide) (by rw [e]; decide)]; omega
  · rw [phi_off (s := t) (by rw [e]; decide) (by rw [e]; decide)]; omega
  · have := e.lt
    rw [e.top hc e2]
    have h4 := U_le hc (i := j + 1) (l.length - (j + 1)) (by omega)
    rw [show j + 1 + (l.length - (j + 1)) = l.length from by omega] at h4
    omega
theorem back_less (hc : (checkF s.name l).2 = 0) (h : Backs l s q) {k : Int} {t : SagaD} (ht : BackOut l s q k t) : Proofs.Ytodifeoficjamaa.phi l t + 1 ≤ Proofs.Ytodifeoficjamaa.phi l s := by
  have h0 := h.pos hc
  have hlt := h.lt
  have hu := U_nn hc (k := q) (by omega)
  rcases ht with ⟨_, _, e⟩ | ⟨_, j, hj, e, e2⟩ | ⟨_, e, e2⟩ | ⟨_, e⟩
  · rw [phi_off (s := t) (by rw [e]; decide) (by rw [e]; decide)]; omega
  · rw [e.top hc e2, ← hj]; omega
  · rw [e.phi, h.phi, e2]; omega
  · rw [phi_off (s := t) (by rw [e]; decide) (by rw [e]; decide)]; omega
theorem begin_runs {name : ByteArray} (hc : (checkF name l).2 = 0) (p : Option Addr) (n c : Nat) : Runs l ⟨name, p, n, c, 1, 1, 1, upH 0⟩ 0 :=
  ⟨rfl, rfl, (check_good hc).2.1, Int.le_refl 1, tries_one (s := ⟨name, p, n, c, 1, 1, 1, upH 0⟩) hc (k := 0) (check_good hc).2.1, .inl rfl⟩
theorem begin_phi {name : ByteArray} (hc : (checkF name l).2 = 0) (p : Option Addr) (n c : Nat) : Proofs.Ytodifeoficjamaa.phi l ⟨name, p, n, c, 1, 1, 1, upH 0⟩ = sumF triesF name l := by
  rw [(begin_runs hc p n c).phi]
  unfold sumF
  rw [if_pos hc, sum_both]
  unfold A U
  rw [List.take_length, List.take_zero]
  show sumT l - 0 - 1 + 1 + sumU l = _
  omega
end
end Go.Proofs.Ytodifeoficjamaa
/- A literal slice of one struct, and append of such a slice to a row, at an operation of a region that draws its order. -/
namespace Go.Proofs.Ytodifeoficjamaa
open Go.RowKit

section
variable {P : Program} {w : World} {op : Oper} {a : Act} {K : Act → World → Prop} {Q : Exit → Act → World → Prop}
theorem wp_buildSlice_one (t e : TypeId) (x : Operand) (ho : op.op = .buildSlice t 1 #[(0, x)]) (i : TypeInfo) (z : Value) (k : Nat) (ht : P.underlying t = some (.slice e)) (hi : P.info? e = some i) (hz : i.zero = some z) (hs : i.size = k) (hk : 0 < k) (hk2 : k ≤ 16777216)
    (cells : Array Value) (hx : a.eval x = .agg cells) (hc : cells.size = k)
    (h : K (a.put op.dst (.slice (some ⟨w.heap.size, 0, none⟩) 1 1)) (w.alloc (.cells cells e (0, 0)))) : op.wp P a w K Q := by
  have hr := run_buildSlice_one (P := P) (w := w) t e i z k ht hi hz hs hk hk2 cells hc
  unfold Oper.wp
  simp [execOp, ho, hx, hr, Result.andThen]
  exact h
/-- A literal slice of one struct is a slice of it, in a new block. -/
theorem flat_one (w : World) (e k : Nat) (cells : Array Value) (hc : cells.size = k) (h1 : ∀ u ∈ cells.toList, u.oneCell' = true) (F : Nat → Prop) (hF : F w.heap.size) :
    FlatAt F (w.alloc (.cells cells e (0, 0))) k (.slice (some ⟨w.heap.size, 0, none⟩) 1 1) 1 cells.toList := by
  have hb : (w.alloc (.cells cells e (0, 0))).heap[w.heap.size]? = some (.cells cells e (0, 0)) := heap_alloc_new _ _
  refine ⟨by simp [hc], h1, some ⟨w.heap.size, 0, none⟩, 1, rfl, Nat.le_refl _, by unfold maxLen; omega, (fun h => by cases h), fun _ => ⟨w.heap.size, 0, rfl, hF, lt_of_block hb, fun j u hj => ?_⟩⟩
  rw [cell_of_row _ _ _ _ _ _ hb, Nat.zero_add]
  simpa using hj
theorem wp_append_flat (s x : Operand) (t : TypeId)
    (ho : op.op = .call { callee := .builtin .append, args := #[s, x], argTypes := #[t, t] })
    (base : Nat) (e : TypeId) (i : TypeInfo) (z : Value) (k bytes : Nat) (ht : P.underlying t = some (.slice e)) (hi : P.info? e = some i) (hz : i.zero = some z)
    (hsize : i.size = k) (hby : i.bytes = bytes) (hzs : z.cells.size = k) (hk : 0 < k)
    (v : Value) (n : Nat) (xs : List Value) (hs : a.eval s = v) (hown : w.ownsRow base e k v n xs)
    (g c m : Nat) (ys : List Value) (hx : a.eval x = .slice (some ⟨g, 0, none⟩) m c) (F : Nat → Prop) (hl : FlatAt F w k (.slice (some ⟨g, 0, none⟩) m c) m ys) (hm : 0 < m) (hroom : n + m ≤ maxLen) (hbytes : (n + m) * bytes ≤ 140737488355328) (hbase : base ≤ w.heap.size)
    (h : ∀ v' w', w'.ownsRow base e k v' (n + m) (xs ++ ys) → w.grownBy w' v.ownBlock → (v'.ownBlock = v.ownBlock ∨ v'.ownBlock = some w.heap.size) → K (a.put op.dst v') w') : op.wp P a w K Q := by
  obtain ⟨hlen, h1, A', c', hv, h3, h4, h5, h6⟩ := hl
  obtain ⟨rfl, rfl⟩ : some ⟨g, 0, none⟩ = A' ∧ c = c' := by injection hv with e1 _ e3; exact ⟨e1, e3⟩
  obtain ⟨v', w', hr, h2, h3, _, h5⟩ := run_append_own_at (P := P) w base t op.type e i z k bytes ht hi hz hsize hby hzs hk v n xs hown ⟨g, 0, none⟩ m c ys hlen
      (fun j u hu => by
        obtain ⟨b, off, h, _, _, hr⟩ := h6 hm
        injection h with h
        injection h with e1 e2
        subst e1 e2
        rw [Addr.add_lit]
        exact hr j u hu) h1 hroom hbytes hbase
  unfold Oper.wp execOp
  simp only [ho, resolve, invoke, builtin, Sem.run_bind, Sem.run_pure, Result.andThen_ok, List.map_toArray, List.map_cons, List.map_nil, hs, hx, hr]
  exact h v' w' h2 h3 h5
end
end Go.Proofs.Ytodifeoficjamaa
/- The document's example. -/
namespace Go.Proofs.Ytodifeoficjamaa
open Go.RowKit
def hold : StepD := ⟨⟨#[104, 111, 108, 100]⟩, 1, 0, 5, true, false⟩
def ship : StepD := ⟨⟨#[115, 104, 105, 112]⟩, 2, 0, 5, false, true⟩
abbrev l2 : List StepD := [hold, ship]
abbrev nmA : ByteArray := ⟨#[97]⟩
theorem l2_ok : (checkF nmA l2).2 = 0 := by decide +kernel
theorem l2_wf : ∀ x ∈ l2, x.wf := by simp [hold, ship, StepD.wf, I64]; decide
theorem rep1 (p : Option Addr) (n c : Nat) : reportF l2 ⟨nmA, p, n, c, 1, 1, 1, upH 0⟩ 1 1 false true = ⟨nmA, p, n, c, 1, 2, 1, upH 1⟩ ∧ isIt l2 ⟨nmA, p, n, c, 1, 1, 1, upH 0⟩ 1 1 false = true := ⟨by kernel_rfl, by kernel_rfl⟩
theorem rep2 (p : Option Addr) (n c : Nat) : reportF l2 ⟨nmA, p, n, c, 1, 2, 1, upH 1⟩ 2 1 false false = ⟨nmA, p, n, c, 2, 1, 1, upH 1⟩ ∧ isIt l2 ⟨nmA, p, n, c, 1, 2, 1, upH 1⟩ 2 1 false = true := ⟨by kernel_rfl, by kernel_rfl⟩
theorem rep3 (p : Option Addr) (n c : Nat) : reportF l2 ⟨nmA, p, n, c, 2, 1, 1, upH 1⟩ 1 1 true true = ⟨nmA, p, n, c, 4, 0, 0, upH 0⟩ ∧ isIt l2 ⟨nmA, p, n, c, 2, 1, 1, upH 1⟩ 1 1 true = true := ⟨by kernel_rfl, by kernel_rfl⟩
theorem two_steps (w : World) (F : Nat → Prop) (hF : F w.heap.size) : StepsAt F (w.alloc (.cells (hold.cells.toArray ++ ship.cells.toArray) 56 (0, 0))) (.slice (some ⟨w.heap.size, 0, none⟩) 2 2) l2 := by
  have hb : (w.alloc (.cells (hold.cells.toArray ++ ship.cells.toArray) 56 (0, 0))).heap[w.heap.size]? = some (.cells (hold.cells.toArray ++ ship.cells.toArray) 56 (0, 0)) := heap_alloc_new _ _
  refine ⟨by rfl, cells_one l2, some ⟨w.heap.size, 0, none⟩, 2, rfl, Nat.le_refl _, by unfold maxLen; omega, (fun h => by cases h), fun _ => ⟨w.heap.size, 0, rfl, hF, lt_of_block hb, fun j u hj => ?_⟩⟩
  rw [cell_of_row _ _ _ _ _ _ hb, Nat.zero_add]
  simpa [hold, ship, StepD.cells] using hj
section
variable {w : World}
set_option maxRecDepth 100000 in
set_option maxHeartbeats 8000000 in
theorem lives_any : Calls Try.prog 8 #[] w fun e w' => e = .returned (.bool true) ∧ Later w w' := by
  obtain ⟨i0, hi, hz0, hz1, _⟩ := info_parts (show (Try.prog.info? 56).map (fun i => (i.zero, i.size, i.bytes)) = some (some (.agg #[.string ⟨#[]⟩, .int .i64 0, .int .i64 0, .int .i64 0, .bool false, .bool false]), 6, 48) from by kernel_rfl)
  obtain ⟨W1, hW1⟩ : ∃ W1, W1 = w.alloc (.cells (hold.cells.toArray ++ ship.cells.toArray) 56 (0, 0)) := ⟨_, rfl⟩
  have L1 : Later w W1 := by rw [hW1]; exact (Below.refl _ _).alloc (Nat.le_refl _) _
  have F1 : StepsAt (fun _ => True) W1 (.slice (some ⟨w.heap.size, 0, none⟩) 2 2) l2 := by rw [hW1]; exact two_steps w _ trivial
  obtain ⟨W2, hW2⟩ : ∃ W2, W2 = W1.alloc (.cells #[.string nmA, .slice (some ⟨w.heap.size, 0, none⟩) 2 2] 24 (0, 0)) := ⟨_, rfl⟩
  obtain ⟨y, hy⟩ : ∃ y, y = W1.heap.size := ⟨_, rfl⟩
  have B2 : Hid (DefBox y nmA (.slice (some ⟨w.heap.size, 0, none⟩) 2 2) W2) := by rw [hW2, hy]; exact heap_alloc_new W1 _
  have L2 : Hid (Later w W2) := by rw [hW2]; exact L1.alloc (Below.size L1) _
  have F2 : StepsAt (fun _ => True) W2 (.slice (some ⟨w.heap.size, 0, none⟩) 2 2) l2 := F1.kept (Kept.of_below (by rw [hW2]; exact (Below.refl _ _).alloc (Nat.le_refl _) _) _)
  have C0 := hide (begin_ok F2 l2_ok)
  have C1 : Hid (∀ (W : World) (F : Nat → Prop) (p : Option Addr) (n c : Nat), StepsAt F W (.slice p n c) l2 → Calls Try.prog 18 #[(SagaD.mk nmA p n c 1 1 1 (upH 0)).val, .int .i64 1, .int .i64 1, .bool false, .bool true] W (Told ⟨nmA, p, n, c, 1, 2, 1, upH 1⟩ true l2 W)) := fun W F p n c hs => by
    have hh := report_any (s := ⟨nmA, p, n, c, 1, 1, 1, upH 0⟩) (step := 1) (tr := 1) (back := false) (good := true) hs (by decide) l2_wf (by show I64 1; unfold I64; decide)
    rwa [(rep1 p n c).1, (rep1 p n c).2] at hh
  have C2 : Hid (∀ (W : World) (F : Nat → Prop) (p : Option Addr) (n c : Nat), StepsAt F W (.slice p n c) l2 → Calls Try.prog 18 #[(SagaD.mk nmA p n c 1 2 1 (upH 1)).val, .int .i64 2, .int .i64 1, .bool false, .bool false] W (Told ⟨nmA, p, n, c, 2, 1, 1, upH 1⟩ true l2 W)) := fun W F p n c hs => by
    have hh := report_any (s := ⟨nmA, p, n, c, 1, 2, 1, upH 1⟩) (step := 2) (tr := 1) (back := false) (good := false) hs (by decide) l2_wf (by show I64 2; unfold I64; decide)
    rwa [(rep2 p n c).1, (rep2 p n c).2] at hh
  have C3 : Hid (∀ (W : World) (F : Nat → Prop) (p : Option Addr) (n c : Nat), StepsAt F W (.slice p n c) l2 → Calls Try.prog 18 #[(SagaD.mk nmA p n c 2 1 1 (upH 1)).val, .int .i64 1, .int .i64 1, .bool true, .bool true] W (Told ⟨nmA, p, n, c, 4, 0, 0, upH 0⟩ true l2 W)) := fun W F p n c hs => by
    have hh := report_any (s := ⟨nmA, p, n, c, 2, 1, 1, upH 1⟩) (step := 1) (tr := 1) (back := true) (good := true) hs (by decide) l2_wf (by show I64 1; unfold I64; decide)
    rwa [(rep3 p n c).1, (rep3 p n c).2] at hh
  obtain ⟨z, hz⟩ : ∃ z, w.heap.size = z := ⟨_, rfl⟩
  rw [hz] at B2 C0 hW2
  have HI := hide hi
  have HZ0 := hide hz0
  have HZ1 := hide hz1
  have HW1 := hide hW1.symm
  have HW2 := hide hW2.symm
  have HY := hide hy.symm
  have HZ := hide hz
  clear hW1 hW2 hy hz F1 F2 L1 hi hz0 hz1
  go_enter Try.func8, Try.ntmps8
  go_wp2_with (refine wpList_buildSlice_two (by rfl) 22 56 _ _ (by rfl) i0 _ 6 Try.underlying22 HI.out HZ0.out HZ1.out (by omega) (by omega) hold.cells.toArray ship.cells.toArray (by rfl) (by rfl) (by rfl) (by rfl) ?_; rw [HW1.out, HZ.out])
  simp only [HW2.out, HY.out]
  refine C0.out.mono ?_
  rintro e w3 ⟨P, N, K, rfl, hs, hl⟩
  have S3 := hide hs
  have L3 := hide (L2.out.trans hl)
  clear hl hs C0
  have T3 : Hid (SBox 27 w3.heap.size SagaD.zero (w3.alloc (.cells #[.string ⟨#[]⟩, .slice none 0 0, .int .i64 0, .int .i64 0, .int .i64 0, .bool false, .bool false, .bool false, .bool false, .bool false, .bool false, .bool false, .bool false] 27 (0, 0)))) := heap_alloc_new _ _
  have L3a : Hid (Later w3 (w3.alloc (.cells #[.string ⟨#[]⟩, .slice none 0 0, .int .i64 0, .int .i64 0, .int .i64 0, .bool false, .bool false, .bool false, .bool false, .bool false, .bool false, .bool false, .bool false] 27 (0, 0)))) := (Below.refl _ _).alloc (Nat.le_refl _) _
  go_wp2_with (refine wpList_store_saga (s := SagaD.mk nmA P N K 1 1 1 (upH 0)) (by rfl) _ _ (by rfl) (by rfl) T3.out (by rfl) ?_)
  intro w4 hb hg
  have HLo := hide (L3.out.trans L3a.out)
  have L4 : Hid (Later w w4) := HLo.out.grown hg (Below.size HLo.out) (fun k hk => by have := Option.some.inj hk; have := Below.size L3.out; omega)
  have S4 : Hid (StepsAt (fun i => i < w3.heap.size) w4 (.slice P N K) l2) := by
    have h4 : StepsAt (fun i => i < w3.heap.size) w3 (.slice P N K) l2 := FlatAt.mono S3.out (fun i hi _ => hi)
    exact StepsAt.kept (StepsAt.kept h4 (Kept.of_below L3a.out _)) (Kept.of_grown hg (fun k hk hf => by have := Option.some.inj hk; omega))
  have X4 := hide hb
  obtain ⟨b, hbb⟩ : ∃ b, w3.heap.size = b := ⟨_, rfl⟩
  rw [hbb] at X4
  have HBB : Hid (w.heap.size ≤ b) := by rw [← hbb]; exact Below.size L3.out
  rw [hbb]
  clear hb hg S3 T3 HLo hbb
  go_wp2_with (refine wpList_load_saga (by rfl) _ (by rfl) (by rfl) X4.out ?_)
  refine (C1.out _ _ _ _ _ S4.out).mono ?_
  rintro e w5 ⟨P5, N5, K5, rfl, hs, hl⟩
  have HLT5 := hide (SBox.lt X4.out)
  have S5 := hide hs
  have L5 := hide (L4.out.trans hl)
  have X5 := hide (X4.out.below hl)
  clear hl hs
  go_wp2_with (refine wpList_store_saga (s := SagaD.mk nmA P5 N5 K5 1 2 1 (upH 1)) (by rfl) _ _ (by rfl) (by rfl) X5.out (by rfl) ?_)
  intro w6 hb hg
  have X6 := hide hb
  have HB6 := hide (Below.size L4.out)
  have S6 : Hid (StepsAt (w4.heap.size ≤ ·) w6 (.slice P5 N5 K5) l2) := own_kept S5.out HLT5.out hg
  have L6 : Hid (Later w w6) := L5.out.grown hg (Below.size L5.out) (fun k hk => by have := Option.some.inj hk; have := HBB.out; omega)
  clear hb hg
  go_wp2_with (refine wpList_load_saga (by rfl) _ (by rfl) (by rfl) X6.out ?_)
  refine (C2.out _ _ _ _ _ S6.out).mono ?_
  rintro e w7 ⟨P7, N7, K7, rfl, hs, hl⟩
  have HLT7 := hide (SBox.lt X6.out)
  have S7 := hide hs
  have L7 := hide (L6.out.trans hl)
  have X7 := hide (X6.out.below hl)
  clear hl hs
  go_wp2_with (refine wpList_store_saga (s := SagaD.mk nmA P7 N7 K7 2 1 1 (upH 1)) (by rfl) _ _ (by rfl) (by rfl) X7.out (by rfl) ?_)
  intro w8 hb hg
  have X8 := hide hb
  have S8 : Hid (StepsAt (w6.heap.size ≤ ·) w8 (.slice P7 N7 K7) l2) := own_kept S7.out HLT7.out hg
  have L8 : Hid (Later w w8) := L7.out.grown hg (Below.size L7.out) (fun k hk => by have := Option.some.inj hk; have := HBB.out; omega)
  clear hb hg
  go_wp2_with (refine wpList_load_saga (by rfl) _ (by rfl) (by rfl) X8.out ?_)
  refine (C3.out _ _ _ _ _ S8.out).mono ?_
  rintro e w9 ⟨P9, N9, K9, rfl, hs, hl⟩
  have HLT9 := hide (SBox.lt X8.out)
  have S9 := hide hs
  have L9 := hide (L8.out.trans hl)
  have X9 := hide (X8.out.below hl)
  clear hl hs
  have T9 : Hid (SBox 27 w9.heap.size SagaD.zero (w9.alloc (.cells #[.string ⟨#[]⟩, .slice none 0 0, .int .i64 0, .int .i64 0, .int .i64 0, .bool false, .bool false, .bool false, .bool false, .bool false, .bool false, .bool false, .bool false] 27 (0, 0)))) := heap_alloc_new _ _
  have L9a : Hid (Later w9 (w9.alloc (.cells #[.string ⟨#[]⟩, .slice none 0 0, .int .i64 0, .int .i64 0, .int .i64 0, .bool false, .bool false, .bool false, .bool false, .bool false, .bool false, .bool false, .bool false] 27 (0, 0)))) := (Below.refl _ _).alloc (Nat.le_refl _) _
  go_wp2_with (refine wpList_store_saga (s := SagaD.mk nmA P9 N9 K9 4 0 0 (upH 0)) (by rfl) _ _ (by rfl) (by rfl) T9.out (by rfl) ?_)
  intro w10 hb hg
  have HLo := hide (L9.out.trans L9a.out)
  have L10 : Hid (Later w w10) := HLo.out.grown hg (Below.size HLo.out) (fun k hk => by have := Option.some.inj hk; have := Below.size L9.out; omega)
  have X10 : Hid (SBox 27 b ⟨nmA, P7, N7, K7, 2, 1, 1, upH 1⟩ w10) := (X9.out.below L9a.out).other hg (fun e => by have := Option.some.inj e; have := SBox.lt X9.out; omega)
  have Z10 := hide hb
  obtain ⟨b2, hb2⟩ : ∃ b, w9.heap.size = b := ⟨_, rfl⟩
  rw [hb2] at Z10
  rw [hb2]
  have c2 := X10.out.c2
  have c3 := X10.out.c3
  have d2 := Z10.out.c2
  clear hb hg hb2
  go_wp2
  go_ret
  exact ⟨rfl, L10.out⟩
end
end Go.Proofs.Ytodifeoficjamaa
/- Definitions that are too long to be looked at. -/
namespace Go.Proofs.Ytodifeoficjamaa
open Go.RowKit

def longF (name : ByteArray) (l : List StepD) : Bool := decide (400 < name.size) || (decide (40 < l.length) || l.any fun s => decide (400 < s.name.size))
section
variable {w : World}
set_option maxHeartbeats 4000000 in
theorem long_any {F : Nat → Prop} {a : ByteArray} {v : Value} {l : List StepD} (hl : StepsAt F w v l) (hb : l.length ≤ 9223372036854775807) :
    Calls Try.prog 6 #[.agg #[.string a, v]] w fun e w' => e = .returned (.bool (longF a l)) ∧ Later w w' := by
  obtain ⟨A, c, rfl, h1, h2, _⟩ := FlatAt.shape hl
  obtain ⟨n, hn⟩ : ∃ n, l.length = n := ⟨_, rfl⟩
  rw [hn] at h1 hl hb ⊢
  obtain ⟨W1, hW1⟩ : ∃ W1, W1 = w.alloc (.cells #[.string a, .slice A n c] 24 (0, 0)) := ⟨_, rfl⟩
  have L1 : Hid (Later w W1) := by rw [hW1]; exact (Below.refl _ _).alloc (Nat.le_refl _) _
  have H := hide hl
  have HN := hide hn
  have HW1 := hide hW1.symm
  obtain ⟨Q, hQ⟩ : ∃ Q, longF a l = Q := ⟨_, rfl⟩
  rw [hQ]
  have HQ := hide hQ
  clear hl hn hW1 hQ h2
  by_cases ha : 400 < a.size
  · have hq : Q = true := by rw [← HQ.out]; unfold longF; simp [ha]
    subst hq
    have ha' : (400 : Int) < (a.size : Int) := by omega
    go_enter Try.func6, Try.ntmps6
    go_wp2
    rw [HW1.out]
    go_ret
    exact ⟨rfl, L1.out⟩
  · have ha' : ¬ (400 : Int) < (a.size : Int) := by omega
    by_cases hn4 : 40 < n
    · have hq : Q = true := by rw [← HQ.out]; unfold longF; rw [HN.out]; simp [hn4]
      subst hq
      have hn' : (40 : Int) < (n : Int) := by omega
      go_enter Try.func6, Try.ntmps6
      go_wp2
      rw [HW1.out]
      go_ret
      exact ⟨rfl, L1.out⟩
    · have hn' : ¬ (40 : Int) < (n : Int) := by omega
      have hq : Q = l.any fun s => decide (400 < s.name.size) := by rw [← HQ.out]; unfold longF; rw [HN.out]; simp [ha, hn4]
      have HQ2 := hide hq
      clear hq HQ
      go_enter Try.func6, Try.ntmps6
      go_wp2_with (fail)
      rw [HW1.out]
      go_loopw [18] (fun v wr => ∃ i : Nat, v = .int .i64 (i : Int) ∧ i ≤ n ∧ (l.take i).any (fun s => decide (400 < s.name.size)) = false ∧ Later W1 wr) (fun v _ => n - (intOf v).toNat)
      case atStart => exact ⟨0, rfl, by omega, by simp, Later.refl _⟩
      case round =>
        obtain ⟨i, rfl, hi, hall, hlat⟩ := hrel
        have HA := hide hall
        have HL := hide hlat
        clear hall hlat
        by_cases hlt : i < n
        · obtain ⟨s, b, off, c', hs', hvv, _, _, _, hr⟩ := StepsAt.at_ (StepsAt.kept H.out (Kept.of_below (L1.out.trans HL.out) F)) (i := i) (by rw [HN.out]; exact hlt)
          rw [HN.out] at hvv
          obtain ⟨rfl, rfl⟩ : A = some ⟨b, off, none⟩ ∧ c = c' := by injection hvv with e1 _ e3; exact ⟨e1, e3⟩
          obtain ⟨r0, r1, r2, r3, r4, r5⟩ := range_step hr
          have HP := hide hs'
          have HL2 := fun (o : Obj) => hide (HL.out.alloc (Below.size HL.out) o)
          clear hs' hvv hr
          by_cases hs4 : 400 < s.name.size
          · have hs5 : (400 : Int) < (s.name.size : Int) := by omega
            have hyes : Q = true := by
              rw [HQ2.out, List.any_eq_true]
              exact ⟨s, List.mem_of_getElem? HP.out, by simpa using hs4⟩
            subst hyes
            go_wp2
            go_ret
            exact ⟨rfl, L1.out.trans (HL2 _).out⟩
          · have hs5 : ¬ (400 : Int) < (s.name.size : Int) := by omega
            have HS4 := hide hs4
            clear hs4
            go_wp2
            go_roundw
            case rel =>
              refine ⟨i + 1, by go_num, by omega, ?_, (HL2 _).out⟩
              rw [List.take_add_one, HP.out, List.any_append, HA.out]
              simp [HS4.out]
            case measure => simp [intOf]; omega
        · have hno : Q = false := by
            rw [HQ2.out]
            have h1 := HA.out
            rwa [List.take_of_length_le (by have := HN.out; omega)] at h1
          subst hno
          go_wp2
          go_ret
          exact ⟨rfl, L1.out.trans HL.out⟩
end
end Go.Proofs.Ytodifeoficjamaa
/- The document's sums. -/
namespace Go.Proofs.Ytodifeoficjamaa
open Go.RowKit

/-- What is counted. -/
def cntF (b : Bool) (s : StepD) : Int := if b then ticksF s else triesF s
theorem cnt_range (b : Bool) {s : StepD} (h : stepBad s = false) : 0 ≤ cntF b s ∧ cntF b s ≤ 1000 := by
  cases b with
  | false => exact tries_range h
  | true => exact ticks_range h
theorem cnt_undo (b u : Bool) (s : StepD) (f : Int) (h : cntF b s = f) : (if u then cntF b s * 2 else cntF b s) = if u then f * 2 else f := by rw [h]
section
variable {w : World}
set_option maxRecDepth 100000 in
set_option maxHeartbeats 8000000 in
theorem rsum_any {F : Nat → Prop} {name : ByteArray} {v : Value} {steps : List StepD} (bw : Bool) (h : StepsAt F w v steps) (hwf : ∀ s ∈ steps, s.wf) :
    Calls Try.prog 30 #[.agg #[.string name, v], .bool bw] w fun e w' => e = .returned (.int .i64 (sumF (cntF bw) name steps)) ∧ Later w w' := by
  obtain ⟨A, cap, rfl, hc1, hc2, _⟩ := FlatAt.shape h
  obtain ⟨n, hn⟩ : ∃ n, steps.length = n := ⟨_, rfl⟩
  rw [hn] at h hc1 ⊢
  obtain ⟨W1, hW1⟩ : ∃ W1, W1 = w.alloc (.cells #[.string name, .slice A n cap] 24 (0, 0)) := ⟨_, rfl⟩
  obtain ⟨y, hy⟩ : ∃ y, y = w.heap.size := ⟨_, rfl⟩
  have B1 : Hid (DefBox y name (.slice A n cap) W1) := by rw [hW1, hy]; exact heap_alloc_new w _
  have L1 : Hid (Later w W1) := by rw [hW1]; exact (Below.refl _ _).alloc (Nat.le_refl _) _
  have CC : Hid (Calls Try.prog 22 #[.agg #[.string name, .slice A n cap]] W1 fun e w' => e = .returned (.tuple #[.int .i64 (((checkF name steps).1 : Nat) : Int), .int .i64 (((checkF name steps).2 : Nat) : Int)]) ∧ Later W1 w') := rcheck_any (StepsAt.kept h (Kept.of_below L1.out _))
  have H := hide h
  have HN := hide hn
  have HT : Hid (∀ (V : World) (k : Int), Later w V → I64 k → Calls Try.prog 27 #[.agg #[.string name, .slice A n cap], .int .i64 k] V fun e w' => e = .returned (.int .i64 (triesN steps k)) ∧ Later V w') :=
    fun V k hV hk => rTries_any (StepsAt.kept h (Kept.of_below hV _)) hk hwf
  obtain ⟨S, hS⟩ : ∃ S, sumF (cntF bw) name steps = S := ⟨_, rfl⟩
  rw [hS]
  have HS := hide hS
  obtain ⟨k1, hk1⟩ : ∃ k1, (checkF name steps).1 = k1 := ⟨_, rfl⟩
  obtain ⟨k2, hk2⟩ : ∃ k2, (checkF name steps).2 = k2 := ⟨_, rfl⟩
  rw [hk1, hk2] at CC
  have HK := hide hk2
  have c0 : W1.cell? ⟨y, 0, none⟩ = some (.string name) := B1.out.name_
  have c1 : W1.cell? ⟨y, 1, none⟩ = some (.slice A n cap) := B1.out.steps
  have HW1 := hide hW1.symm
  have HY := hide hy.symm
  clear h hn hW1 hy hc2 hS hk1 hk2 hwf
  go_enter Try.func30, Try.ntmps30
  go_wp2_with (fail)
  simp only [HW1.out, HY.out]
  go_wp2_with (fail)
  refine CC.out.mono ?_
  rintro e w2 ⟨rfl, hl2⟩
  have L2 := hide (L1.out.trans hl2)
  have B2 := hide (B1.out.below hl2)
  have d1 : w2.cell? ⟨y, 1, none⟩ = some (.slice A n cap) := B2.out.steps
  clear c0 c1 hl2 CC
  by_cases hk : k2 = 0
  · subst hk
    have hn8 : n ≤ 8 := by have := (check_good HK.out).1; rwa [HN.out] at this
    have HSS : Hid (S = sumL (cntF bw) steps) := by show _ = _; rw [← HS.out]; unfold sumF; rw [if_pos HK.out]
    go_wp2_with (fail)
    go_loopw [7, 21] (fun t v wr => ∃ i : Nat, v = .int .i64 (i : Int) ∧ i ≤ n ∧ t = .int .i64 (sumL (cntF bw) (steps.take i)) ∧ Later w2 wr) (fun _ v _ => n - (intOf v).toNat)
    case atStart => exact ⟨0, rfl, by omega, by simp [sumL], Later.refl _⟩
    case round =>
      obtain ⟨i, rfl, hi, rfl, hlat⟩ := hrel
      have HL := hide hlat
      have hrg := sum_at (fun s => cnt_range bw (s := s)) HK.out i
      obtain ⟨T, hT⟩ : ∃ T, sumL (cntF bw) (steps.take i) = T := ⟨_, rfl⟩
      rw [hT] at hrg ⊢
      have HTT := hide hT
      clear hlat hT
      by_cases hlt : i < n
      · obtain ⟨s, b, off, c', hs', hvv, _, _, _, hr⟩ := StepsAt.at_ (StepsAt.kept H.out (Kept.of_below (L2.out.trans HL.out) F)) (i := i) (by rw [HN.out]; exact hlt)
        rw [HN.out] at hvv
        obtain ⟨rfl, rfl⟩ : A = some ⟨b, off, none⟩ ∧ cap = c' := by injection hvv with e1 _ e3; exact ⟨e1, e3⟩
        obtain ⟨r0, r1, r2, r3, r4, r5⟩ := range_step hr
        have hgd := good_in HK.out hs'
        have hfr := cnt_range bw hgd
        have htr := tries_range hgd
        have HNX := hide (sum_next (cntF bw) hs')
        have HTN := triesN_at hs'
        obtain ⟨W5, hW5⟩ : ∃ W5, W5 = wr.alloc (.cells s.cells.toArray 56 (0, 0)) := ⟨_, rfl⟩
        obtain ⟨x, hx⟩ : ∃ x, x = wr.heap.size := ⟨_, rfl⟩
        have B5 : Hid (StepBox x s W5) := by rw [hW5, hx]; exact heap_alloc_new wr _
        have L5 : Hid (Later wr W5) := by rw [hW5]; exact (Below.refl _ _).alloc (Nat.le_refl _) _
        have BD : Hid (DefBox y name (.slice (some ⟨b, off, none⟩) n cap) W5) := B2.out.below (HL.out.trans L5.out)
        have y0 : W5.cell? ⟨y, 0, none⟩ = some (.string name) := BD.out.name_
        have y1 : W5.cell? ⟨y, 1, none⟩ = some (.slice (some ⟨b, off, none⟩) n cap) := BD.out.steps
        have C5 := HT.out W5 ((i : Int) + 1) (L2.out.trans (HL.out.trans L5.out)) (by unfold I64; omega)
        rw [HTN] at C5
        have HC5 := hide C5
        obtain ⟨tr, htt⟩ : ∃ tr, triesF s = tr := ⟨_, rfl⟩
        obtain ⟨fs, hfs⟩ : ∃ fs, cntF bw s = fs := ⟨_, rfl⟩
        have HFS : Hid (fs = if bw then tr * s.wait else tr) := by show _ = _; rw [← hfs]; unfold cntF ticksF; rw [htt]
        rw [hfs] at hfr HNX
        rw [HTT.out] at HNX
        rw [htt] at HC5 htr
        unfold StepD.cells at hW5
        have HW5 := hide hW5.symm
        have HX := hide hx.symm
        clear hs' hvv hr hW5 hx hfs hgd C5 HTN htt
        -- the box is made in the walk's own world
        rw [← HW5.out] at y0 y1
        go_wp2_with (fail)
        simp only [HW5.out, HX.out]
        clear r0 r1 r2 r3 r4 r5 y0 y1
        refine HC5.out.mono ?_
        rintro e w6 ⟨rfl, hl6⟩
        have HL6 : Hid (Later w2 w6) := HL.out.trans (L5.out.trans hl6)
        have B6 : Hid (StepBox x s w6) := (Below.block hl6 x (lt_of_block B5.out)).trans B5.out
        obtain ⟨d0, d2, d3, d4, d5, d6, df⟩ := B6.out.cells
        obtain ⟨un, hun⟩ : ∃ un, s.undo = un := ⟨_, rfl⟩
        rw [hun] at d5 HNX
        clear df HC5 hl6 hun d0 d2 d3 d6
        cases bw with
        | false =>
          obtain rfl : fs = tr := by rw [HFS.out]; rfl
          cases un with
          | false =>
            have HE : Hid (sumL (cntF false) (steps.take (i + 1)) = T + fs) := by show _ = _; rw [HNX.out]; rfl
            clear HNX
            go_wp2
            go_roundw
            case rel => exact ⟨i + 1, by go_num, by omega, by rw [HE.out], HL6.out⟩
            case measure => simp [intOf]; omega
          | true =>
            have HE : Hid (sumL (cntF false) (steps.take (i + 1)) = T + fs * 2) := by show _ = _; rw [HNX.out]; rfl
            clear HNX
            go_wp2
            go_roundw
            case rel => exact ⟨i + 1, by go_num, by omega, by rw [HE.out], HL6.out⟩
            case measure => simp [intOf]; omega
        | true =>
          have hfm : tr * s.wait = fs := by rw [HFS.out]; rfl
          have hwr := wrap_fits hfr
          cases un with
          | false =>
            have HE : Hid (sumL (cntF true) (steps.take (i + 1)) = T + fs) := by show _ = _; rw [HNX.out]; rfl
            clear HNX
            go_wp2
            go_roundw
            case rel => exact ⟨i + 1, by go_num, by omega, by rw [HE.out], HL6.out⟩
            case measure => simp [intOf]; omega
          | true =>
            have HE : Hid (sumL (cntF true) (steps.take (i + 1)) = T + fs * 2) := by show _ = _; rw [HNX.out]; rfl
            clear HNX
            go_wp2
            go_roundw
            case rel => exact ⟨i + 1, by go_num, by omega, by rw [HE.out], HL6.out⟩
            case measure => simp [intOf]; omega
      · have hin : i = n := by omega
        have hv : S = T := by
          rw [HSS.out, ← HTT.out, hin, ← HN.out, List.take_length]
        subst hv
        clear hin
        go_wp2
        go_ret
        exact ⟨rfl, L2.out.trans HL.out⟩
  · have hS0 : S = 0 := by rw [← HS.out]; unfold sumF; rw [if_neg (by rw [HK.out]; exact hk)]
    subst hS0
    have hk0 : ((k2 : Int) == 0) = false := by rw [beq_eq_false_iff_ne]; omega
    clear hk d1
    go_wp2
    go_ret
    exact ⟨rfl, L2.out⟩

set_option maxHeartbeats 2000000 in
theorem rcommands_any {F : Nat → Prop} {name : ByteArray} {v : Value} {l : List StepD} (h : StepsAt F w v l) (hwf : ∀ s ∈ l, s.wf) :
    Calls Try.prog 17 #[.agg #[.string name, v]] w fun e w' => e = .returned (.int .i64 (sumF triesF name l)) ∧ Later w w' := by
  obtain ⟨A, cap, rfl, hc1, hc2, _⟩ := FlatAt.shape h
  obtain ⟨n, hn⟩ : ∃ n, l.length = n := ⟨_, rfl⟩
  rw [hn] at h hc1 ⊢
  obtain ⟨W1, hW1⟩ : ∃ W1, W1 = w.alloc (.cells #[.string name, .slice A n cap] 24 (0, 0)) := ⟨_, rfl⟩
  obtain ⟨y, hy⟩ : ∃ y, y = w.heap.size := ⟨_, rfl⟩
  have B1 : Hid (DefBox y name (.slice A n cap) W1) := by rw [hW1, hy]; exact heap_alloc_new w _
  have L1 : Hid (Later w W1) := by rw [hW1]; exact (Below.refl _ _).alloc (Nat.le_refl _) _
  have CC : Hid (Calls Try.prog 30 #[.agg #[.string name, .slice A n cap], .bool false] W1 fun e w' => e = .returned (.int .i64 (sumF triesF name l)) ∧ Later W1 w') :=
    rsum_any false (StepsAt.kept h (Kept.of_below L1.out _)) hwf
  have c0 : W1.cell? ⟨y, 0, none⟩ = some (.string name) := B1.out.name_
  have c1 : W1.cell? ⟨y, 1, none⟩ = some (.slice A n cap) := B1.out.steps
  have HW1 := hide hW1.symm
  have HY := hide hy.symm
  clear h hn hW1 hy hc2
  go_enter Try.func17, Try.ntmps17
  go_wp2_with (fail)
  simp only [HW1.out, HY.out]
  go_wp2_with (fail)
  refine CC.out.mono ?_
  rintro e w2 ⟨rfl, hl2⟩
  have L2 := hide (L1.out.trans hl2)
  clear CC hl2 c0 c1
  go_wp2
  go_ret
  exact ⟨rfl, L2.out⟩
end
end Go.Proofs.Ytodifeoficjamaa
/- SagaEnds. -/
namespace Go.Proofs.Ytodifeoficjamaa
open Go.RowKit
def UsAt (F : Nat → Prop) (w : World) (v : Value) (l : List Int) : Prop := FlatAt F w 1 v l.length (l.map fun x => .int .u64 x)
theorem UsAt.kept {F : Nat → Prop} {w w' : World} {v : Value} {l : List Int} (h : UsAt F w v l) (hk : Kept F w w') : UsAt F w' v l := FlatAt.kept h hk
theorem UsAt.at_ {F : Nat → Prop} {w : World} {v : Value} {l : List Int} (h : UsAt F w v l) {i : Nat} (hi : i < l.length) : ∃ x b off c, l[i]? = some x ∧ v = .slice (some ⟨b, off, none⟩) l.length c ∧ l.length ≤ c ∧ F b ∧ b < w.heap.size ∧ w.cell? ⟨b, off + i, none⟩ = some (.int .u64 x) := by
  obtain ⟨b, off, c, hv, hc, hf, hb, hr⟩ := FlatAt.elem h hi
  have hs : l[i]? = some l[i] := List.getElem?_eq_getElem hi
  refine ⟨l[i], b, off, c, hs, hv, hc, hf, hb, ?_⟩
  have := hr 0 (.int .u64 l[i]) (by simp [List.getElem?_drop, hs])
  simpa using this
/-- A saga that is under way, or at its end. -/
def Way (l : List StepD) (name : ByteArray) (s : SagaD) : Prop := s.name = name ∧ ((∃ q, Runs l s q) ∨ (∃ q, Backs l s q) ∨ s.st = 3 ∨ s.st = 4 ∨ s.st = 5) ∧ 0 ≤ s.step ∧ s.step ≤ 9
/-- What an event that is about what is wanted makes of it. -/
theorem way_next {name : ByteArray} {l : List StepD} {s : SagaD} {ev : EvD} (hc : (checkF name l).2 = 0) (h : Way l name s) (hl : s.st = 1 ∨ s.st = 2) (hk : 3 ≤ ev.kind) : (happenF l s ev).2 = true ∧ happenL l s ev = l ∧ Way l name (happenF l s ev).1 ∧ phi l (happenF l s ev).1 + 1 ≤ phi l s := by
  obtain ⟨rfl, h, _⟩ := h
  have h8 := (check_good hc).1
  have hL : happenL l s ev = l := by unfold happenL; rw [if_neg (by omega)]
  rcases h with ⟨q, h⟩ | ⟨q, h⟩ | h | h | h
  · rw [hap_it (h.wants hc) hk]
    obtain ⟨e1, e2⟩ := run_ev hc h ev.kind
    have hq := h.lt
    have hsp := h.step
    refine ⟨rfl, hL, ⟨e1, ?_, ev_step ev.kind (by omega) (by omega) h8⟩, run_less hc h e2⟩
    rcases e2 with ⟨_, _, e⟩ | ⟨_, e, _⟩ | ⟨_, e, _⟩ | ⟨_, e⟩ | ⟨_, _, e⟩ | ⟨_, j, e, _⟩
    · exact .inr (.inr (.inl e))
    · exact .inl ⟨_, e⟩
    · exact .inl ⟨_, e⟩
    · exact .inr (.inr (.inr (.inr e)))
    · exact .inr (.inr (.inr (.inl e)))
    · exact .inr (.inl ⟨_, e⟩)
  · rw [hap_it (h.wants hc) hk]
    obtain ⟨e1, e2⟩ := back_ev hc h ev.kind
    have hq := h.lt
    have hsp := h.step
    refine ⟨rfl, hL, ⟨e1, ?_, ev_step ev.kind (by omega) (by omega) h8⟩, back_less hc h e2⟩
    rcases e2 with ⟨_, _, e⟩ | ⟨_, j, _, e, _⟩ | ⟨_, e, _⟩ | ⟨_, e⟩
    · exact .inr (.inr (.inr (.inl e)))
    · exact .inr (.inl ⟨_, e⟩)
    · exact .inr (.inl ⟨_, e⟩)
    · exact .inr (.inr (.inr (.inr e)))
  · omega
  · omega
  · omega
theorem way_step {name : ByteArray} {l : List StepD} {s : SagaD} (hc : (checkF name l).2 = 0) (h : Way l name s) (hl : s.st = 1 ∨ s.st = 2) : I64 s.step ∧ 1 ≤ phi l s := by
  obtain ⟨rfl, h, _⟩ := h
  have h8 := (check_good hc).1
  rcases h with ⟨q, h⟩ | ⟨q, h⟩ | h | h | h
  · have := h.lt; have := h.step; have := h.pos hc; have := U_nn hc (Nat.le_refl l.length); exact ⟨by unfold I64; omega, by omega⟩
  · have := h.lt; have := h.step; have := h.pos hc; have := U_nn hc (k := q) (by omega); exact ⟨by unfold I64; omega, by omega⟩
  · omega
  · omega
  · omega
theorem phi_nn {name : ByteArray} {l : List StepD} {s : SagaD} (hc : (checkF name l).2 = 0) (h : Way l name s) : 0 ≤ phi l s := by
  by_cases hl : s.st = 1 ∨ s.st = 2
  · have := (way_step hc h hl).2; omega
  · rw [phi_off (by omega) (by omega)]; omega
theorem phi_withV (l : List StepD) (s : SagaD) (p : Option Addr) (n c : Nat) : phi l (s.withV p n c) = phi l s := rfl
theorem Way.withV {l : List StepD} {name : ByteArray} {s : SagaD} (h : Way l name s) (p : Option Addr) (n c : Nat) : Way l name (s.withV p n c) := by
  obtain ⟨e, h, hstp⟩ := h
  refine ⟨e, ?_, hstp⟩
  rcases h with ⟨q, h⟩ | ⟨q, h⟩ | h
  · exact .inl ⟨q, h.withV p n c⟩
  · exact .inr (.inl ⟨q, h.withV p n c⟩)
  · exact .inr (.inr h)
section
variable {w : World}
set_option maxRecDepth 100000 in
set_option maxHeartbeats 8000000 in
theorem law_ends {F G : Nat → Prop} {name : ByteArray} {v v2 : Value} {l : List StepD} {ks : List Int} (hl : StepsAt F w v l) (hb : l.length ≤ 9223372036854775807) (hwf : ∀ s ∈ l, s.wf) (hk : UsAt G w v2 ks) (hkb : ks.length ≤ 9223372036854775807) (hkr : ∀ a ∈ ks, 0 ≤ a ∧ a < 18446744073709551616) :
    Calls Try.prog 5 #[.agg #[.string name, v], v2] w fun e w' => e = .returned (.bool true) ∧ Later w w' := by
  obtain ⟨A1, c1, rfl, _, _, _⟩ := FlatAt.shape hl
  obtain ⟨A2, c2, rfl, _, _, _⟩ := FlatAt.shape hk
  obtain ⟨n, hn⟩ : ∃ n, l.length = n := ⟨_, rfl⟩
  obtain ⟨n2, hn2⟩ : ∃ n, ks.length = n := ⟨_, rfl⟩
  rw [hn] at hl ⊢
  rw [hn2] at hk hkb ⊢
  obtain ⟨W1, hW1⟩ : ∃ W1, W1 = w.alloc (.cells #[.string name, .slice A1 n c1] 24 (0, 0)) := ⟨_, rfl⟩
  obtain ⟨x, hx⟩ : ∃ x, x = w.heap.size := ⟨_, rfl⟩
  have L1 : Hid (Later w W1) := by rw [hW1]; exact (Below.refl _ _).alloc (Nat.le_refl _) _
  have D1 : Hid (DefBox x name (.slice A1 n c1) W1) := by rw [hW1, hx]; exact heap_alloc_new w _
  have CLV : Hid (∀ W, Calls Try.prog 8 #[] W fun e w' => e = .returned (.bool true) ∧ Later W w') := fun W => lives_any
  have SL : Hid (∀ W, Later w W → StepsAt F W (.slice A1 n c1) l) := fun W h => hl.kept (Kept.of_below h _)
  have CL1 : Hid (∀ W, Later w W → Calls Try.prog 6 #[.agg #[.string name, .slice A1 n c1]] W fun e w' => e = .returned (.bool (longF name l)) ∧ Later W w') := fun W h => long_any (SL.out W h) hb
  have CC : Hid (∀ W, Later w W → Calls Try.prog 17 #[.agg #[.string name, .slice A1 n c1]] W fun e w' => e = .returned (.int .i64 (sumF triesF name l)) ∧ Later W w') := fun W h => rcommands_any (SL.out W h) hwf
  have UK : Hid (∀ W, Later w W → UsAt G W (.slice A2 n2 c2) ks) := fun W h => hk.kept (Kept.of_below h _)
  have HKR := hide hkr
  have HWF := hide hwf
  have HN := hide hn
  have HN2 := hide hn2
  have HX0 : Hid (w.heap.size ≤ x) := Nat.le_of_eq hx.symm
  have HW1 := hide hW1.symm
  have HX := hide hx.symm
  by_cases he : (checkF name l).2 = 0
  · have CB := hide (begin_ok (name := name) (SL.out W1 L1.out) he)
    have HE := hide he
    have h8 : n ≤ 8 := by rw [← hn]; exact (check_good he).1
    clear hl hk hn hn2 hW1 hx hb he hwf hkr
    go_enter Try.func5, Try.ntmps5
    go_wp2_with (fail)
    simp only [HW1.out, HX.out]
    refine CB.out.mono ?_
    rintro e w2 ⟨P, N, K, rfl, hs, hl⟩
    have L2 := hide (L1.out.trans hl)
    have D2 := hide (D1.out.below hl)
    have HZ1 := hide (Below.size L1.out)
    have T2 : Hid (SBox 27 w2.heap.size SagaD.zero (w2.alloc (.cells #[.string ⟨#[]⟩, .slice none 0 0, .int .i64 0, .int .i64 0, .int .i64 0, .bool false, .bool false, .bool false, .bool false, .bool false, .bool false, .bool false, .bool false] 27 (0, 0)))) := heap_alloc_new _ _
    have L2a : Hid (Later w2 (w2.alloc (.cells #[.string ⟨#[]⟩, .slice none 0 0, .int .i64 0, .int .i64 0, .int .i64 0, .bool false, .bool false, .bool false, .bool false, .bool false, .bool false, .bool false, .bool false] 27 (0, 0)))) := (Below.refl _ _).alloc (Nat.le_refl _) _
    have HS2 := hide hs
    clear hl hs CB
    go_wp2_with (refine wpList_store_saga (s := SagaD.mk name P N K 1 1 1 (upH 0)) (by rfl) _ _ (by rfl) (by rfl) T2.out (by rfl) ?_)
    intro w3 hb3 hg
    obtain ⟨b, hbb⟩ : ∃ b, w2.heap.size = b := ⟨_, rfl⟩
    have HBB : Hid (w.heap.size ≤ b) := by rw [← hbb]; exact Below.size L2.out
    have HXB : Hid (x < b) := by rw [← hbb]; exact lt_of_block D2.out
    have S3 : Hid (StepsAt (fun i => i ≠ b) w3 (.slice P N K) l) := by
      have h4 : StepsAt (fun i => i ≠ b) w2 (.slice P N K) l := FlatAt.mono HS2.out (fun i hi _ => by omega)
      exact StepsAt.kept (StepsAt.kept h4 (Kept.of_below L2a.out _)) (Kept.of_grown hg (fun k hk hf => by have := Option.some.inj hk; omega))
    have HLo := hide (L2.out.trans L2a.out)
    have L3 : Hid (Later w w3) := HLo.out.grown hg (Below.size HLo.out) (fun k hk => by have := Option.some.inj hk; have := HBB.out; omega)
    have D3 : Hid (DefBox x name (.slice A1 n c1) w3) := (hg.block x (lt_of_block (D2.out.below L2a.out)) (fun e => by have := Option.some.inj e; have := HXB.out; omega)).trans (D2.out.below L2a.out)
    rw [hbb] at hb3
    have X3 := hide hb3
    rw [hbb]
    clear hb3 hg hbb T2 HLo HS2
    have x0 := D3.out.name_
    have x1 := D3.out.steps
    go_wp2_with (fail)
    refine (CL1.out _ L3.out).mono ?_
    rintro e w4 ⟨rfl, hl⟩
    have L4 := hide (L3.out.trans hl)
    have D4 := hide (D3.out.below hl)
    have X4 := hide (X3.out.below hl)
    have S4 := hide (StepsAt.kept S3.out (Kept.of_below hl _))
    obtain ⟨q1, hq1⟩ : ∃ q, longF name l = q := ⟨_, rfl⟩
    rw [hq1]
    clear hl x0 x1 hq1
    by_cases h300 : 300 < n2
    · have h300' : (300 : Int) < (n2 : Int) := by omega
      cases q1 with
      | true =>
        go_wp2_with (fail)
        refine (CLV.out _).mono ?_
        rintro e w5 ⟨rfl, hl⟩
        have L5 := hide (L4.out.trans hl)
        clear hl
        go_wp2
        go_ret
        exact ⟨rfl, L5.out⟩
      | false =>
        go_wp2_with (fail)
        refine (CLV.out _).mono ?_
        rintro e w5 ⟨rfl, hl⟩
        have L5 := hide (L4.out.trans hl)
        clear hl
        go_wp2
        go_ret
        exact ⟨rfl, L5.out⟩
    · have h300' : ¬ (300 : Int) < (n2 : Int) := by omega
      cases q1 with
      | true =>
        go_wp2_with (fail)
        refine (CLV.out _).mono ?_
        rintro e w5 ⟨rfl, hl⟩
        have L5 := hide (L4.out.trans hl)
        clear hl
        go_wp2
        go_ret
        exact ⟨rfl, L5.out⟩
      | false =>
        obtain ⟨C, hC⟩ : ∃ C, sumF triesF name l = C := ⟨_, rfl⟩
        have hC2 := (sumF_range (fun s => tries_range (s := s)) name l).2
        rw [hC] at CC hC2
        have HC := hide hC
        have HC2 := hide hC2
        clear hC hC2
        go_wp2_with (fail)
        go_loopw [7] (fun t wr => ∃ (m : Nat) (s : SagaD), t = .int .i64 (m : Int) ∧ SBox 27 b s wr ∧ StepsAt (fun i => i ≠ b) wr s.v l ∧ Way l name s ∧ (m : Int) + phi l s ≤ C ∧ DefBox x name (.slice A1 n c1) wr ∧ Later w wr) (fun t _ => (C - intOf t).toNat)
        case atStart => exact ⟨0, ⟨name, P, N, K, 1, 1, 1, upH 0⟩, rfl, X4.out, S4.out, ⟨rfl, .inl ⟨0, begin_runs HE.out P N K⟩, by show (0 : Int) ≤ 1; omega, by show (1 : Int) ≤ 9; omega⟩, by rw [begin_phi HE.out, HC.out]; omega, D4.out, L4.out⟩
        case round =>
          obtain ⟨m, s, rfl, hx5, hs5, hway, hphi, hd5, hl5⟩ := hrel
          have X5 := hide hx5
          have S5 := hide hs5
          have WY := hide hway
          have HP := hide hphi
          have D5 := hide hd5
          have L5 := hide hl5
          have c5 := hx5.c2
          clear hx5 hs5 hway hphi hd5 hl5
          by_cases hst : s.st = 1 ∨ s.st = 2
          · have HST := hide hst
            obtain ⟨hi64, hp1⟩ := way_step HE.out WY.out hst
            have HI := hide hi64
            have hmC : (m : Int) < C := by have := HP.out; omega
            have hmb : (m : Int) < 1000000 := by have := HC2.out; omega
            have CH : Hid (∀ k : Int, 3 ≤ k → Calls Try.prog 16 #[s.val, .agg #[.int .i64 k, .int .i64 0, .int .i64 0, .bool false, .bool false]] wr (Told (happenF l s ⟨k, 0, 0, false, false⟩).1 true l wr)) := fun k hk => by
              have hh := happen_any (ev := ⟨k, 0, 0, false, false⟩) S5.out (by have := (check_good HE.out).1; omega) HWF.out HI.out
              obtain ⟨e1, e2, _⟩ := way_next (ev := ⟨k, 0, 0, false, false⟩) HE.out WY.out HST.out hk
              rwa [e1, e2] at hh
            have HNX : Hid (∀ k : Int, 3 ≤ k → Way l name (happenF l s ⟨k, 0, 0, false, false⟩).1 ∧ phi l (happenF l s ⟨k, 0, 0, false, false⟩).1 + 1 ≤ phi l s) := fun k hk => by
              obtain ⟨_, _, e3, e4⟩ := way_next (ev := ⟨k, 0, 0, false, false⟩) HE.out WY.out HST.out hk
              exact ⟨e3, e4⟩
            clear hi64 hp1
            obtain ⟨st, hst2⟩ : ∃ t, s.st = t := ⟨_, rfl⟩
            rw [hst2] at hst c5
            clear hst2
            by_cases hmn : m < n2
            · obtain ⟨a, ub, uo, uc, ha, hvv, _, _, _, hcell⟩ := UsAt.at_ (UK.out _ L5.out) (i := m) (by rw [HN2.out]; exact hmn)
              rw [HN2.out] at hvv
              obtain ⟨rfl, rfl⟩ : A2 = some ⟨ub, uo, none⟩ ∧ c2 = uc := by injection hvv with e1 _ e3; exact ⟨e1, e3⟩
              have har := HKR.out a (List.mem_of_getElem? ha)
              obtain ⟨r, hr⟩ : ∃ r : Nat, a.toNat % 3 = r := ⟨_, rfl⟩
              have hr3 : r < 3 := by omega
              have hmod : a % 3 = (r : Int) := by omega
              clear ha hvv
              rcases hst with rfl | rfl
              · go_wp2_with (refine wpList_load_saga (by rfl) _ (by rfl) (by rfl) X5.out ?_)
                refine (CH.out (3 + (r : Int)) (by omega)).mono ?_
                rintro e w6 ⟨P6, N6, K6, rfl, hs, hl⟩
                obtain ⟨hw1, hp1⟩ := HNX.out (3 + (r : Int)) (by omega)
                obtain ⟨t, ht⟩ : ∃ t, (happenF l s ⟨3 + (r : Int), 0, 0, false, false⟩).1 = t := ⟨_, rfl⟩
                rw [ht] at hw1 hp1
                rw [ht]
                have HWT := hide (hw1.withV P6 N6 K6)
                have HPT : Hid (phi l (t.withV P6 N6 K6) + 1 ≤ phi l s) := hp1
                have hpn := phi_nn HE.out HWT.out
                have hm1 : (m : Int) + 1 ≤ C := by have := HPT.out; have := HP.out; omega
                have hm2 : ¬ C < (m : Int) + 1 := by omega
                have L6 := hide (L5.out.trans hl)
                have D6 := hide (D5.out.below hl)
                have X6 := hide (X5.out.below hl)
                have S6 := hide hs
                have HBL := hide (SBox.lt X5.out)
                have T6 : Hid (SBox 27 w6.heap.size SagaD.zero (w6.alloc (.cells #[.string ⟨#[]⟩, .slice none 0 0, .int .i64 0, .int .i64 0, .int .i64 0, .bool false, .bool false, .bool false, .bool false, .bool false, .bool false, .bool false, .bool false] 27 (0, 0)))) := heap_alloc_new _ _
                have L6a : Hid (Later w6 (w6.alloc (.cells #[.string ⟨#[]⟩, .slice none 0 0, .int .i64 0, .int .i64 0, .int .i64 0, .bool false, .bool false, .bool false, .bool false, .bool false, .bool false, .bool false, .bool false] 27 (0, 0)))) := (Below.refl _ _).alloc (Nat.le_refl _) _
                clear hs hl ht hw1 hp1 hpn
                go_wp2_with (refine wpList_store_saga (s := t.withV P6 N6 K6) (by rfl) _ _ (by rfl) (by rfl) T6.out (by rfl) ?_)
                intro w7 hb7 hg
                have hz6 : w.heap.size ≤ w6.heap.size := Below.size L6.out
                have HLo := hide (L6.out.trans L6a.out)
                have L7 : Hid (Later w w7) := HLo.out.grown hg (Below.size HLo.out) (fun k hk => by have := Option.some.inj hk; omega)
                have X7 : Hid (SBox 27 b s w7) := (X6.out.below L6a.out).other hg (fun e => by have := Option.some.inj e; have := SBox.lt X6.out; omega)
                have D7 : Hid (DefBox x name (.slice A1 n c1) w7) := (hg.block x (lt_of_block (D6.out.below L6a.out)) (fun e => by have := Option.some.inj e; have := lt_of_block D6.out; omega)).trans (D6.out.below L6a.out)
                have S7 : Hid (StepsAt (fun i => wr.heap.size ≤ i ∧ i ≠ w6.heap.size) w7 (.slice P6 N6 K6) l) := by
                  have h4 : StepsAt (fun i => wr.heap.size ≤ i ∧ i ≠ w6.heap.size) w6 (.slice P6 N6 K6) l := FlatAt.mono S6.out (fun i hi hf => ⟨hf, by omega⟩)
                  exact StepsAt.kept (StepsAt.kept h4 (Kept.of_below L6a.out _)) (Kept.of_grown hg (fun k hk hf => hf.2 (Option.some.inj hk).symm))
                have T7 := hide hb7
                clear hb7 hg hz6 HLo
                have x0 := D7.out.name_
                have x1 := D7.out.steps
                go_wp2_with (fail)
                refine (CC.out _ L7.out).mono ?_
                rintro e w8 ⟨rfl, hl⟩
                have L8 := hide (L7.out.trans hl)
                have D8 := hide (D7.out.below hl)
                have X8 := hide (X7.out.below hl)
                have T8 := hide (T7.out.below hl)
                have S8 := hide (StepsAt.kept S7.out (Kept.of_below hl _))
                have HMC := hide hmC
                clear hl x0 x1 hm1 hmC hmb
                go_wp2_with (first | (refine wpList_load_saga (by rfl) _ (by rfl) (by rfl) T8.out ?_) | (refine wpList_store_saga (by rfl) _ _ (by rfl) (by rfl) X8.out (by rfl) ?_; intro w9 Z9 G9))
                have L9 : Hid (Later w w9) := L8.out.grown G9 (Below.size L8.out) (fun k hk => by have := Option.some.inj hk; have := HBB.out; omega)
                have D9 : Hid (DefBox x name (.slice A1 n c1) w9) := (G9.block x (lt_of_block D8.out) (fun e => by have := Option.some.inj e; have := HXB.out; omega)).trans D8.out
                have S9 : Hid (StepsAt (fun i => i ≠ b) w9 (.slice P6 N6 K6) l) := by
                  have h9 := StepsAt.kept S8.out (Kept.of_grown G9 (fun k hk hf => by have := Option.some.inj hk; have := HBL.out; have := hf.1; omega))
                  exact FlatAt.mono h9 (fun i _ hf => by have := HBL.out; have := hf.1; omega)
                simp only [Act.put]
                try simp only [List.setIfInBounds_toArray]
                try simp only [List.set_cons_zero, List.set_cons_succ]
                go_roundw
                case rel => exact ⟨m + 1, t.withV P6 N6 K6, by go_num, Z9, S9.out, HWT.out, by have := HPT.out; have := HP.out; omega, D9.out, L9.out⟩
                case measure => have := HMC.out; simp [intOf]; omega
              · go_wp2_with (refine wpList_load_saga (by rfl) _ (by rfl) (by rfl) X5.out ?_)
                refine (CH.out (3 + (r : Int)) (by omega)).mono ?_
                rintro e w6 ⟨P6, N6, K6, rfl, hs, hl⟩
                obtain ⟨hw1, hp1⟩ := HNX.out (3 + (r : Int)) (by omega)
                obtain ⟨t, ht⟩ : ∃ t, (happenF l s ⟨3 + (r : Int), 0, 0, false, false⟩).1 = t := ⟨_, rfl⟩
                rw [ht] at hw1 hp1
                rw [ht]
                have HWT := hide (hw1.withV P6 N6 K6)
                have HPT : Hid (phi l (t.withV P6 N6 K6) + 1 ≤ phi l s) := hp1
                have hpn := phi_nn HE.out HWT.out
                have hm1 : (m : Int) + 1 ≤ C := by have := HPT.out; have := HP.out; omega
                have hm2 : ¬ C < (m : Int) + 1 := by omega
                have L6 := hide (L5.out.trans hl)
                have D6 := hide (D5.out.below hl)
                have X6 := hide (X5.out.below hl)
                have S6 := hide hs
                have HBL := hide (SBox.lt X5.out)
                have T6 : Hid (SBox 27 w6.heap.size SagaD.zero (w6.alloc (.cells #[.string ⟨#[]⟩, .slice none 0 0, .int .i64 0, .int .i64 0, .int .i64 0, .bool false, .bool false, .bool false, .bool false, .bool false, .bool false, .bool false, .bool false] 27 (0, 0)))) := heap_alloc_new _ _
                have L6a : Hid (Later w6 (w6.alloc (.cells #[.string ⟨#[]⟩, .slice none 0 0, .int .i64 0, .int .i64 0, .int .i64 0, .bool false, .bool false, .bool false, .bool false, .bool false, .bool false, .bool false, .bool false] 27 (0, 0)))) := (Below.refl _ _).alloc (Nat.le_refl _) _
                clear hs hl ht hw1 hp1 hpn
                go_wp2_with (refine wpList_store_saga (s := t.withV P6 N6 K6) (by rfl) _ _ (by rfl) (by rfl) T6.out (by rfl) ?_)
                intro w7 hb7 hg
                have hz6 : w.heap.size ≤ w6.heap.size := Below.size L6.out
                have HLo := hide (L6.out.trans L6a.out)
                have L7 : Hid (Later w w7) := HLo.out.grown hg (Below.size HLo.out) (fun k hk => by have := Option.some.inj hk; omega)
                have X7 : Hid (SBox 27 b s w7) := (X6.out.below L6a.out).other hg (fun e => by have := Option.some.inj e; have := SBox.lt X6.out; omega)
                have D7 : Hid (DefBox x name (.slice A1 n c1) w7) := (hg.block x (lt_of_block (D6.out.below L6a.out)) (fun e => by have := Option.some.inj e; have := lt_of_block D6.out; omega)).trans (D6.out.below L6a.out)
                have S7 : Hid (StepsAt (fun i => wr.heap.size ≤ i ∧ i ≠ w6.heap.size) w7 (.slice P6 N6 K6) l) := by
                  have h4 : StepsAt (fun i => wr.heap.size ≤ i ∧ i ≠ w6.heap.size) w6 (.slice P6 N6 K6) l := FlatAt.mono S6.out (fun i hi hf => ⟨hf, by omega⟩)
                  exact StepsAt.kept (StepsAt.kept h4 (Kept.of_below L6a.out _)) (Kept.of_grown hg (fun k hk hf => hf.2 (Option.some.inj hk).symm))
                have T7 := hide hb7
                clear hb7 hg hz6 HLo
                have x0 := D7.out.name_
                have x1 := D7.out.steps
                go_wp2_with (fail)
                refine (CC.out _ L7.out).mono ?_
                rintro e w8 ⟨rfl, hl⟩
                have L8 := hide (L7.out.trans hl)
                have D8 := hide (D7.out.below hl)
                have X8 := hide (X7.out.below hl)
                have T8 := hide (T7.out.below hl)
                have S8 := hide (StepsAt.kept S7.out (Kept.of_below hl _))
                have HMC := hide hmC
                clear hl x0 x1 hm1 hmC hmb
                go_wp2_with (first | (refine wpList_load_saga (by rfl) _ (by rfl) (by rfl) T8.out ?_) | (refine wpList_store_saga (by rfl) _ _ (by rfl) (by rfl) X8.out (by rfl) ?_; intro w9 Z9 G9))
                have L9 : Hid (Later w w9) := L8.out.grown G9 (Below.size L8.out) (fun k hk => by have := Option.some.inj hk; have := HBB.out; omega)
                have D9 : Hid (DefBox x name (.slice A1 n c1) w9) := (G9.block x (lt_of_block D8.out) (fun e => by have := Option.some.inj e; have := HXB.out; omega)).trans D8.out
                have S9 : Hid (StepsAt (fun i => i ≠ b) w9 (.slice P6 N6 K6) l) := by
                  have h9 := StepsAt.kept S8.out (Kept.of_grown G9 (fun k hk hf => by have := Option.some.inj hk; have := HBL.out; have := hf.1; omega))
                  exact FlatAt.mono h9 (fun i _ hf => by have := HBL.out; have := hf.1; omega)
                simp only [Act.put]
                try simp only [List.setIfInBounds_toArray]
                try simp only [List.set_cons_zero, List.set_cons_succ]
                go_roundw
                case rel => exact ⟨m + 1, t.withV P6 N6 K6, by go_num, Z9, S9.out, HWT.out, by have := HPT.out; have := HP.out; omega, D9.out, L9.out⟩
                case measure => have := HMC.out; simp [intOf]; omega
            · have hmn2 : ¬ (m : Int) < (n2 : Int) := by omega
              rcases hst with rfl | rfl
              · go_wp2_with (refine wpList_load_saga (by rfl) _ (by rfl) (by rfl) X5.out ?_)
                refine (CH.out (3) (by omega)).mono ?_
                rintro e w6 ⟨P6, N6, K6, rfl, hs, hl⟩
                obtain ⟨hw1, hp1⟩ := HNX.out (3) (by omega)
                obtain ⟨t, ht⟩ : ∃ t, (happenF l s ⟨3, 0, 0, false, false⟩).1 = t := ⟨_, rfl⟩
                rw [ht] at hw1 hp1
                rw [ht]
                have HWT := hide (hw1.withV P6 N6 K6)
                have HPT : Hid (phi l (t.withV P6 N6 K6) + 1 ≤ phi l s) := hp1
                have hpn := phi_nn HE.out HWT.out
                have hm1 : (m : Int) + 1 ≤ C := by have := HPT.out; have := HP.out; omega
                have hm2 : ¬ C < (m : Int) + 1 := by omega
                have L6 := hide (L5.out.trans hl)
                have D6 := hide (D5.out.below hl)
                have X6 := hide (X5.out.below hl)
                have S6 := hide hs
                have HBL := hide (SBox.lt X5.out)
                have T6 : Hid (SBox 27 w6.heap.size SagaD.zero (w6.alloc (.cells #[.string ⟨#[]⟩, .slice none 0 0, .int .i64 0, .int .i64 0, .int .i64 0, .bool false, .bool false, .bool false, .bool false, .bool false, .bool false, .bool false, .bool false] 27 (0, 0)))) := heap_alloc_new _ _
                have L6a : Hid (Later w6 (w6.alloc (.cells #[.string ⟨#[]⟩, .slice none 0 0, .int .i64 0, .int .i64 0, .int .i64 0, .bool false, .bool false, .bool false, .bool false, .bool false, .bool false, .bool false, .bool false] 27 (0, 0)))) := (Below.refl _ _).alloc (Nat.le_refl _) _
                clear hs hl ht hw1 hp1 hpn
                go_wp2_with (refine wpList_store_saga (s := t.withV P6 N6 K6) (by rfl) _ _ (by rfl) (by rfl) T6.out (by rfl) ?_)
                intro w7 hb7 hg
                have hz6 : w.heap.size ≤ w6.heap.size := Below.size L6.out
                have HLo := hide (L6.out.trans L6a.out)
                have L7 : Hid (Later w w7) := HLo.out.grown hg (Below.size HLo.out) (fun k hk => by have := Option.some.inj hk; omega)
                have X7 : Hid (SBox 27 b s w7) := (X6.out.below L6a.out).other hg (fun e => by have := Option.some.inj e; have := SBox.lt X6.out; omega)
                have D7 : Hid (DefBox x name (.slice A1 n c1) w7) := (hg.block x (lt_of_block (D6.out.below L6a.out)) (fun e => by have := Option.some.inj e; have := lt_of_block D6.out; omega)).trans (D6.out.below L6a.out)
                have S7 : Hid (StepsAt (fun i => wr.heap.size ≤ i ∧ i ≠ w6.heap.size) w7 (.slice P6 N6 K6) l) := by
                  have h4 : StepsAt (fun i => wr.heap.size ≤ i ∧ i ≠ w6.heap.size) w6 (.slice P6 N6 K6) l := FlatAt.mono S6.out (fun i hi hf => ⟨hf, by omega⟩)
                  exact StepsAt.kept (StepsAt.kept h4 (Kept.of_below L6a.out _)) (Kept.of_grown hg (fun k hk hf => hf.2 (Option.some.inj hk).symm))
                have T7 := hide hb7
                clear hb7 hg hz6 HLo
                have x0 := D7.out.name_
                have x1 := D7.out.steps
                go_wp2_with (fail)
                refine (CC.out _ L7.out).mono ?_
                rintro e w8 ⟨rfl, hl⟩
                have L8 := hide (L7.out.trans hl)
                have D8 := hide (D7.out.below hl)
                have X8 := hide (X7.out.below hl)
                have T8 := hide (T7.out.below hl)
                have S8 := hide (StepsAt.kept S7.out (Kept.of_below hl _))
                have HMC := hide hmC
                clear hl x0 x1 hm1 hmC hmb
                go_wp2_with (first | (refine wpList_load_saga (by rfl) _ (by rfl) (by rfl) T8.out ?_) | (refine wpList_store_saga (by rfl) _ _ (by rfl) (by rfl) X8.out (by rfl) ?_; intro w9 Z9 G9))
                have L9 : Hid (Later w w9) := L8.out.grown G9 (Below.size L8.out) (fun k hk => by have := Option.some.inj hk; have := HBB.out; omega)
                have D9 : Hid (DefBox x name (.slice A1 n c1) w9) := (G9.block x (lt_of_block D8.out) (fun e => by have := Option.some.inj e; have := HXB.out; omega)).trans D8.out
                have S9 : Hid (StepsAt (fun i => i ≠ b) w9 (.slice P6 N6 K6) l) := by
                  have h9 := StepsAt.kept S8.out (Kept.of_grown G9 (fun k hk hf => by have := Option.some.inj hk; have := HBL.out; have := hf.1; omega))
                  exact FlatAt.mono h9 (fun i _ hf => by have := HBL.out; have := hf.1; omega)
                simp only [Act.put]
                try simp only [List.setIfInBounds_toArray]
                try simp only [List.set_cons_zero, List.set_cons_succ]
                go_roundw
                case rel => exact ⟨m + 1, t.withV P6 N6 K6, by go_num, Z9, S9.out, HWT.out, by have := HPT.out; have := HP.out; omega, D9.out, L9.out⟩
                case measure => have := HMC.out; simp [intOf]; omega
              · go_wp2_with (refine wpList_load_saga (by rfl) _ (by rfl) (by rfl) X5.out ?_)
                refine (CH.out (3) (by omega)).mono ?_
                rintro e w6 ⟨P6, N6, K6, rfl, hs, hl⟩
                obtain ⟨hw1, hp1⟩ := HNX.out (3) (by omega)
                obtain ⟨t, ht⟩ : ∃ t, (happenF l s ⟨3, 0, 0, false, false⟩).1 = t := ⟨_, rfl⟩
                rw [ht] at hw1 hp1
                rw [ht]
                have HWT := hide (hw1.withV P6 N6 K6)
                have HPT : Hid (phi l (t.withV P6 N6 K6) + 1 ≤ phi l s) := hp1
                have hpn := phi_nn HE.out HWT.out
                have hm1 : (m : Int) + 1 ≤ C := by have := HPT.out; have := HP.out; omega
                have hm2 : ¬ C < (m : Int) + 1 := by omega
                have L6 := hide (L5.out.trans hl)
                have D6 := hide (D5.out.below hl)
                have X6 := hide (X5.out.below hl)
                have S6 := hide hs
                have HBL := hide (SBox.lt X5.out)
                have T6 : Hid (SBox 27 w6.heap.size SagaD.zero (w6.alloc (.cells #[.string ⟨#[]⟩, .slice none 0 0, .int .i64 0, .int .i64 0, .int .i64 0, .bool false, .bool false, .bool false, .bool false, .bool false, .bool false, .bool false, .bool false] 27 (0, 0)))) := heap_alloc_new _ _
                have L6a : Hid (Later w6 (w6.alloc (.cells #[.string ⟨#[]⟩, .slice none 0 0, .int .i64 0, .int .i64 0, .int .i64 0, .bool false, .bool false, .bool false, .bool false, .bool false, .bool false, .bool false, .bool false] 27 (0, 0)))) := (Below.refl _ _).alloc (Nat.le_refl _) _
                clear hs hl ht hw1 hp1 hpn
                go_wp2_with (refine wpList_store_saga (s := t.withV P6 N6 K6) (by rfl) _ _ (by rfl) (by rfl) T6.out (by rfl) ?_)
                intro w7 hb7 hg
                have hz6 : w.heap.size ≤ w6.heap.size := Below.size L6.out
                have HLo := hide (L6.out.trans L6a.out)
                have L7 : Hid (Later w w7) := HLo.out.grown hg (Below.size HLo.out) (fun k hk => by have := Option.some.inj hk; omega)
                have X7 : Hid (SBox 27 b s w7) := (X6.out.below L6a.out).other hg (fun e => by have := Option.some.inj e; have := SBox.lt X6.out; omega)
                have D7 : Hid (DefBox x name (.slice A1 n c1) w7) := (hg.block x (lt_of_block (D6.out.below L6a.out)) (fun e => by have := Option.some.inj e; have := lt_of_block D6.out; omega)).trans (D6.out.below L6a.out)
                have S7 : Hid (StepsAt (fun i => wr.heap.size ≤ i ∧ i ≠ w6.heap.size) w7 (.slice P6 N6 K6) l) := by
                  have h4 : StepsAt (fun i => wr.heap.size ≤ i ∧ i ≠ w6.heap.size) w6 (.slice P6 N6 K6) l := FlatAt.mono S6.out (fun i hi hf => ⟨hf, by omega⟩)
                  exact StepsAt.kept (StepsAt.kept h4 (Kept.of_below L6a.out _)) (Kept.of_grown hg (fun k hk hf => hf.2 (Option.some.inj hk).symm))
                have T7 := hide hb7
                clear hb7 hg hz6 HLo
                have x0 := D7.out.name_
                have x1 := D7.out.steps
                go_wp2_with (fail)
                refine (CC.out _ L7.out).mono ?_
                rintro e w8 ⟨rfl, hl⟩
                have L8 := hide (L7.out.trans hl)
                have D8 := hide (D7.out.below hl)
                have X8 := hide (X7.out.below hl)
                have T8 := hide (T7.out.below hl)
                have S8 := hide (StepsAt.kept S7.out (Kept.of_below hl _))
                have HMC := hide hmC
                clear hl x0 x1 hm1 hmC hmb
                go_wp2_with (first | (refine wpList_load_saga (by rfl) _ (by rfl) (by rfl) T8.out ?_) | (refine wpList_store_saga (by rfl) _ _ (by rfl) (by rfl) X8.out (by rfl) ?_; intro w9 Z9 G9))
                have L9 : Hid (Later w w9) := L8.out.grown G9 (Below.size L8.out) (fun k hk => by have := Option.some.inj hk; have := HBB.out; omega)
                have D9 : Hid (DefBox x name (.slice A1 n c1) w9) := (G9.block x (lt_of_block D8.out) (fun e => by have := Option.some.inj e; have := HXB.out; omega)).trans D8.out
                have S9 : Hid (StepsAt (fun i => i ≠ b) w9 (.slice P6 N6 K6) l) := by
                  have h9 := StepsAt.kept S8.out (Kept.of_grown G9 (fun k hk hf => by have := Option.some.inj hk; have := HBL.out; have := hf.1; omega))
                  exact FlatAt.mono h9 (fun i _ hf => by have := HBL.out; have := hf.1; omega)
                simp only [Act.put]
                try simp only [List.setIfInBounds_toArray]
                try simp only [List.set_cons_zero, List.set_cons_succ]
                go_roundw
                case rel => exact ⟨m + 1, t.withV P6 N6 K6, by go_num, Z9, S9.out, HWT.out, by have := HPT.out; have := HP.out; omega, D9.out, L9.out⟩
                case measure => have := HMC.out; simp [intOf]; omega
          · have h1 : s.st ≠ 1 := fun e => hst (.inl e)
            have h2 : s.st ≠ 2 := fun e => hst (.inr e)
            have hq := done_wants (l := l) h1 h2
            have hend : s.st = 3 ∨ s.st = 4 ∨ s.st = 5 := by
              rcases WY.out.2.1 with ⟨q, h⟩ | ⟨q, h⟩ | h
              · exact absurd h.st h1
              · exact absurd h.st h2
              · exact h
            have CW : Hid (I64 s.step → Calls Try.prog 11 #[s.val] wr fun e w' => ∃ t : Int, e = .returned (.tuple #[.agg #[.int .i64 0, .int .i64 0, .int .i64 0, .int .i64 0, .int .i64 0, .bool false], .int .i64 t, .bool false]) ∧ Later wr w') := fun hi => (wants_any S5.out HWF.out hi).mono (fun e w' he => ⟨wantsW l s, by rw [he.1]; unfold wantsC; rw [hq]; rfl, he.2⟩)
            have b1 : (s.st == 1) = false := by rw [beq_eq_false_iff_ne]; exact h1
            have b2 : (s.st == 2) = false := by rw [beq_eq_false_iff_ne]; exact h2
            have HEND := hide hend
            have hi64 : I64 s.step := by have := WY.out.2.2; unfold I64; omega
            clear h1 h2 hq hend hst
            go_wp2_with (refine wpList_load_saga (by rfl) _ (by rfl) (by rfl) X5.out ?_)
            refine (CW.out hi64).mono ?_
            rintro e w6 ⟨tk, rfl, hl⟩
            have L6 := hide (L5.out.trans hl)
            have X6 := hide (X5.out.below hl)
            obtain ⟨w7, hw7⟩ : ∃ w7, w7 = w6.alloc (.cells #[.int .i64 0, .int .i64 0, .int .i64 0, .int .i64 0, .int .i64 0, .bool false] 38 (0, 0)) := ⟨_, rfl⟩
            have L67 : Hid (Later w6 w7) := by rw [hw7]; exact (Below.refl _ _).alloc (Nat.le_refl _) _
            have X7 := hide (X6.out.below L67.out)
            have L7 := hide (L6.out.trans L67.out)
            have d2 := X7.out.c2
            rw [hw7] at d2
            have HW7 := hide hw7.symm
            clear hl hw7 CW c5 b1 b2
            rcases HEND.out with h3 | h3 | h3
            · rw [h3] at d2
              clear h3
              go_wp2_with (fail)
              rw [HW7.out]
              refine (CLV.out _).mono ?_
              rintro e w8 ⟨rfl, hl⟩
              have L8 := hide (L7.out.trans hl)
              clear hl
              go_wp2
              go_ret
              exact ⟨rfl, L8.out⟩
            · rw [h3] at d2
              clear h3
              go_wp2_with (fail)
              rw [HW7.out]
              refine (CLV.out _).mono ?_
              rintro e w8 ⟨rfl, hl⟩
              have L8 := hide (L7.out.trans hl)
              clear hl
              go_wp2
              go_ret
              exact ⟨rfl, L8.out⟩
            · rw [h3] at d2
              clear h3
              go_wp2_with (fail)
              rw [HW7.out]
              refine (CLV.out _).mono ?_
              rintro e w8 ⟨rfl, hl⟩
              have L8 := hide (L7.out.trans hl)
              clear hl
              go_wp2
              go_ret
              exact ⟨rfl, L8.out⟩
  · have CB := hide (begin_err (name := name) (SL.out W1 L1.out) he)
    obtain ⟨k2, hk2⟩ : ∃ k, (checkF name l).2 = k := ⟨_, rfl⟩
    rw [hk2] at CB
    have hb0 : ((k2 : Int) != 0) = true := by
      have : k2 ≠ 0 := by rw [← hk2]; exact he
      simpa using this
    clear hl hk hn hn2 hW1 hx hb he hwf hkr hk2
    go_enter Try.func5, Try.ntmps5
    go_wp2_with (fail)
    simp only [HW1.out, HX.out]
    refine CB.out.mono ?_
    rintro e w2 ⟨rfl, hl⟩
    have L2 := hide (L1.out.trans hl)
    have T2 : Hid (SBox 27 w2.heap.size SagaD.zero (w2.alloc (.cells #[.string ⟨#[]⟩, .slice none 0 0, .int .i64 0, .int .i64 0, .int .i64 0, .bool false, .bool false, .bool false, .bool false, .bool false, .bool false, .bool false, .bool false] 27 (0, 0)))) := heap_alloc_new _ _
    have L2a : Hid (Later w2 (w2.alloc (.cells #[.string ⟨#[]⟩, .slice none 0 0, .int .i64 0, .int .i64 0, .int .i64 0, .bool false, .bool false, .bool false, .bool false, .bool false, .bool false, .bool false, .bool false] 27 (0, 0)))) := (Below.refl _ _).alloc (Nat.le_refl _) _
    clear hl CB
    go_wp2_with (refine wpList_store_saga (s := SagaD.zero) (by rfl) _ _ (by rfl) (by rfl) T2.out (by rfl) ?_)
    intro w3 hb3 hg
    have HLo := hide (L2.out.trans L2a.out)
    have hz : w.heap.size ≤ w2.heap.size := Below.size L2.out
    have L3 : Hid (Later w w3) := HLo.out.grown hg (Below.size HLo.out) (fun k hk => by have := Option.some.inj hk; omega)
    clear hb3 hg hz HLo
    go_wp2_with (fail)
    refine (CLV.out _).mono ?_
    rintro e w5 ⟨rfl, hl⟩
    have L5 := hide (L3.out.trans hl)
    clear hl
    go_wp2
    go_ret
    exact ⟨rfl, L5.out⟩
end
end Go.Proofs.Ytodifeoficjamaa
/- From what a row says of steps and definitions that came in to what the walks are told of them. -/
namespace Go.Proofs.Ytodifeoficjamaa
open Go.RowKit

/-- No string and no slice in the datum is too long. -/
def Sm {H : Type} (t : TypeId) (d : DataW H) : Prop := ∀ n ∈ d.weights Try.prog t, n ≤ reachBytes
theorem weights_mem_all {H : Type} {P : Program} {e : TypeId} {d : DataW H} : ∀ {l : List (DataW H)}, d ∈ l → ∀ n ∈ d.weights P e, n ∈ DataW.weightsAll P e l
  | [], h, _, _ => by cases h
  | y :: r, h, n, hn => by
    simp only [DataW.weightsAll, List.mem_append]
    rcases List.mem_cons.1 h with rfl | h
    · exact .inl hn
    · exact .inr (weights_mem_all h n hn)

section
variable {H : Type} {enc : TypeId × Value → H} {W : World}
/-- The reading of an argument. -/
abbrev Rdg (enc : TypeId × Value → H) (W : World) (n : Nat) (t : TypeId) (cs : List Value) (x : DataW H × List MemPlace) : Prop := DataW.trod enc Try.prog W 0 (fun _ => true) true n t cs = some x

/-- A struct's fields. -/
theorem open_fields {t : TypeId} {fs : Array Field} {n : Nat} {cs : List Value} {x : DataW H × List MemPlace} (ht : Try.prog.underlying t = some (.struct fs)) (h : Rdg enc W n t cs x) (hs : Sm t x.1) :
    ∃ m, cs.length = Try.prog.cellsOf t ∧ ∀ (i : Nat) (f : Field), fs[i]? = some f → ∃ y, Rdg enc W m f.type ((cs.drop f.offset).take (Try.prog.cellsOf f.type)) y ∧ Sm f.type y.1 := by
  obtain ⟨xs, m, _, hx, hl, hxl, hf⟩ := DataW.trod_struct ht h
  refine ⟨m, hl, fun i f hi => ?_⟩
  have hil : i < xs.length := by rw [hxl]; exact (Array.getElem?_eq_some_iff.1 hi).1
  refine ⟨xs[i], (hf i f hi).trans (List.getElem?_eq_getElem hil), fun k hk => hs k ?_⟩
  rw [hx]
  simp only [DataW.weights, ht]
  exact DataW.weights_mem_each (j := i) (t := f.type) (d := xs[i].1) (by simp [hi]) (by simp [hil]) k hk
theorem open_int1 {t : TypeId} {n : Nat} {c : Value} {x : DataW H × List MemPlace} (ht : Try.prog.underlying t = some (.int .i64)) (h : Rdg enc W n t [c] x) : ∃ a : Int, c = .int .i64 a ∧ I64 a := by
  obtain ⟨a, h0, _, w0⟩ := DataW.trod_int ht h
  have b0 := bounds_i64 w0
  simp only [List.cons.injEq, and_true] at h0
  exact ⟨a, h0, by unfold I64; omega⟩
theorem open_bool1 {t : TypeId} {n : Nat} {c : Value} {x : DataW H × List MemPlace} (ht : Try.prog.underlying t = some .bool) (h : Rdg enc W n t [c] x) : ∃ a : Bool, c = .bool a := by
  obtain ⟨a, h0, _⟩ := DataW.trod_bool ht h
  simp only [List.cons.injEq, and_true] at h0
  exact ⟨a, h0⟩
theorem open_str1 {t : TypeId} {n : Nat} {c : Value} {x : DataW H × List MemPlace} (ht : Try.prog.underlying t = some .string) (h : Rdg enc W n t [c] x) (hs : Sm t x.1) : ∃ s : ByteArray, c = .string s ∧ s.size ≤ 140737488355328 := by
  obtain ⟨s, h0, h1, _⟩ := DataW.trod_string ht h
  simp only [List.cons.injEq, and_true] at h0
  refine ⟨s, h0, ?_⟩
  have := hs s.data.toList.length (by rw [h1]; simp [DataW.weights])
  unfold reachBytes at this
  rw [Array.length_toList] at this
  show s.data.size ≤ _
  omega

/-- The elements of a slice. -/
theorem open_elems {α : Type} [Inhabited α] (cells : α → List Value) (good : α → Prop) {t e : TypeId} (k : Nat) (hk : 0 < k) (hck : ∀ y, (cells y).length = k) (ht : Try.prog.underlying t = some (.slice e)) (hc : Try.prog.cellsOf e = k)
    (hel : ∀ (n : Nat) (cs : List Value) (x : DataW H × List MemPlace), Rdg enc W n e cs x → Sm e x.1 → ∃ y : α, cs = cells y ∧ good y) (hone : ∀ y, good y → ∀ u ∈ cells y, u.oneCell' = true)
    {n : Nat} {v : Value} {x : DataW H × List MemPlace} (h : Rdg enc W n t [v] x) (hs : Sm t x.1) :
    ∃ ys : List α, FlatAt (· < W.heap.size) W k v ys.length (ys.flatMap cells) ∧ ∀ y ∈ ys, good y := by
  rcases Go.Deep.open_slice ht h with ⟨hcs, _⟩ | ⟨a, l, c, m, n', D, Pl, hcs, _, hl, hm, hmm, hx, hi⟩
  · obtain rfl : v = .slice none 0 0 := by simpa using hcs
    exact ⟨[], FlatAt.nil_ _ _ _, by simp⟩
  · obtain rfl : v = .slice (some a) l c := by simpa using hcs
    simp only [if_true] at hmm
    rw [hc] at hi
    obtain ⟨F, hF⟩ := Go.Deep.choose_lt (p := fun i (y : α) => (∀ j u, (cells y)[j]? = some u → W.cell? (a.add (i * k + j)) = some u) ∧ good y) fun i (hil : i < l) => by
      obtain ⟨cs', h1, h2⟩ := hi i (by omega)
      have hsm : Sm e (D i) := fun q hq => hs q (by
        rw [hx]
        simp only [DataW.weights, ht]
        exact List.mem_cons_of_mem _ (List.mem_append_left _ (weights_mem_all (List.mem_map.2 ⟨i, List.mem_range.2 hil, rfl⟩) q hq)))
      obtain ⟨y, hy, hg⟩ := hel n' cs' (D i, Pl i) h2 hsm
      obtain ⟨_, hlen, hat⟩ := World.cells?_some h1
      refine ⟨y, fun j u hu => ?_, hg⟩
      have hj : j < k := by rw [← hck y]; exact (List.getElem?_eq_some_iff.1 hu).1
      rw [← Go.Deep.add_add, hat j hj, hy, hu]
    refine ⟨(List.range l).map F, ⟨?_, ?_, some a, c, by simp, by simpa using hl, hm, (fun e => by cases e), fun hn => ?_⟩, fun y hy => ?_⟩
    · exact flat_len cells k _ (fun y _ => hck y)
    · intro u hu
      obtain ⟨y, hy, hu⟩ := List.mem_flatMap.1 hu
      obtain ⟨i, hi, rfl⟩ := List.mem_map.1 hy
      exact hone _ (hF i (List.mem_range.1 hi)).2 u hu
    · have hn' : 0 < l := by simpa using hn
      obtain ⟨b, off, spot⟩ := a
      have hk0 : (cells (F 0))[0]? = some ((cells (F 0))[0]'(by rw [hck]; exact hk)) := List.getElem?_eq_getElem (by rw [hck]; exact hk)
      have h0 := (hF 0 hn').1 0 _ hk0
      have hspot : spot = none := by simpa [Addr.add] using World.cell?_spot h0
      subst hspot
      have hblt : b < W.heap.size := World.block_lt_of_cell? W _ (by simpa [Addr.add] using h0)
      refine ⟨b, off, rfl, hblt, hblt, fun j u hj => ?_⟩
      have hjl : j < l * k := by
        have := (List.getElem?_eq_some_iff.1 hj).1
        rw [flat_len cells k _ (fun y _ => hck y)] at this
        simpa using this
      have hq : j / k < l := Nat.div_lt_of_lt_mul (by rwa [Nat.mul_comm])
      have hr : j % k < k := Nat.mod_lt _ hk
      have hj2 : j = j / k * k + j % k := by rw [Nat.mul_comm]; exact (Nat.div_add_mod j k).symm
      have hge := flat_get cells k ((List.range l).map F) (j / k) (F (j / k)) (fun y _ => hck y) (by simp [hq])
      have hu : (cells (F (j / k)))[j % k]? = some u := by
        rw [← hge, List.getElem?_take_of_lt hr, List.getElem?_drop, ← hj2, hj]
      have := (hF (j / k) hq).1 (j % k) u hu
      rwa [Addr.add_lit, ← hj2] at this
    · obtain ⟨i, hi, rfl⟩ := List.mem_map.1 hy
      exact (hF i (List.mem_range.1 hi)).2
end

instance : Inhabited StepD := ⟨⟨⟨#[]⟩, 0, 0, 0, false, false⟩⟩
instance : Inhabited (OpD × Value) := ⟨⟨.zero, .slice none 0 0⟩⟩
section
variable {H : Type} {enc : TypeId × Value → H} {W : World}
set_option maxRecDepth 100000

theorem open_step {n : Nat} {cs : List Value} {x : DataW H × List MemPlace} (h : Rdg enc W n 56 cs x) (hs : Sm 56 x.1) :
    ∃ s : StepD, cs = s.cells ∧ s.wf := by
  obtain ⟨m, hl, hf⟩ := open_fields Try.underlying56 h hs
  have hl : cs.length = 6 := hl
  match cs, hl with
  | [c0, c1, c2, c3, c4, c5], _ =>
    obtain ⟨y0, g0, s0⟩ := hf 0 _ rfl
    have g0 : Rdg enc W m 9 [c0] y0 := (congrArg (fun q => DataW.trod enc Try.prog W 0 (fun _ => true) true m 9 q) (show ([c0, c1, c2, c3, c4, c5].drop 0).take (Try.prog.cellsOf 9) = [c0] from by rw [show Try.prog.cellsOf 9 = 1 from by kernel_rfl]; rfl)).symm.trans g0
    obtain ⟨a0, e0, w0⟩ := open_str1 Try.underlying9 g0 s0
    obtain ⟨y1, g1, s1⟩ := hf 1 _ rfl
    have g1 : Rdg enc W m 3 [c1] y1 := (congrArg (fun q => DataW.trod enc Try.prog W 0 (fun _ => true) true m 3 q) (show ([c0, c1, c2, c3, c4, c5].drop 1).take (Try.prog.cellsOf 3) = [c1] from by rw [show Try.prog.cellsOf 3 = 1 from by kernel_rfl]; rfl)).symm.trans g1
    obtain ⟨a1, e1, w1⟩ := open_int1 Try.underlying3 g1
    obtain ⟨y2, g2, s2⟩ := hf 2 _ rfl
    have g2 : Rdg enc W m 3 [c2] y2 := (congrArg (fun q => DataW.trod enc Try.prog W 0 (fun _ => true) true m 3 q) (show ([c0, c1, c2, c3, c4, c5].drop 2).take (Try.prog.cellsOf 3) = [c2] from by rw [show Try.prog.cellsOf 3 = 1 from by kernel_rfl]; rfl)).symm.trans g2
    obtain ⟨a2, e2, w2⟩ := open_int1 Try.underlying3 g2
    obtain ⟨y3, g3, s3⟩ := hf 3 _ rfl
    have g3 : Rdg enc W m 3 [c3] y3 := (congrArg (fun q => DataW.trod enc Try.prog W 0 (fun _ => true) true m 3 q) (show ([c0, c1, c2, c3, c4, c5].drop 3).take (Try.prog.cellsOf 3) = [c3] from by rw [show Try.prog.cellsOf 3 = 1 from by kernel_rfl]; rfl)).symm.trans g3
    obtain ⟨a3, e3, w3⟩ := open_int1 Try.underlying3 g3
    obtain ⟨y4, g4, s4⟩ := hf 4 _ rfl
    have g4 : Rdg enc W m 4 [c4] y4 := (congrArg (fun q => DataW.trod enc Try.prog W 0 (fun _ => true) true m 4 q) (show ([c0, c1, c2, c3, c4, c5].drop 4).take (Try.prog.cellsOf 4) = [c4] from by rw [show Try.prog.cellsOf 4 = 1 from by kernel_rfl]; rfl)).symm.trans g4
    obtain ⟨a4, e4⟩ := open_bool1 Try.underlying4 g4
    obtain ⟨y5, g5, s5⟩ := hf 5 _ rfl
    have g5 : Rdg enc W m 4 [c5] y5 := (congrArg (fun q => DataW.trod enc Try.prog W 0 (fun _ => true) true m 4 q) (show ([c0, c1, c2, c3, c4, c5].drop 5).take (Try.prog.cellsOf 4) = [c5] from by rw [show Try.prog.cellsOf 4 = 1 from by kernel_rfl]; rfl)).symm.trans g5
    obtain ⟨a5, e5⟩ := open_bool1 Try.underlying4 g5
    subst e0 e1 e2 e3 e4 e5
    exact ⟨⟨a0, a1, a2, a3, a4, a5⟩, rfl, w0, w1, w2, w3⟩

theorem open_steps {n : Nat} {v : Value} {x : DataW H × List MemPlace} (h : Rdg enc W n 22 [v] x) (hs : Sm 22 x.1) : ∃ l, StepsAt (· < W.heap.size) W v l ∧ ∀ s ∈ l, s.wf := by
  obtain ⟨ys, h1, h2⟩ := open_elems StepD.cells StepD.wf 6 (by decide) StepD.len Try.underlying22 (by kernel_rfl) (fun n cs x h hs => open_step h hs) (fun y _ => y.one) h hs
  exact ⟨ys, h1, h2⟩

theorem open_def {n : Nat} {cs : List Value} {x : DataW H × List MemPlace} (h : Rdg enc W n 24 cs x) (hs : Sm 24 x.1) :
    ∃ (nm : ByteArray) (v : Value) (l : List StepD), cs = [.string nm, v] ∧ nm.size ≤ 140737488355328 ∧ StepsAt (· < W.heap.size) W v l ∧ ∀ s ∈ l, s.wf := by
  obtain ⟨m, hl, hf⟩ := open_fields Try.underlying24 h hs
  have hl : cs.length = 2 := hl
  match cs, hl with
  | [c0, c1], _ =>
    obtain ⟨y0, g0, s0⟩ := hf 0 _ rfl
    have g0 : Rdg enc W m 9 [c0] y0 := (congrArg (fun q => DataW.trod enc Try.prog W 0 (fun _ => true) true m 9 q) (show ([c0, c1].drop 0).take (Try.prog.cellsOf 9) = [c0] from by rw [show Try.prog.cellsOf 9 = 1 from by kernel_rfl]; rfl)).symm.trans g0
    obtain ⟨a0, e0, w0⟩ := open_str1 Try.underlying9 g0 s0
    obtain ⟨y1, g1, s1⟩ := hf 1 _ rfl
    have g1 : Rdg enc W m 22 [c1] y1 := (congrArg (fun q => DataW.trod enc Try.prog W 0 (fun _ => true) true m 22 q) (show ([c0, c1].drop 1).take (Try.prog.cellsOf 22) = [c1] from by rw [show Try.prog.cellsOf 22 = 1 from by kernel_rfl]; rfl)).symm.trans g1
    obtain ⟨l, hl1, hl2⟩ := open_steps g1 s1
    subst e0
    exact ⟨a0, _, l, rfl, w0, hl1, hl2⟩
/-- Arguments: a struct by value, a slice. -/
theorem sm_of {ts : List TypeId} {ds : List (DataW H)} (hsz : (DataW.weightsEach Try.prog ts ds).all (· ≤ reachBytes) = true) {j : Nat} {t : TypeId} {d : DataW H} (ht : ts[j]? = some t) (hd : ds[j]? = some d) : Sm t d := fun n hn => by
  have := List.all_eq_true.1 hsz n (DataW.weights_mem_each ht hd n hn)
  simpa using this
theorem arg_def {cs : Array Value} {d : DataW H} {p : List MemPlace} (h : DataW.Trod enc Try.prog W 0 (fun _ => true) true 24 (.agg cs) d p) (hs : Sm 24 d) :
    ∃ (nm : ByteArray) (v : Value) (l : List StepD), cs = #[.string nm, v] ∧ StepsAt (· < W.heap.size) W v l ∧ nm.size ≤ 140737488355328 ∧ ∀ s ∈ l, s.wf := by
  obtain ⟨fuel, hf⟩ := h
  obtain ⟨nm, v, l, e, h1, h2, h3⟩ := open_def (n := fuel) (x := (d, p)) hf hs
  refine ⟨nm, v, l, ?_, h2, h1, h3⟩
  have e2 : cs.toList = [.string nm, v] := e
  exact Array.toList_inj.1 (by rw [e2])
theorem arg_step {cs : Array Value} {d : DataW H} {p : List MemPlace} (h : DataW.Trod enc Try.prog W 0 (fun _ => true) true 56 (.agg cs) d p) (hs : Sm 56 d) : ∃ s : StepD, cs = s.cells.toArray ∧ s.wf := by
  obtain ⟨fuel, hf⟩ := h
  obtain ⟨s, e, wf⟩ := open_step (n := fuel) (x := (d, p)) hf hs
  refine ⟨s, ?_, wf⟩
  have e2 : cs.toList = s.cells := e
  rw [← e2]
end
end Go.Proofs.Ytodifeoficjamaa
/- From what a row says of numbers and events that came in to what the walks are told of them. -/
namespace Go.Proofs.Ytodifeoficjamaa
open Go.RowKit
def EvD.wf (e : EvD) : Prop := I64 e.kind ∧ I64 e.step ∧ I64 e.tr
theorem EvD.len (e : EvD) : e.cells.length = 5 := rfl
theorem EvD.one (e : EvD) : ∀ u ∈ e.cells, u.oneCell' = true := by
  intro u hu
  simp only [EvD.cells, List.mem_cons, List.not_mem_nil, or_false] at hu
  rcases hu with rfl | rfl | rfl | rfl | rfl <;> rfl
instance : Inhabited EvD := ⟨⟨0, 0, 0, false, false⟩⟩
def EvsAt (F : Nat → Prop) (w : World) (v : Value) (l : List EvD) : Prop := FlatAt F w 5 v l.length (l.flatMap EvD.cells)
theorem EvsAt.kept {F : Nat → Prop} {w w' : World} {v : Value} {l : List EvD} (h : EvsAt F w v l) (hk : Kept F w w') : EvsAt F w' v l := FlatAt.kept h hk
section
variable {H : Type} {enc : TypeId × Value → H} {W : World}
set_option maxRecDepth 100000
theorem open_us {n : Nat} {v : Value} {x : DataW H × List MemPlace} (h : Rdg enc W n 51 [v] x) (hs : Sm 51 x.1) : ∃ l, UsAt (· < W.heap.size) W v l ∧ ∀ a ∈ l, 0 ≤ a ∧ a < 18446744073709551616 := by
  obtain ⟨ys, h1, h2⟩ := open_elems (fun a : Int => [Value.int .u64 a]) (fun a => 0 ≤ a ∧ a < 18446744073709551616) 1 (by decide) (fun _ => rfl) Try.underlying51 (by kernel_rfl) (fun n cs x h _ => by
    obtain ⟨a, h0, _, w0⟩ := DataW.trod_int Try.underlying52 h
    have b0 := bounds_u64 w0
    exact ⟨a, h0, by omega⟩) (fun y _ u hu => by simp at hu; subst hu; rfl) h hs
  refine ⟨ys, ?_, h2⟩
  unfold UsAt
  have e : ∀ zs : List Int, (zs.flatMap fun b => [Value.int .u64 b]) = zs.map fun b => .int .u64 b := fun zs => by
    induction zs with
    | nil => rfl
    | cons z r ih => rw [List.flatMap_cons, ih]; rfl
  rw [← e]
  exact h1
theorem arg_us {A : Option Addr} {len cap : Nat} {d : DataW H} {p : List MemPlace} (h : DataW.Trod enc Try.prog W 0 (fun _ => true) true 51 (.slice A len cap) d p) (hs : Sm 51 d) : ∃ l, UsAt (· < W.heap.size) W (.slice A len cap) l ∧ ∀ a ∈ l, 0 ≤ a ∧ a < 18446744073709551616 := by
  obtain ⟨fuel, hf⟩ := h
  exact open_us (n := fuel) (x := (d, p)) hf hs
theorem open_ev {n : Nat} {cs : List Value} {x : DataW H × List MemPlace} (h : Rdg enc W n 47 cs x) (hs : Sm 47 x.1) :
    ∃ s : EvD, cs = s.cells ∧ s.wf := by
  obtain ⟨m, hl, hf⟩ := open_fields Try.underlying47 h hs
  have hl : cs.length = 5 := hl
  match cs, hl with
  | [c0, c1, c2, c3, c4], _ =>
    obtain ⟨y0, g0, _⟩ := hf 0 _ rfl
    have g0 : Rdg enc W m 3 [c0] y0 := (congrArg (fun q => DataW.trod enc Try.prog W 0 (fun _ => true) true m 3 q) (show ([c0, c1, c2, c3, c4].drop 0).take (Try.prog.cellsOf 3) = [c0] from by rw [show Try.prog.cellsOf 3 = 1 from by kernel_rfl]; rfl)).symm.trans g0
    obtain ⟨a0, e0, w0⟩ := open_int1 Try.underlying3 g0
    obtain ⟨y1, g1, _⟩ := hf 1 _ rfl
    have g1 : Rdg enc W m 3 [c1] y1 := (congrArg (fun q => DataW.trod enc Try.prog W 0 (fun _ => true) true m 3 q) (show ([c0, c1, c2, c3, c4].drop 1).take (Try.prog.cellsOf 3) = [c1] from by rw [show Try.prog.cellsOf 3 = 1 from by kernel_rfl]; rfl)).symm.trans g1
    obtain ⟨a1, e1, w1⟩ := open_int1 Try.underlying3 g1
    obtain ⟨y2, g2, _⟩ := hf 2 _ rfl
    have g2 : Rdg enc W m 3 [c2] y2 := (congrArg (fun q => DataW.trod enc Try.prog W 0 (fun _ => true) true m 3 q) (show ([c0, c1, c2, c3, c4].drop 2).take (Try.prog.cellsOf 3) = [c2] from by rw [show Try.prog.cellsOf 3 = 1 from by kernel_rfl]; rfl)).symm.trans g2
    obtain ⟨a2, e2, w2⟩ := open_int1 Try.underlying3 g2
    obtain ⟨y3, g3, _⟩ := hf 3 _ rfl
    have g3 : Rdg enc W m 4 [c3] y3 := (congrArg (fun q => DataW.trod enc Try.prog W 0 (fun _ => true) true m 4 q) (show ([c0, c1, c2, c3, c4].drop 3).take (Try.prog.cellsOf 4) = [c3] from by rw [show Try.prog.cellsOf 4 = 1 from by kernel_rfl]; rfl)).symm.trans g3
    obtain ⟨a3, e3⟩ := open_bool1 Try.underlying4 g3
    obtain ⟨y4, g4, _⟩ := hf 4 _ rfl
    have g4 : Rdg enc W m 4 [c4] y4 := (congrArg (fun q => DataW.trod enc Try.prog W 0 (fun _ => true) true m 4 q) (show ([c0, c1, c2, c3, c4].drop 4).take (Try.prog.cellsOf 4) = [c4] from by rw [show Try.prog.cellsOf 4 = 1 from by kernel_rfl]; rfl)).symm.trans g4
    obtain ⟨a4, e4⟩ := open_bool1 Try.underlying4 g4
    subst e0 e1 e2 e3 e4
    exact ⟨⟨a0, a1, a2, a3, a4⟩, rfl, w0, w1, w2⟩
theorem open_evs {n : Nat} {v : Value} {x : DataW H × List MemPlace} (h : Rdg enc W n 45 [v] x) (hs : Sm 45 x.1) : ∃ l, EvsAt (· < W.heap.size) W v l ∧ ∀ s ∈ l, s.wf := by
  obtain ⟨ys, h1, h2⟩ := open_elems EvD.cells EvD.wf 5 (by decide) EvD.len Try.underlying45 (by kernel_rfl) (fun n cs x h hs => open_ev h hs) (fun y _ => y.one) h hs
  exact ⟨ys, h1, h2⟩
theorem arg_evs {A : Option Addr} {len cap : Nat} {d : DataW H} {p : List MemPlace} (h : DataW.Trod enc Try.prog W 0 (fun _ => true) true 45 (.slice A len cap) d p) (hs : Sm 45 d) : ∃ l, EvsAt (· < W.heap.size) W (.slice A len cap) l ∧ ∀ s ∈ l, s.wf := by
  obtain ⟨fuel, hf⟩ := h
  exact open_evs (n := fuel) (x := (d, p)) hf hs
theorem flat_small {F : Nat → Prop} {w : World} {k : Nat} {v : Value} {n : Nat} {xs : List Value} (h : FlatAt F w k v n xs) : n ≤ 9223372036854775807 := by
  obtain ⟨A, c, _, h1, h2, _⟩ := FlatAt.shape h
  unfold maxLen at h2
  omega
theorem law_endsW (nm : ByteArray) (v : Value) (l : List StepD) (v2 : Value) (ks : List Int) (w : World) (h1 : StepsAt (· < w.heap.size) w v l) (_ : nm.size ≤ 140737488355328) (hwf : ∀ s ∈ l, s.wf) (h2 : UsAt (· < w.heap.size) w v2 ks) (hk : ∀ a ∈ ks, 0 ≤ a ∧ a < 18446744073709551616) :
    Calls Try.prog 5 #[.agg #[.string nm, v], v2] w fun e w' => e = .returned (.bool true) ∧ Later w w' := law_ends h1 (flat_small h1) hwf h2 (flat_small h2) hk
end
end Go.Proofs.Ytodifeoficjamaa
