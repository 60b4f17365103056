/- Texts merged: SagE, SagF, SagG, SagI, Build, SagJ. -/
import Derived.Test.YtpckdhjnhnonhaaGreatBaseS1
import Derived.Test.YtpckdhjnhnonhaaGreatBaseS2
import Derived.RegionTactic
import Derived.BigRegion
import Derived.Laws.Tables
/- May there be such a saga? What does it want? -/
namespace Go.Proofs.YtpckdhjnhnonhaaGreat
open Go.RowKit
theorem tries_pos {l : List StepD} {k : Int} (h : 0 < triesN l k) : 1 ≤ k ∧ k ≤ (l.length : Int) := by
  by_cases hk : k < 1 ∨ (l.length : Int) < k
  · rw [triesN_no hk] at h; omega
  · omega
theorem steps_n {F : Nat → Prop} {w : World} {s : SagaD} {l : List StepD} (h : StepsAt F w s.v l) : s.n = l.length := by
  obtain ⟨A, c, hv, _, _, _⟩ := FlatAt.shape h
  unfold SagaD.v at hv
  injection hv
section
variable {w : World}
set_option maxHeartbeats 8000000 in
theorem good_err {F : Nat → Prop} {s : SagaD} {l : List StepD} (h : StepsAt F w s.v l) (hw : ∀ x ∈ l, x.wf) (h1 : I64 s.step) (he : (checkF s.name l).2 ≠ 0) : Calls Tryz.prog 45 #[s.val] w (Gives (.bool false) w) := by
  obtain ⟨W1, hW1⟩ : ∃ W1, W1 = (w.alloc (.cells s.cells.toArray 36 (0, 0))) := ⟨_, rfl⟩
  obtain ⟨g, hg⟩ : ∃ g, g = w.heap.size := ⟨_, rfl⟩
  have X1 : Hid (SBox 36 g s W1) := by rw [hW1, hg]; exact heap_alloc_new _ _
  have L1 : Hid (Later w W1) := by rw [hW1]; exact (Below.refl _ _).alloc (Nat.le_refl _) _
  have HG0 : Hid (w.heap.size ≤ g) := Nat.le_of_eq hg.symm
  have CC : Hid (Calls Tryz.prog 75 #[.agg #[.string s.name, .slice s.p s.n s.c]] W1 fun e w' => e = .returned (.tuple #[.int .i64 (((checkF s.name l).1 : Nat) : Int), .int .i64 (((checkF s.name l).2 : Nat) : Int)]) ∧ Later W1 w') := check_any (StepsAt.kept h (Kept.of_below L1.out _))
  have C : Hid (∀ W, Later W1 W → Calls Tryz.prog 76 #[.agg #[.string s.name, .slice s.p s.n s.c], .int .i64 s.step] W fun e w' => e = .returned (.int .i64 (triesN l s.step)) ∧ Later W w') := fun W hW => Tries_any (StepsAt.kept h (Kept.of_below (L1.out.trans hW) _)) h1 hw
  have HS : Hid (∀ W, Later W1 W → StepsAt F W s.v l) := fun W hW => StepsAt.kept h (Kept.of_below (L1.out.trans hW) _)
  obtain ⟨k1, hk1⟩ : ∃ k1, (checkF s.name l).1 = k1 := ⟨_, rfl⟩
  obtain ⟨k2, hk2⟩ : ∃ k2, (checkF s.name l).2 = k2 := ⟨_, rfl⟩
  rw [hk1, hk2] at CC
  have HN := hide (steps_n h)
  have HW1 := hide hW1.symm
  have HG := hide hg.symm
  clear hW1 hg h hk1 h1 hw
  have e0 := X1.out.c0
  have e1 := X1.out.c1
  rw [← HW1.out, ← HG.out] at e0 e1
  have hb : ((k2 : Int) == 0) = false := by rw [beq_eq_false_iff_ne]; omega
  clear he hk2 C HS HN
  go_enter Tryz.func45, Tryz.ntmps45
  go_wp2_with (fail)
  simp only [HW1.out, HG.out]
  refine CC.out.mono ?_
  rintro e w2 ⟨rfl, hl⟩
  have L12 := hide hl
  have L2 := hide (L1.out.trans hl)
  have X2 := hide (X1.out.below hl)
  clear hl CC e0 e1
  go_wp2
  go_ret
  exact ⟨rfl, L2.out⟩
set_option maxHeartbeats 8000000 in
theorem good_run {F : Nat → Prop} {s : SagaD} {l : List StepD} (h : StepsAt F w s.v l) (hw : ∀ x ∈ l, x.wf) (h1 : I64 s.step) (he : (checkF s.name l).2 = 0) (hst : s.st = 1) : Calls Tryz.prog 45 #[s.val] w (Gives (.bool (decide (1 ≤ s.tr) && (decide (s.tr ≤ triesN l s.step) && cameF s))) w) := by
  obtain ⟨W1, hW1⟩ : ∃ W1, W1 = (w.alloc (.cells s.cells.toArray 36 (0, 0))) := ⟨_, rfl⟩
  obtain ⟨g, hg⟩ : ∃ g, g = w.heap.size := ⟨_, rfl⟩
  have X1 : Hid (SBox 36 g s W1) := by rw [hW1, hg]; exact heap_alloc_new _ _
  have L1 : Hid (Later w W1) := by rw [hW1]; exact (Below.refl _ _).alloc (Nat.le_refl _) _
  have HG0 : Hid (w.heap.size ≤ g) := Nat.le_of_eq hg.symm
  have CC : Hid (Calls Tryz.prog 75 #[.agg #[.string s.name, .slice s.p s.n s.c]] W1 fun e w' => e = .returned (.tuple #[.int .i64 (((checkF s.name l).1 : Nat) : Int), .int .i64 (((checkF s.name l).2 : Nat) : Int)]) ∧ Later W1 w') := check_any (StepsAt.kept h (Kept.of_below L1.out _))
  have C : Hid (∀ W, Later W1 W → Calls Tryz.prog 76 #[.agg #[.string s.name, .slice s.p s.n s.c], .int .i64 s.step] W fun e w' => e = .returned (.int .i64 (triesN l s.step)) ∧ Later W w') := fun W hW => Tries_any (StepsAt.kept h (Kept.of_below (L1.out.trans hW) _)) h1 hw
  have HS : Hid (∀ W, Later W1 W → StepsAt F W s.v l) := fun W hW => StepsAt.kept h (Kept.of_below (L1.out.trans hW) _)
  obtain ⟨k1, hk1⟩ : ∃ k1, (checkF s.name l).1 = k1 := ⟨_, rfl⟩
  obtain ⟨k2, hk2⟩ : ∃ k2, (checkF s.name l).2 = k2 := ⟨_, rfl⟩
  rw [hk1, hk2] at CC
  have HN := hide (steps_n h)
  have HW1 := hide hW1.symm
  have HG := hide hg.symm
  clear hW1 hg h hk1 h1 hw
  have e0 := X1.out.c0
  have e1 := X1.out.c1
  rw [← HW1.out, ← HG.out] at e0 e1
  obtain ⟨T, hT⟩ : ∃ T, triesN l s.step = T := ⟨_, rfl⟩
  rw [hT] at C
  obtain rfl : k2 = 0 := by rw [← hk2]; exact he
  obtain ⟨R, hR⟩ : ∃ R, (decide (1 ≤ s.tr) && (decide (s.tr ≤ triesN l s.step) && cameF s)) = R := ⟨_, rfl⟩
  rw [hR]
  have HR : Hid (R = (decide (1 ≤ s.tr) && (decide (s.tr ≤ T) && cameF s))) := by show _ = _; rw [← hR, hT]
  have h8 := (check_good he).1
  have HT : Hid (1 ≤ s.tr → s.tr ≤ T → ∀ W, Calls Tryz.prog 77 #[s.val] W (Gives (.bool (cameF s)) W)) := fun g1 g2 W => by
    have := tries_pos (l := l) (k := s.step) (by omega)
    exact came_any this.1 (by omega)
  clear hR hT h8
  clear he hk2
  go_enter Tryz.func45, Tryz.ntmps45
  go_wp2_with (fail)
  simp only [HW1.out, HG.out]
  refine CC.out.mono ?_
  rintro e w2 ⟨rfl, hl⟩
  have L12 := hide hl
  have L2 := hide (L1.out.trans hl)
  have X2 := hide (X1.out.below hl)
  clear hl CC e0 e1
  have d0 := X2.out.c0
  have d1 := X2.out.c1
  have d3 := X2.out.c3
  go_wp2_with (fail)
  refine (C.out _ L12.out).mono ?_
  rintro e w3 ⟨rfl, hl⟩
  have L13 := hide (L12.out.trans hl)
  have L3 := hide (L2.out.trans hl)
  have X3 := hide (X2.out.below hl)
  clear hl C d0 d1 d3
  have c2 := X3.out.c2
  rw [hst] at c2
  clear hst
  have c4 := X3.out.c4
  by_cases g1 : 1 ≤ s.tr
  · by_cases g2 : s.tr ≤ T
    · obtain rfl : R = cameF s := by rw [HR.out]; simp [g1, g2]
      have CM := hide (HT.out g1 g2)
      go_wp2_with (refine wpList_val rfl (by rfl) (exec_load_saga _ (by rfl) (by rfl) X3.out) ?_)
      refine (CM.out _).mono ?_
      rintro e w4 ⟨rfl, hl⟩
      have L4 := hide (L3.out.trans hl)
      clear hl
      go_wp2
      go_ret
      exact ⟨rfl, L4.out⟩
    · obtain rfl : R = false := by rw [HR.out]; simp [g2]
      go_wp2
      go_ret
      exact ⟨rfl, L3.out⟩
  · obtain rfl : R = false := by rw [HR.out]; simp [g1]
    go_wp2
    go_ret
    exact ⟨rfl, L3.out⟩
set_option maxHeartbeats 8000000 in
theorem good_stuck {F : Nat → Prop} {s : SagaD} {l : List StepD} (h : StepsAt F w s.v l) (hw : ∀ x ∈ l, x.wf) (h1 : I64 s.step) (he : (checkF s.name l).2 = 0) (hst : s.st = 5) : Calls Tryz.prog 45 #[s.val] w (Gives (.bool (decide (s.tr = 0) && (decide (0 < triesN l s.step) && cameF s))) w) := by
  obtain ⟨W1, hW1⟩ : ∃ W1, W1 = (w.alloc (.cells s.cells.toArray 36 (0, 0))) := ⟨_, rfl⟩
  obtain ⟨g, hg⟩ : ∃ g, g = w.heap.size := ⟨_, rfl⟩
  have X1 : Hid (SBox 36 g s W1) := by rw [hW1, hg]; exact heap_alloc_new _ _
  have L1 : Hid (Later w W1) := by rw [hW1]; exact (Below.refl _ _).alloc (Nat.le_refl _) _
  have HG0 : Hid (w.heap.size ≤ g) := Nat.le_of_eq hg.symm
  have CC : Hid (Calls Tryz.prog 75 #[.agg #[.string s.name, .slice s.p s.n s.c]] W1 fun e w' => e = .returned (.tuple #[.int .i64 (((checkF s.name l).1 : Nat) : Int), .int .i64 (((checkF s.name l).2 : Nat) : Int)]) ∧ Later W1 w') := check_any (StepsAt.kept h (Kept.of_below L1.out _))
  have C : Hid (∀ W, Later W1 W → Calls Tryz.prog 76 #[.agg #[.string s.name, .slice s.p s.n s.c], .int .i64 s.step] W fun e w' => e = .returned (.int .i64 (triesN l s.step)) ∧ Later W w') := fun W hW => Tries_any (StepsAt.kept h (Kept.of_below (L1.out.trans hW) _)) h1 hw
  have HS : Hid (∀ W, Later W1 W → StepsAt F W s.v l) := fun W hW => StepsAt.kept h (Kept.of_below (L1.out.trans hW) _)
  obtain ⟨k1, hk1⟩ : ∃ k1, (checkF s.name l).1 = k1 := ⟨_, rfl⟩
  obtain ⟨k2, hk2⟩ : ∃ k2, (checkF s.name l).2 = k2 := ⟨_, rfl⟩
  rw [hk1, hk2] at CC
  have HN := hide (steps_n h)
  have HW1 := hide hW1.symm
  have HG := hide hg.symm
  clear hW1 hg h hk1 h1 hw
  have e0 := X1.out.c0
  have e1 := X1.out.c1
  rw [← HW1.out, ← HG.out] at e0 e1
  obtain ⟨T, hT⟩ : ∃ T, triesN l s.step = T := ⟨_, rfl⟩
  rw [hT] at C
  obtain rfl : k2 = 0 := by rw [← hk2]; exact he
  obtain ⟨R, hR⟩ : ∃ R, (decide (s.tr = 0) && (decide (0 < triesN l s.step) && cameF s)) = R := ⟨_, rfl⟩
  rw [hR]
  have HR : Hid (R = (decide (s.tr = 0) && (decide (0 < T) && cameF s))) := by show _ = _; rw [← hR, hT]
  have h8 := (check_good he).1
  have HT : Hid (0 < T → ∀ W, Calls Tryz.prog 77 #[s.val] W (Gives (.bool (cameF s)) W)) := fun g2 W => by
    have := tries_pos (l := l) (k := s.step) (by omega)
    exact came_any this.1 (by omega)
  clear hR hT h8
  clear he hk2
  go_enter Tryz.func45, Tryz.ntmps45
  go_wp2_with (fail)
  simp only [HW1.out, HG.out]
  refine CC.out.mono ?_
  rintro e w2 ⟨rfl, hl⟩
  have L12 := hide hl
  have L2 := hide (L1.out.trans hl)
  have X2 := hide (X1.out.below hl)
  clear hl CC e0 e1
  have d0 := X2.out.c0
  have d1 := X2.out.c1
  have d3 := X2.out.c3
  go_wp2_with (fail)
  refine (C.out _ L12.out).mono ?_
  rintro e w3 ⟨rfl, hl⟩
  have L13 := hide (L12.out.trans hl)
  have L3 := hide (L2.out.trans hl)
  have X3 := hide (X2.out.below hl)
  clear hl C d0 d1 d3
  have c2 := X3.out.c2
  rw [hst] at c2
  clear hst
  have c4 := X3.out.c4
  by_cases g1 : s.tr = 0
  · rw [g1] at c4
    by_cases g2 : 0 < T
    · obtain rfl : R = cameF s := by rw [HR.out]; simp [g1, g2]
      have CM := hide (HT.out g2)
      clear g1
      go_wp2_with (refine wpList_val rfl (by rfl) (exec_load_saga _ (by rfl) (by rfl) X3.out) ?_)
      refine (CM.out _).mono ?_
      rintro e w4 ⟨rfl, hl⟩
      have L4 := hide (L3.out.trans hl)
      clear hl
      go_wp2
      go_ret
      exact ⟨rfl, L4.out⟩
    · obtain rfl : R = false := by rw [HR.out]; simp [g2]
      clear g1
      go_wp2
      go_ret
      exact ⟨rfl, L3.out⟩
  · obtain rfl : R = false := by rw [HR.out]; simp [g1]
    have hb : (s.tr == 0) = false := by rw [beq_eq_false_iff_ne]; exact g1
    clear g1
    go_wp2
    go_ret
    exact ⟨rfl, L3.out⟩
set_option maxHeartbeats 8000000 in
theorem good_undo {F : Nat → Prop} {s : SagaD} {l : List StepD} (h : StepsAt F w s.v l) (hw : ∀ x ∈ l, x.wf) (h1 : I64 s.step) (he : (checkF s.name l).2 = 0) (hst : s.st = 2) : Calls Tryz.prog 45 #[s.val] w (Gives (.bool (decide (1 ≤ s.tr) && (decide (s.tr ≤ triesN l s.step) && (decide (s.hit = upH s.step) && undoAt l s.step)))) w) := by
  obtain ⟨W1, hW1⟩ : ∃ W1, W1 = (w.alloc (.cells s.cells.toArray 36 (0, 0))) := ⟨_, rfl⟩
  obtain ⟨g, hg⟩ : ∃ g, g = w.heap.size := ⟨_, rfl⟩
  have X1 : Hid (SBox 36 g s W1) := by rw [hW1, hg]; exact heap_alloc_new _ _
  have L1 : Hid (Later w W1) := by rw [hW1]; exact (Below.refl _ _).alloc (Nat.le_refl _) _
  have HG0 : Hid (w.heap.size ≤ g) := Nat.le_of_eq hg.symm
  have CC : Hid (Calls Tryz.prog 75 #[.agg #[.string s.name, .slice s.p s.n s.c]] W1 fun e w' => e = .returned (.tuple #[.int .i64 (((checkF s.name l).1 : Nat) : Int), .int .i64 (((checkF s.name l).2 : Nat) : Int)]) ∧ Later W1 w') := check_any (StepsAt.kept h (Kept.of_below L1.out _))
  have C : Hid (∀ W, Later W1 W → Calls Tryz.prog 76 #[.agg #[.string s.name, .slice s.p s.n s.c], .int .i64 s.step] W fun e w' => e = .returned (.int .i64 (triesN l s.step)) ∧ Later W w') := fun W hW => Tries_any (StepsAt.kept h (Kept.of_below (L1.out.trans hW) _)) h1 hw
  have HS : Hid (∀ W, Later W1 W → StepsAt F W s.v l) := fun W hW => StepsAt.kept h (Kept.of_below (L1.out.trans hW) _)
  obtain ⟨k1, hk1⟩ : ∃ k1, (checkF s.name l).1 = k1 := ⟨_, rfl⟩
  obtain ⟨k2, hk2⟩ : ∃ k2, (checkF s.name l).2 = k2 := ⟨_, rfl⟩
  rw [hk1, hk2] at CC
  have HN := hide (steps_n h)
  have HW1 := hide hW1.symm
  have HG := hide hg.symm
  clear hW1 hg h hk1 h1 hw
  have e0 := X1.out.c0
  have e1 := X1.out.c1
  rw [← HW1.out, ← HG.out] at e0 e1
  obtain ⟨T, hT⟩ : ∃ T, triesN l s.step = T := ⟨_, rfl⟩
  rw [hT] at C
  obtain rfl : k2 = 0 := by rw [← hk2]; exact he
  have CU : Hid (∀ (W : World) (k : Int), k ≤ 8 → Calls Tryz.prog 78 #[.int .i64 k] W (Gives (upH k).val W)) := fun W k hk => upTo_any k hk
  obtain ⟨R, hR⟩ : ∃ R, (decide (1 ≤ s.tr) && (decide (s.tr ≤ triesN l s.step) && (decide (s.hit = upH s.step) && undoAt l s.step))) = R := ⟨_, rfl⟩
  rw [hR]
  have HR : Hid (R = (decide (1 ≤ s.tr) && (decide (s.tr ≤ T) && (decide (s.hit = upH s.step) && undoAt l s.step)))) := by show _ = _; rw [← hR, hT]
  have h8 := (check_good he).1
  have HT : Hid (1 ≤ s.tr → s.tr ≤ T → 1 ≤ s.step ∧ s.step ≤ (l.length : Int) ∧ s.step ≤ 8) := fun g1 g2 => by
    have := tries_pos (l := l) (k := s.step) (by omega)
    exact ⟨this.1, this.2, by omega⟩
  clear hR hT h8
  clear he hk2
  go_enter Tryz.func45, Tryz.ntmps45
  go_wp2_with (fail)
  simp only [HW1.out, HG.out]
  refine CC.out.mono ?_
  rintro e w2 ⟨rfl, hl⟩
  have L12 := hide hl
  have L2 := hide (L1.out.trans hl)
  have X2 := hide (X1.out.below hl)
  clear hl CC e0 e1
  have d0 := X2.out.c0
  have d1 := X2.out.c1
  have d3 := X2.out.c3
  go_wp2_with (fail)
  refine (C.out _ L12.out).mono ?_
  rintro e w3 ⟨rfl, hl⟩
  have L13 := hide (L12.out.trans hl)
  have L3 := hide (L2.out.trans hl)
  have X3 := hide (X2.out.below hl)
  clear hl C d0 d1 d3
  have c2 := X3.out.c2
  rw [hst] at c2
  clear hst
  by_cases g1 : 1 ≤ s.tr
  · by_cases g2 : s.tr ≤ T
    · have gs := HT.out g1 g2
      obtain ⟨gs1, gs2, gs3⟩ := gs
      by_cases g3 : s.hit = upH s.step
      · obtain rfl : R = undoAt l s.step := by rw [HR.out, decide_eq_true g1, decide_eq_true g2, decide_eq_true g3]; rfl
        have HE := hide (decide_eq_true g3)
        obtain ⟨q, hq⟩ : ∃ q : Nat, s.step = (q : Int) + 1 := ⟨(s.step - 1).toNat, by omega⟩
        have HK := hide hq
        have hql : q < l.length := by omega
        obtain ⟨x, b, off, c', hx, hvv, _, _, hb, hr⟩ := StepsAt.at_ (HS.out w3 L13.out) (i := q) hql
        have HU : Hid (undoAt l s.step = x.undo) := by show _ = _; unfold undoAt; rw [hq, show ((q : Int) + 1 - 1).toNat = q from by omega, hx]; rfl
        have hwr : IntKind.i64.wrap (q : Int) = (q : Int) := wrap_fits (by omega)
        have hv1 : s.p = some ⟨b, off, none⟩ := by
          unfold SagaD.v at hvv
          injection hvv
        have HV := hide hv1
        obtain ⟨r0, r1, r2, r3, r4, r5⟩ := range_step hr
        have hbl := hb
        have HR4 : Hid (∀ W, Later w3 W → W.cell? ⟨b, off + q * 6 + 4, none⟩ = some (.bool x.undo)) := fun W hW => (Below.cell hW (p := ⟨b, off + q * 6 + 4, none⟩) hbl).trans r4
        have hqn : q < s.n := by rw [HN.out]; exact hql
        clear hx hvv hr r0 r1 r2 r3 r4 r5 hq g3 gs1 gs2 hb hbl hv1
        go_wp2_with (fail)
        have XD := hide (show SBox 36 g s w3.drew from X3.out)
        have LD := hide (L3.out.trans (Later.drew w3))
        have LD1 := hide (L13.out.trans (Later.drew w3))
        refine wp_region_L (by kernel_rfl) ?_
        refine wpAnyL_take (i := 0) (d := some 38) (v := ?vad0) rfl rfl (by kernel_rfl) (by kernel_rfl) (by kernel_rfl) (fun _ _ _ h => h) (by rfl) ?yad0 ?_
        case yad0 => (intro w' hw'; go_simp; try (with_reducible rfl))
        simp only [Act.put]; try simp only [sA_, sZ_, sS_]
        refine wpAnyL_take (i := 1) (d := some 39) (v := ?vad1) rfl rfl (by kernel_rfl) (by kernel_rfl) (by kernel_rfl) (fun _ _ _ h => h) (by rfl) ?yad1 ?_
        case yad1 => (intro w' hw'; have c4 := (XD.out.below hw').c4; go_simp; try (with_reducible rfl))
        simp only [Act.put]; try simp only [sA_, sZ_, sS_]
        refine wpAnyL_take (i := 2) (d := some 40) (v := .bool true) rfl rfl (by kernel_rfl) (by kernel_rfl) (by kernel_rfl) (fun _ _ _ h => h) (by rfl) ?yad2 ?_
        case yad2 => (intro w' hw'; go_simp <;> omega)
        simp only [Act.put]; try simp only [sA_, sZ_, sS_]
        refine wpAnyL_take (i := 3) (d := some 41) (v := ?vad3) rfl rfl (by kernel_rfl) (by kernel_rfl) (by kernel_rfl) (fun _ _ _ h => h) (by rfl) ?yad3 ?_
        case yad3 => (intro w' hw'; go_simp; try (with_reducible rfl))
        simp only [Act.put]; try simp only [sA_, sZ_, sS_]
        refine wpAnyL_take (i := 4) (d := some 42) (v := ?vad4) rfl rfl (by kernel_rfl) (by kernel_rfl) (by kernel_rfl) (fun _ _ _ h => h) (by rfl) ?yad4 ?_
        case yad4 => (intro w' hw'; go_simp; try (with_reducible rfl))
        simp only [Act.put]; try simp only [sA_, sZ_, sS_]
        refine wpAnyL_take (i := 5) (d := some 43) (v := ?vad5) rfl rfl (by kernel_rfl) (by kernel_rfl) (by kernel_rfl) (fun _ _ _ h => h) (by rfl) ?yad5 ?_
        case yad5 => (intro w' hw'; have c4 := (XD.out.below hw').c4; go_simp; try (with_reducible rfl))
        simp only [Act.put]; try simp only [sA_, sZ_, sS_]
        refine wpAnyL_take (i := 6) (d := some 44) (v := ?vad6) rfl rfl (by kernel_rfl) (by kernel_rfl) (by kernel_rfl) (fun _ _ _ h => h) (by rfl) ?yad6 ?_
        case yad6 => (intro w' hw'; go_simp; try (with_reducible rfl))
        simp only [Act.put]; try simp only [sA_, sZ_, sS_]
        refine wpAnyL_take (i := 7) (d := some 45) (v := .bool true) rfl rfl (by kernel_rfl) (by kernel_rfl) (by kernel_rfl) (fun _ _ _ h => h) (by rfl) ?yad7 ?_
        case yad7 => (intro w' hw'; go_simp <;> omega)
        simp only [Act.put]; try simp only [sA_, sZ_, sS_]
        refine wpAnyL_take (i := 8) (d := some 46) (v := ?vad8) rfl rfl (by kernel_rfl) (by kernel_rfl) (by kernel_rfl) (fun _ _ _ h => h) (by rfl) ?yad8 ?_
        case yad8 => (intro w' hw'; go_simp; try (with_reducible rfl))
        simp only [Act.put]; try simp only [sA_, sZ_, sS_]
        refine wpAnyL_take (i := 9) (d := some 47) (v := ?vad9) rfl rfl (by kernel_rfl) (by kernel_rfl) (by kernel_rfl) (fun _ _ _ h => h) (by rfl) ?yad9 ?_
        case yad9 => (intro w' hw'; go_simp; try (with_reducible rfl))
        simp only [Act.put]; try simp only [sA_, sZ_, sS_]
        refine wpAnyL_take (i := 10) (d := some 48) (v := ?vad10) rfl rfl (by kernel_rfl) (by kernel_rfl) (by kernel_rfl) (fun _ _ _ h => h) (by rfl) ?yad10 ?_
        case yad10 => (intro w' hw'; go_simp; try (with_reducible rfl))
        simp only [Act.put]; try simp only [sA_, sZ_, sS_]
        refine wpAnyL_take (i := 11) (d := some 49) (v := s.hit.val) rfl rfl (by kernel_rfl) (by kernel_rfl) (by kernel_rfl) (fun _ _ _ h => h) (by rfl) ?yad11 ?_
        case yad11 => (intro w' hw'; exact exec_load_hits _ (by rfl) (by rfl) (XD.out.below hw'))
        simp only [Act.put]; try simp only [sA_, sZ_, sS_]
        refine wpAnyL_take (i := 12) (d := some 50) (v := ?vad12) rfl rfl (by kernel_rfl) (by kernel_rfl) (by kernel_rfl) (fun _ _ _ h => h) (by rfl) ?yad12 ?_
        case yad12 => (intro w' hw'; go_simp; try (with_reducible rfl))
        simp only [Act.put]; try simp only [sA_, sZ_, sS_]
        refine wpAnyL_take (i := 13) (d := some 51) (v := ?vad13) rfl rfl (by kernel_rfl) (by kernel_rfl) (by kernel_rfl) (fun _ _ _ h => h) (by rfl) ?yad13 ?_
        case yad13 => (intro w' hw'; have c3 := (XD.out.below hw').c3; go_simp; try (with_reducible rfl))
        simp only [Act.put]; try simp only [sA_, sZ_, sS_]
        refine wpAnyL_only (i := 14) rfl (by kernel_rfl) (by rfl) fun K hK => ?_
        go_simp
        refine (CU.out _ _ (by omega)).mono ?_
        rintro e w_14 ⟨rfl, hl_⟩
        have L14 := hide (LD.out.trans hl_)
        have L114 := hide (LD1.out.trans hl_)
        have L314 := hide ((Later.drew w3).trans hl_)
        have X14 := hide (XD.out.below hl_)
        refine hK.out _ _ hl_ ?_
        clear hl_
        clear hK K
        try (simp only [Act.put]; try simp only [sA_, sZ_, sS_])
        refine wpAnyL_take (i := 15) (d := some 53) (v := .bool true) rfl rfl (by kernel_rfl) (by kernel_rfl) (by kernel_rfl) (fun _ _ _ h => h) (by rfl) ?yad15 ?_
        case yad15 => (intro w' hw'; exact (exec_eql_hits s.hit (upH s.step) _ _ _ (by rfl) (by rfl) (by rfl)).trans (by rw [HE.out]))
        simp only [Act.put]; try simp only [sA_, sZ_, sS_]
        refine wpAnyL_take (i := 16) (d := some 54) (v := ?vad16) rfl rfl (by kernel_rfl) (by kernel_rfl) (by kernel_rfl) (fun _ _ _ h => h) (by rfl) ?yad16 ?_
        case yad16 => (intro w' hw'; go_simp; try (with_reducible rfl))
        simp only [Act.put]; try simp only [sA_, sZ_, sS_]
        refine wpAnyL_take (i := 17) (d := some 55) (v := ?vad17) rfl rfl (by kernel_rfl) (by kernel_rfl) (by kernel_rfl) (fun _ _ _ h => h) (by rfl) ?yad17 ?_
        case yad17 => (intro w' hw'; go_simp; try (with_reducible rfl))
        simp only [Act.put]; try simp only [sA_, sZ_, sS_]
        refine wpAnyL_take (i := 18) (d := some 56) (v := ?vad18) rfl rfl (by kernel_rfl) (by kernel_rfl) (by kernel_rfl) (fun _ _ _ h => h) (by rfl) ?yad18 ?_
        case yad18 => (intro w' hw'; go_simp; try (with_reducible rfl))
        simp only [Act.put]; try simp only [sA_, sZ_, sS_]
        refine wpAnyL_take (i := 19) (d := some 57) (v := ?vad19) rfl rfl (by kernel_rfl) (by kernel_rfl) (by kernel_rfl) (fun _ _ _ h => h) (by rfl) ?yad19 ?_
        case yad19 => (intro w' hw'; go_simp; try (with_reducible rfl))
        simp only [Act.put]; try simp only [sA_, sZ_, sS_]
        refine wpAnyL_take (i := 20) (d := some 58) (v := ?vad20) rfl rfl (by kernel_rfl) (by kernel_rfl) (by kernel_rfl) (fun _ _ _ h => h) (by rfl) ?yad20 ?_
        case yad20 => (intro w' hw'; have c1 := (X14.out.below hw').c1; rw [HV.out] at c1; go_simp; try (with_reducible rfl))
        simp only [Act.put]; try simp only [sA_, sZ_, sS_]
        refine wpAnyL_take (i := 21) (d := some 59) (v := ?vad21) rfl rfl (by kernel_rfl) (by kernel_rfl) (by kernel_rfl) (fun _ _ _ h => h) (by rfl) ?yad21 ?_
        case yad21 => (intro w' hw'; go_simp; try (with_reducible rfl))
        simp only [Act.put]; try simp only [sA_, sZ_, sS_]
        refine wpAnyL_take (i := 22) (d := some 60) (v := ?vad22) rfl rfl (by kernel_rfl) (by kernel_rfl) (by kernel_rfl) (fun _ _ _ h => h) (by rfl) ?yad22 ?_
        case yad22 => (intro w' hw'; have c3 := (X14.out.below hw').c3; rw [HK.out] at c3; go_simp; try (with_reducible rfl))
        simp only [Act.put]; try simp only [sA_, sZ_, sS_]
        refine wpAnyL_take (i := 23) (d := some 61) (v := .int .i64 (q : Int)) rfl rfl (by kernel_rfl) (by kernel_rfl) (by kernel_rfl) (fun _ _ _ h => h) (by rfl) ?yad23 ?_
        case yad23 => (intro w' hw'; go_simp <;> omega)
        simp only [Act.put]; try simp only [sA_, sZ_, sS_]
        refine wpAnyL_take (i := 24) (d := some 62) (v := ?vad24) rfl rfl (by kernel_rfl) (by kernel_rfl) (by kernel_rfl) (fun _ _ _ h => h) (by rfl) ?yad24 ?_
        case yad24 => (intro w' hw'; go_simp; try (with_reducible rfl))
        simp only [Act.put]; try simp only [sA_, sZ_, sS_]
        refine wpAnyL_take (i := 25) (d := some 63) (v := ?vad25) rfl rfl (by kernel_rfl) (by kernel_rfl) (by kernel_rfl) (fun _ _ _ h => h) (by rfl) ?yad25 ?_
        case yad25 => (intro w' hw'; go_simp; try (with_reducible rfl))
        simp only [Act.put]; try simp only [sA_, sZ_, sS_]
        refine wpAnyL_take (i := 26) (d := some 64) (v := ?vad26) rfl rfl (by kernel_rfl) (by kernel_rfl) (by kernel_rfl) (fun _ _ _ h => h) (by rfl) ?yad26 ?_
        case yad26 => (intro w' hw'; have r4 := (HR4.out w' (L314.out.trans hw')); go_simp; try (with_reducible rfl))
        simp only [Act.put]; try simp only [sA_, sZ_, sS_]
        refine wpAnyL_take (i := 27) (d := some 65) (v := ?vad27) rfl rfl (by kernel_rfl) (by kernel_rfl) (by kernel_rfl) (fun _ _ _ h => h) (by rfl) ?yad27 ?_
        case yad27 => (intro w' hw'; go_simp; try (with_reducible rfl))
        simp only [Act.put]; try simp only [sA_, sZ_, sS_]
        refine wpAnyL_take (i := 28) (d := some 2) (v := ?vad28) rfl rfl (by kernel_rfl) (by kernel_rfl) (by kernel_rfl) (fun _ _ _ h => h) (by rfl) ?yad28 ?_
        case yad28 => (intro w' hw'; go_simp; try (with_reducible rfl))
        simp only [Act.put]; try simp only [sA_, sZ_, sS_]
        refine wpAnyL_done (by kernel_rfl) ?_ _
        go_wp2
        go_ret
        exact ⟨ret_bool HU.out.symm, L14.out⟩

      · obtain rfl : R = false := by rw [HR.out, decide_eq_true g1, decide_eq_true g2, decide_eq_false g3]; rfl
        have HE := hide (decide_eq_false g3)
        clear g3
        go_wp2_with (fail)
        have XD := hide (show SBox 36 g s w3.drew from X3.out)
        have LD := hide (L3.out.trans (Later.drew w3))
        have LD1 := hide (L13.out.trans (Later.drew w3))
        refine wp_region_L (by kernel_rfl) ?_
        refine wpAnyL_take (i := 0) (d := some 38) (v := ?vac0) rfl rfl (by kernel_rfl) (by kernel_rfl) (by kernel_rfl) (fun _ _ _ h => h) (by rfl) ?yac0 ?_
        case yac0 => (intro w' hw'; go_simp; try (with_reducible rfl))
        simp only [Act.put]; try simp only [sA_, sZ_, sS_]
        refine wpAnyL_take (i := 1) (d := some 39) (v := ?vac1) rfl rfl (by kernel_rfl) (by kernel_rfl) (by kernel_rfl) (fun _ _ _ h => h) (by rfl) ?yac1 ?_
        case yac1 => (intro w' hw'; have c4 := (XD.out.below hw').c4; go_simp; try (with_reducible rfl))
        simp only [Act.put]; try simp only [sA_, sZ_, sS_]
        refine wpAnyL_take (i := 2) (d := some 40) (v := .bool true) rfl rfl (by kernel_rfl) (by kernel_rfl) (by kernel_rfl) (fun _ _ _ h => h) (by rfl) ?yac2 ?_
        case yac2 => (intro w' hw'; go_simp <;> omega)
        simp only [Act.put]; try simp only [sA_, sZ_, sS_]
        refine wpAnyL_take (i := 3) (d := some 41) (v := ?vac3) rfl rfl (by kernel_rfl) (by kernel_rfl) (by kernel_rfl) (fun _ _ _ h => h) (by rfl) ?yac3 ?_
        case yac3 => (intro w' hw'; go_simp; try (with_reducible rfl))
        simp only [Act.put]; try simp only [sA_, sZ_, sS_]
        refine wpAnyL_take (i := 4) (d := some 42) (v := ?vac4) rfl rfl (by kernel_rfl) (by kernel_rfl) (by kernel_rfl) (fun _ _ _ h => h) (by rfl) ?yac4 ?_
        case yac4 => (intro w' hw'; go_simp; try (with_reducible rfl))
        simp only [Act.put]; try simp only [sA_, sZ_, sS_]
        refine wpAnyL_take (i := 5) (d := some 43) (v := ?vac5) rfl rfl (by kernel_rfl) (by kernel_rfl) (by kernel_rfl) (fun _ _ _ h => h) (by rfl) ?yac5 ?_
        case yac5 => (intro w' hw'; have c4 := (XD.out.below hw').c4; go_simp; try (with_reducible rfl))
        simp only [Act.put]; try simp only [sA_, sZ_, sS_]
        refine wpAnyL_take (i := 6) (d := some 44) (v := ?vac6) rfl rfl (by kernel_rfl) (by kernel_rfl) (by kernel_rfl) (fun _ _ _ h => h) (by rfl) ?yac6 ?_
        case yac6 => (intro w' hw'; go_simp; try (with_reducible rfl))
        simp only [Act.put]; try simp only [sA_, sZ_, sS_]
        refine wpAnyL_take (i := 7) (d := some 45) (v := .bool true) rfl rfl (by kernel_rfl) (by kernel_rfl) (by kernel_rfl) (fun _ _ _ h => h) (by rfl) ?yac7 ?_
        case yac7 => (intro w' hw'; go_simp <;> omega)
        simp only [Act.put]; try simp only [sA_, sZ_, sS_]
        refine wpAnyL_take (i := 8) (d := some 46) (v := ?vac8) rfl rfl (by kernel_rfl) (by kernel_rfl) (by kernel_rfl) (fun _ _ _ h => h) (by rfl) ?yac8 ?_
        case yac8 => (intro w' hw'; go_simp; try (with_reducible rfl))
        simp only [Act.put]; try simp only [sA_, sZ_, sS_]
        refine wpAnyL_take (i := 9) (d := some 47) (v := ?vac9) rfl rfl (by kernel_rfl) (by kernel_rfl) (by kernel_rfl) (fun _ _ _ h => h) (by rfl) ?yac9 ?_
        case yac9 => (intro w' hw'; go_simp; try (with_reducible rfl))
        simp only [Act.put]; try simp only [sA_, sZ_, sS_]
        refine wpAnyL_take (i := 10) (d := some 48) (v := ?vac10) rfl rfl (by kernel_rfl) (by kernel_rfl) (by kernel_rfl) (fun _ _ _ h => h) (by rfl) ?yac10 ?_
        case yac10 => (intro w' hw'; go_simp; try (with_reducible rfl))
        simp only [Act.put]; try simp only [sA_, sZ_, sS_]
        refine wpAnyL_take (i := 11) (d := some 49) (v := s.hit.val) rfl rfl (by kernel_rfl) (by kernel_rfl) (by kernel_rfl) (fun _ _ _ h => h) (by rfl) ?yac11 ?_
        case yac11 => (intro w' hw'; exact exec_load_hits _ (by rfl) (by rfl) (XD.out.below hw'))
        simp only [Act.put]; try simp only [sA_, sZ_, sS_]
        refine wpAnyL_take (i := 12) (d := some 50) (v := ?vac12) rfl rfl (by kernel_rfl) (by kernel_rfl) (by kernel_rfl) (fun _ _ _ h => h) (by rfl) ?yac12 ?_
        case yac12 => (intro w' hw'; go_simp; try (with_reducible rfl))
        simp only [Act.put]; try simp only [sA_, sZ_, sS_]
        refine wpAnyL_take (i := 13) (d := some 51) (v := ?vac13) rfl rfl (by kernel_rfl) (by kernel_rfl) (by kernel_rfl) (fun _ _ _ h => h) (by rfl) ?yac13 ?_
        case yac13 => (intro w' hw'; have c3 := (XD.out.below hw').c3; go_simp; try (with_reducible rfl))
        simp only [Act.put]; try simp only [sA_, sZ_, sS_]
        refine wpAnyL_only (i := 14) rfl (by kernel_rfl) (by rfl) fun K hK => ?_
        go_simp
        refine (CU.out _ _ (by omega)).mono ?_
        rintro e w_14 ⟨rfl, hl_⟩
        have L14 := hide (LD.out.trans hl_)
        have L114 := hide (LD1.out.trans hl_)
        have L314 := hide ((Later.drew w3).trans hl_)
        have X14 := hide (XD.out.below hl_)
        refine hK.out _ _ hl_ ?_
        clear hl_
        clear hK K
        try (simp only [Act.put]; try simp only [sA_, sZ_, sS_])
        refine wpAnyL_take (i := 15) (d := some 53) (v := .bool false) rfl rfl (by kernel_rfl) (by kernel_rfl) (by kernel_rfl) (fun _ _ _ h => h) (by rfl) ?yac15 ?_
        case yac15 => (intro w' hw'; exact (exec_eql_hits s.hit (upH s.step) _ _ _ (by rfl) (by rfl) (by rfl)).trans (by rw [HE.out]))
        simp only [Act.put]; try simp only [sA_, sZ_, sS_]
        refine wpAnyL_take (i := 16) (d := some 54) (v := ?vac16) rfl rfl (by kernel_rfl) (by kernel_rfl) (by kernel_rfl) (fun _ _ _ h => h) (by rfl) ?yac16 ?_
        case yac16 => (intro w' hw'; go_simp; try (with_reducible rfl))
        simp only [Act.put]; try simp only [sA_, sZ_, sS_]
        refine wpAnyL_take (i := 17) (d := some 55) (v := ?vac17) rfl rfl (by kernel_rfl) (by kernel_rfl) (by kernel_rfl) (fun _ _ _ h => h) (by rfl) ?yac17 ?_
        case yac17 => (intro w' hw'; go_simp; try (with_reducible rfl))
        simp only [Act.put]; try simp only [sA_, sZ_, sS_]
        refine wpAnyL_pass (i := 18) (d := some 56) rfl rfl (by kernel_rfl) (by kernel_rfl) (by kernel_rfl) (fun _ _ _ h => h) (by rfl) ?_
        try (simp only [Act.put]; try simp only [sA_, sZ_, sS_])
        refine wpAnyL_pass (i := 19) (d := some 57) rfl rfl (by kernel_rfl) (by kernel_rfl) (by kernel_rfl) (fun _ _ _ h => h) (by rfl) ?_
        try (simp only [Act.put]; try simp only [sA_, sZ_, sS_])
        refine wpAnyL_pass (i := 20) (d := some 58) rfl rfl (by kernel_rfl) (by kernel_rfl) (by kernel_rfl) (fun _ _ _ h => h) (by rfl) ?_
        try (simp only [Act.put]; try simp only [sA_, sZ_, sS_])
        refine wpAnyL_pass (i := 21) (d := some 59) rfl rfl (by kernel_rfl) (by kernel_rfl) (by kernel_rfl) (fun _ _ _ h => h) (by rfl) ?_
        try (simp only [Act.put]; try simp only [sA_, sZ_, sS_])
        refine wpAnyL_pass (i := 22) (d := some 60) rfl rfl (by kernel_rfl) (by kernel_rfl) (by kernel_rfl) (fun _ _ _ h => h) (by rfl) ?_
        try (simp only [Act.put]; try simp only [sA_, sZ_, sS_])
        refine wpAnyL_pass (i := 23) (d := some 61) rfl rfl (by kernel_rfl) (by kernel_rfl) (by kernel_rfl) (fun _ _ _ h => h) (by rfl) ?_
        try (simp only [Act.put]; try simp only [sA_, sZ_, sS_])
        refine wpAnyL_pass (i := 24) (d := some 62) rfl rfl (by kernel_rfl) (by kernel_rfl) (by kernel_rfl) (fun _ _ _ h => h) (by rfl) ?_
        try (simp only [Act.put]; try simp only [sA_, sZ_, sS_])
        refine wpAnyL_pass (i := 25) (d := some 63) rfl rfl (by kernel_rfl) (by kernel_rfl) (by kernel_rfl) (fun _ _ _ h => h) (by rfl) ?_
        try (simp only [Act.put]; try simp only [sA_, sZ_, sS_])
        refine wpAnyL_pass (i := 26) (d := some 64) rfl rfl (by kernel_rfl) (by kernel_rfl) (by kernel_rfl) (fun _ _ _ h => h) (by rfl) ?_
        try (simp only [Act.put]; try simp only [sA_, sZ_, sS_])
        refine wpAnyL_take (i := 27) (d := some 65) (v := ?vac27) rfl rfl (by kernel_rfl) (by kernel_rfl) (by kernel_rfl) (fun _ _ _ h => h) (by rfl) ?yac27 ?_
        case yac27 => (intro w' hw'; go_simp; try (with_reducible rfl))
        simp only [Act.put]; try simp only [sA_, sZ_, sS_]
        refine wpAnyL_take (i := 28) (d := some 2) (v := ?vac28) rfl rfl (by kernel_rfl) (by kernel_rfl) (by kernel_rfl) (fun _ _ _ h => h) (by rfl) ?yac28 ?_
        case yac28 => (intro w' hw'; go_simp; try (with_reducible rfl))
        simp only [Act.put]; try simp only [sA_, sZ_, sS_]
        refine wpAnyL_done (by kernel_rfl) ?_ _
        go_wp2
        go_ret
        exact ⟨rfl, L14.out⟩

    · obtain rfl : R = false := by rw [HR.out, decide_eq_true g1, decide_eq_false g2]; rfl
      go_wp2_with (fail)
      have XD := hide (show SBox 36 g s w3.drew from X3.out)
      have LD := hide (L3.out.trans (Later.drew w3))
      have LD1 := hide (L13.out.trans (Later.drew w3))
      refine wp_region_L (by kernel_rfl) ?_
      refine wpAnyL_take (i := 0) (d := some 38) (v := ?vab0) rfl rfl (by kernel_rfl) (by kernel_rfl) (by kernel_rfl) (fun _ _ _ h => h) (by rfl) ?yab0 ?_
      case yab0 => (intro w' hw'; go_simp; try (with_reducible rfl))
      simp only [Act.put]; try simp only [sA_, sZ_, sS_]
      refine wpAnyL_take (i := 1) (d := some 39) (v := ?vab1) rfl rfl (by kernel_rfl) (by kernel_rfl) (by kernel_rfl) (fun _ _ _ h => h) (by rfl) ?yab1 ?_
      case yab1 => (intro w' hw'; have c4 := (XD.out.below hw').c4; go_simp; try (with_reducible rfl))
      simp only [Act.put]; try simp only [sA_, sZ_, sS_]
      refine wpAnyL_take (i := 2) (d := some 40) (v := .bool true) rfl rfl (by kernel_rfl) (by kernel_rfl) (by kernel_rfl) (fun _ _ _ h => h) (by rfl) ?yab2 ?_
      case yab2 => (intro w' hw'; go_simp <;> omega)
      simp only [Act.put]; try simp only [sA_, sZ_, sS_]
      refine wpAnyL_take (i := 3) (d := some 41) (v := ?vab3) rfl rfl (by kernel_rfl) (by kernel_rfl) (by kernel_rfl) (fun _ _ _ h => h) (by rfl) ?yab3 ?_
      case yab3 => (intro w' hw'; go_simp; try (with_reducible rfl))
      simp only [Act.put]; try simp only [sA_, sZ_, sS_]
      refine wpAnyL_take (i := 4) (d := some 42) (v := ?vab4) rfl rfl (by kernel_rfl) (by kernel_rfl) (by kernel_rfl) (fun _ _ _ h => h) (by rfl) ?yab4 ?_
      case yab4 => (intro w' hw'; go_simp; try (with_reducible rfl))
      simp only [Act.put]; try simp only [sA_, sZ_, sS_]
      refine wpAnyL_take (i := 5) (d := some 43) (v := ?vab5) rfl rfl (by kernel_rfl) (by kernel_rfl) (by kernel_rfl) (fun _ _ _ h => h) (by rfl) ?yab5 ?_
      case yab5 => (intro w' hw'; have c4 := (XD.out.below hw').c4; go_simp; try (with_reducible rfl))
      simp only [Act.put]; try simp only [sA_, sZ_, sS_]
      refine wpAnyL_take (i := 6) (d := some 44) (v := ?vab6) rfl rfl (by kernel_rfl) (by kernel_rfl) (by kernel_rfl) (fun _ _ _ h => h) (by rfl) ?yab6 ?_
      case yab6 => (intro w' hw'; go_simp; try (with_reducible rfl))
      simp only [Act.put]; try simp only [sA_, sZ_, sS_]
      refine wpAnyL_take (i := 7) (d := some 45) (v := .bool false) rfl rfl (by kernel_rfl) (by kernel_rfl) (by kernel_rfl) (fun _ _ _ h => h) (by rfl) ?yab7 ?_
      case yab7 => (intro w' hw'; go_simp <;> omega)
      simp only [Act.put]; try simp only [sA_, sZ_, sS_]
      refine wpAnyL_take (i := 8) (d := some 46) (v := ?vab8) rfl rfl (by kernel_rfl) (by kernel_rfl) (by kernel_rfl) (fun _ _ _ h => h) (by rfl) ?yab8 ?_
      case yab8 => (intro w' hw'; go_simp; try (with_reducible rfl))
      simp only [Act.put]; try simp only [sA_, sZ_, sS_]
      refine wpAnyL_take (i := 9) (d := some 47) (v := ?vab9) rfl rfl (by kernel_rfl) (by kernel_rfl) (by kernel_rfl) (fun _ _ _ h => h) (by rfl) ?yab9 ?_
      case yab9 => (intro w' hw'; go_simp; try (with_reducible rfl))
      simp only [Act.put]; try simp only [sA_, sZ_, sS_]
      refine wpAnyL_pass (i := 10) (d := some 48) rfl rfl (by kernel_rfl) (by kernel_rfl) (by kernel_rfl) (fun _ _ _ h => h) (by rfl) ?_
      try (simp only [Act.put]; try simp only [sA_, sZ_, sS_])
      refine wpAnyL_pass (i := 11) (d := some 49) rfl rfl (by kernel_rfl) (by kernel_rfl) (by kernel_rfl) (fun _ _ _ h => h) (by rfl) ?_
      try (simp only [Act.put]; try simp only [sA_, sZ_, sS_])
      refine wpAnyL_pass (i := 12) (d := some 50) rfl rfl (by kernel_rfl) (by kernel_rfl) (by kernel_rfl) (fun _ _ _ h => h) (by rfl) ?_
      try (simp only [Act.put]; try simp only [sA_, sZ_, sS_])
      refine wpAnyL_pass (i := 13) (d := some 51) rfl rfl (by kernel_rfl) (by kernel_rfl) (by kernel_rfl) (fun _ _ _ h => h) (by rfl) ?_
      try (simp only [Act.put]; try simp only [sA_, sZ_, sS_])
      refine wpAnyL_pass (i := 14) (d := some 52) rfl rfl (by kernel_rfl) (by kernel_rfl) (by kernel_rfl) (fun _ _ _ h => h) (by rfl) ?_
      try (simp only [Act.put]; try simp only [sA_, sZ_, sS_])
      refine wpAnyL_pass (i := 15) (d := some 53) rfl rfl (by kernel_rfl) (by kernel_rfl) (by kernel_rfl) (fun _ _ _ h => h) (by rfl) ?_
      try (simp only [Act.put]; try simp only [sA_, sZ_, sS_])
      refine wpAnyL_take (i := 16) (d := some 54) (v := ?vab16) rfl rfl (by kernel_rfl) (by kernel_rfl) (by kernel_rfl) (fun _ _ _ h => h) (by rfl) ?yab16 ?_
      case yab16 => (intro w' hw'; go_simp; try (with_reducible rfl))
      simp only [Act.put]; try simp only [sA_, sZ_, sS_]
      refine wpAnyL_take (i := 17) (d := some 55) (v := ?vab17) rfl rfl (by kernel_rfl) (by kernel_rfl) (by kernel_rfl) (fun _ _ _ h => h) (by rfl) ?yab17 ?_
      case yab17 => (intro w' hw'; go_simp; try (with_reducible rfl))
      simp only [Act.put]; try simp only [sA_, sZ_, sS_]
      refine wpAnyL_pass (i := 18) (d := some 56) rfl rfl (by kernel_rfl) (by kernel_rfl) (by kernel_rfl) (fun _ _ _ h => h) (by rfl) ?_
      try (simp only [Act.put]; try simp only [sA_, sZ_, sS_])
      refine wpAnyL_pass (i := 19) (d := some 57) rfl rfl (by kernel_rfl) (by kernel_rfl) (by kernel_rfl) (fun _ _ _ h => h) (by rfl) ?_
      try (simp only [Act.put]; try simp only [sA_, sZ_, sS_])
      refine wpAnyL_pass (i := 20) (d := some 58) rfl rfl (by kernel_rfl) (by kernel_rfl) (by kernel_rfl) (fun _ _ _ h => h) (by rfl) ?_
      try (simp only [Act.put]; try simp only [sA_, sZ_, sS_])
      refine wpAnyL_pass (i := 21) (d := some 59) rfl rfl (by kernel_rfl) (by kernel_rfl) (by kernel_rfl) (fun _ _ _ h => h) (by rfl) ?_
      try (simp only [Act.put]; try simp only [sA_, sZ_, sS_])
      refine wpAnyL_pass (i := 22) (d := some 60) rfl rfl (by kernel_rfl) (by kernel_rfl) (by kernel_rfl) (fun _ _ _ h => h) (by rfl) ?_
      try (simp only [Act.put]; try simp only [sA_, sZ_, sS_])
      refine wpAnyL_pass (i := 23) (d := some 61) rfl rfl (by kernel_rfl) (by kernel_rfl) (by kernel_rfl) (fun _ _ _ h => h) (by rfl) ?_
      try (simp only [Act.put]; try simp only [sA_, sZ_, sS_])
      refine wpAnyL_pass (i := 24) (d := some 62) rfl rfl (by kernel_rfl) (by kernel_rfl) (by kernel_rfl) (fun _ _ _ h => h) (by rfl) ?_
      try (simp only [Act.put]; try simp only [sA_, sZ_, sS_])
      refine wpAnyL_pass (i := 25) (d := some 63) rfl rfl (by kernel_rfl) (by kernel_rfl) (by kernel_rfl) (fun _ _ _ h => h) (by rfl) ?_
      try (simp only [Act.put]; try simp only [sA_, sZ_, sS_])
      refine wpAnyL_pass (i := 26) (d := some 64) rfl rfl (by kernel_rfl) (by kernel_rfl) (by kernel_rfl) (fun _ _ _ h => h) (by rfl) ?_
      try (simp only [Act.put]; try simp only [sA_, sZ_, sS_])
      refine wpAnyL_take (i := 27) (d := some 65) (v := ?vab27) rfl rfl (by kernel_rfl) (by kernel_rfl) (by kernel_rfl) (fun _ _ _ h => h) (by rfl) ?yab27 ?_
      case yab27 => (intro w' hw'; go_simp; try (with_reducible rfl))
      simp only [Act.put]; try simp only [sA_, sZ_, sS_]
      refine wpAnyL_take (i := 28) (d := some 2) (v := ?vab28) rfl rfl (by kernel_rfl) (by kernel_rfl) (by kernel_rfl) (fun _ _ _ h => h) (by rfl) ?yab28 ?_
      case yab28 => (intro w' hw'; go_simp; try (with_reducible rfl))
      simp only [Act.put]; try simp only [sA_, sZ_, sS_]
      refine wpAnyL_done (by kernel_rfl) ?_ _
      go_wp2
      go_ret
      exact ⟨rfl, LD.out⟩

  · obtain rfl : R = false := by rw [HR.out, decide_eq_false g1]; rfl
    go_wp2_with (fail)
    have XD := hide (show SBox 36 g s w3.drew from X3.out)
    have LD := hide (L3.out.trans (Later.drew w3))
    have LD1 := hide (L13.out.trans (Later.drew w3))
    refine wp_region_L (by kernel_rfl) ?_
    refine wpAnyL_take (i := 0) (d := some 38) (v := ?vaa0) rfl rfl (by kernel_rfl) (by kernel_rfl) (by kernel_rfl) (fun _ _ _ h => h) (by rfl) ?yaa0 ?_
    case yaa0 => (intro w' hw'; go_simp; try (with_reducible rfl))
    simp only [Act.put]; try simp only [sA_, sZ_, sS_]
    refine wpAnyL_take (i := 1) (d := some 39) (v := ?vaa1) rfl rfl (by kernel_rfl) (by kernel_rfl) (by kernel_rfl) (fun _ _ _ h => h) (by rfl) ?yaa1 ?_
    case yaa1 => (intro w' hw'; have c4 := (XD.out.below hw').c4; go_simp; try (with_reducible rfl))
    simp only [Act.put]; try simp only [sA_, sZ_, sS_]
    refine wpAnyL_take (i := 2) (d := some 40) (v := .bool false) rfl rfl (by kernel_rfl) (by kernel_rfl) (by kernel_rfl) (fun _ _ _ h => h) (by rfl) ?yaa2 ?_
    case yaa2 => (intro w' hw'; go_simp <;> omega)
    simp only [Act.put]; try simp only [sA_, sZ_, sS_]
    refine wpAnyL_take (i := 3) (d := some 41) (v := ?vaa3) rfl rfl (by kernel_rfl) (by kernel_rfl) (by kernel_rfl) (fun _ _ _ h => h) (by rfl) ?yaa3 ?_
    case yaa3 => (intro w' hw'; go_simp; try (with_reducible rfl))
    simp only [Act.put]; try simp only [sA_, sZ_, sS_]
    refine wpAnyL_pass (i := 4) (d := some 42) rfl rfl (by kernel_rfl) (by kernel_rfl) (by kernel_rfl) (fun _ _ _ h => h) (by rfl) ?_
    try (simp only [Act.put]; try simp only [sA_, sZ_, sS_])
    refine wpAnyL_pass (i := 5) (d := some 43) rfl rfl (by kernel_rfl) (by kernel_rfl) (by kernel_rfl) (fun _ _ _ h => h) (by rfl) ?_
    try (simp only [Act.put]; try simp only [sA_, sZ_, sS_])
    refine wpAnyL_pass (i := 6) (d := some 44) rfl rfl (by kernel_rfl) (by kernel_rfl) (by kernel_rfl) (fun _ _ _ h => h) (by rfl) ?_
    try (simp only [Act.put]; try simp only [sA_, sZ_, sS_])
    refine wpAnyL_pass (i := 7) (d := some 45) rfl rfl (by kernel_rfl) (by kernel_rfl) (by kernel_rfl) (fun _ _ _ h => h) (by rfl) ?_
    try (simp only [Act.put]; try simp only [sA_, sZ_, sS_])
    refine wpAnyL_take (i := 8) (d := some 46) (v := ?vaa8) rfl rfl (by kernel_rfl) (by kernel_rfl) (by kernel_rfl) (fun _ _ _ h => h) (by rfl) ?yaa8 ?_
    case yaa8 => (intro w' hw'; go_simp; try (with_reducible rfl))
    simp only [Act.put]; try simp only [sA_, sZ_, sS_]
    refine wpAnyL_take (i := 9) (d := some 47) (v := ?vaa9) rfl rfl (by kernel_rfl) (by kernel_rfl) (by kernel_rfl) (fun _ _ _ h => h) (by rfl) ?yaa9 ?_
    case yaa9 => (intro w' hw'; go_simp; try (with_reducible rfl))
    simp only [Act.put]; try simp only [sA_, sZ_, sS_]
    refine wpAnyL_pass (i := 10) (d := some 48) rfl rfl (by kernel_rfl) (by kernel_rfl) (by kernel_rfl) (fun _ _ _ h => h) (by rfl) ?_
    try (simp only [Act.put]; try simp only [sA_, sZ_, sS_])
    refine wpAnyL_pass (i := 11) (d := some 49) rfl rfl (by kernel_rfl) (by kernel_rfl) (by kernel_rfl) (fun _ _ _ h => h) (by rfl) ?_
    try (simp only [Act.put]; try simp only [sA_, sZ_, sS_])
    refine wpAnyL_pass (i := 12) (d := some 50) rfl rfl (by kernel_rfl) (by kernel_rfl) (by kernel_rfl) (fun _ _ _ h => h) (by rfl) ?_
    try (simp only [Act.put]; try simp only [sA_, sZ_, sS_])
    refine wpAnyL_pass (i := 13) (d := some 51) rfl rfl (by kernel_rfl) (by kernel_rfl) (by kernel_rfl) (fun _ _ _ h => h) (by rfl) ?_
    try (simp only [Act.put]; try simp only [sA_, sZ_, sS_])
    refine wpAnyL_pass (i := 14) (d := some 52) rfl rfl (by kernel_rfl) (by kernel_rfl) (by kernel_rfl) (fun _ _ _ h => h) (by rfl) ?_
    try (simp only [Act.put]; try simp only [sA_, sZ_, sS_])
    refine wpAnyL_pass (i := 15) (d := some 53) rfl rfl (by kernel_rfl) (by kernel_rfl) (by kernel_rfl) (fun _ _ _ h => h) (by rfl) ?_
    try (simp only [Act.put]; try simp only [sA_, sZ_, sS_])
    refine wpAnyL_take (i := 16) (d := some 54) (v := ?vaa16) rfl rfl (by kernel_rfl) (by kernel_rfl) (by kernel_rfl) (fun _ _ _ h => h) (by rfl) ?yaa16 ?_
    case yaa16 => (intro w' hw'; go_simp; try (with_reducible rfl))
    simp only [Act.put]; try simp only [sA_, sZ_, sS_]
    refine wpAnyL_take (i := 17) (d := some 55) (v := ?vaa17) rfl rfl (by kernel_rfl) (by kernel_rfl) (by kernel_rfl) (fun _ _ _ h => h) (by rfl) ?yaa17 ?_
    case yaa17 => (intro w' hw'; go_simp; try (with_reducible rfl))
    simp only [Act.put]; try simp only [sA_, sZ_, sS_]
    refine wpAnyL_pass (i := 18) (d := some 56) rfl rfl (by kernel_rfl) (by kernel_rfl) (by kernel_rfl) (fun _ _ _ h => h) (by rfl) ?_
    try (simp only [Act.put]; try simp only [sA_, sZ_, sS_])
    refine wpAnyL_pass (i := 19) (d := some 57) rfl rfl (by kernel_rfl) (by kernel_rfl) (by kernel_rfl) (fun _ _ _ h => h) (by rfl) ?_
    try (simp only [Act.put]; try simp only [sA_, sZ_, sS_])
    refine wpAnyL_pass (i := 20) (d := some 58) rfl rfl (by kernel_rfl) (by kernel_rfl) (by kernel_rfl) (fun _ _ _ h => h) (by rfl) ?_
    try (simp only [Act.put]; try simp only [sA_, sZ_, sS_])
    refine wpAnyL_pass (i := 21) (d := some 59) rfl rfl (by kernel_rfl) (by kernel_rfl) (by kernel_rfl) (fun _ _ _ h => h) (by rfl) ?_
    try (simp only [Act.put]; try simp only [sA_, sZ_, sS_])
    refine wpAnyL_pass (i := 22) (d := some 60) rfl rfl (by kernel_rfl) (by kernel_rfl) (by kernel_rfl) (fun _ _ _ h => h) (by rfl) ?_
    try (simp only [Act.put]; try simp only [sA_, sZ_, sS_])
    refine wpAnyL_pass (i := 23) (d := some 61) rfl rfl (by kernel_rfl) (by kernel_rfl) (by kernel_rfl) (fun _ _ _ h => h) (by rfl) ?_
    try (simp only [Act.put]; try simp only [sA_, sZ_, sS_])
    refine wpAnyL_pass (i := 24) (d := some 62) rfl rfl (by kernel_rfl) (by kernel_rfl) (by kernel_rfl) (fun _ _ _ h => h) (by rfl) ?_
    try (simp only [Act.put]; try simp only [sA_, sZ_, sS_])
    refine wpAnyL_pass (i := 25) (d := some 63) rfl rfl (by kernel_rfl) (by kernel_rfl) (by kernel_rfl) (fun _ _ _ h => h) (by rfl) ?_
    try (simp only [Act.put]; try simp only [sA_, sZ_, sS_])
    refine wpAnyL_pass (i := 26) (d := some 64) rfl rfl (by kernel_rfl) (by kernel_rfl) (by kernel_rfl) (fun _ _ _ h => h) (by rfl) ?_
    try (simp only [Act.put]; try simp only [sA_, sZ_, sS_])
    refine wpAnyL_take (i := 27) (d := some 65) (v := ?vaa27) rfl rfl (by kernel_rfl) (by kernel_rfl) (by kernel_rfl) (fun _ _ _ h => h) (by rfl) ?yaa27 ?_
    case yaa27 => (intro w' hw'; go_simp; try (with_reducible rfl))
    simp only [Act.put]; try simp only [sA_, sZ_, sS_]
    refine wpAnyL_take (i := 28) (d := some 2) (v := ?vaa28) rfl rfl (by kernel_rfl) (by kernel_rfl) (by kernel_rfl) (fun _ _ _ h => h) (by rfl) ?yaa28 ?_
    case yaa28 => (intro w' hw'; go_simp; try (with_reducible rfl))
    simp only [Act.put]; try simp only [sA_, sZ_, sS_]
    refine wpAnyL_done (by kernel_rfl) ?_ _
    go_wp2
    go_ret
    exact ⟨rfl, LD.out⟩

set_option maxHeartbeats 8000000 in
theorem good_done {F : Nat → Prop} {s : SagaD} {l : List StepD} (h : StepsAt F w s.v l) (hw : ∀ x ∈ l, x.wf) (h1 : I64 s.step) (he : (checkF s.name l).2 = 0) (hst : s.st = 3) : Calls Tryz.prog 45 #[s.val] w (Gives (.bool (decide (s.tr = 0) && (decide (s.step = 0) && decide (s.hit = upH (s.n : Int))))) w) := by
  obtain ⟨W1, hW1⟩ : ∃ W1, W1 = (w.alloc (.cells s.cells.toArray 36 (0, 0))) := ⟨_, rfl⟩
  obtain ⟨g, hg⟩ : ∃ g, g = w.heap.size := ⟨_, rfl⟩
  have X1 : Hid (SBox 36 g s W1) := by rw [hW1, hg]; exact heap_alloc_new _ _
  have L1 : Hid (Later w W1) := by rw [hW1]; exact (Below.refl _ _).alloc (Nat.le_refl _) _
  have HG0 : Hid (w.heap.size ≤ g) := Nat.le_of_eq hg.symm
  have CC : Hid (Calls Tryz.prog 75 #[.agg #[.string s.name, .slice s.p s.n s.c]] W1 fun e w' => e = .returned (.tuple #[.int .i64 (((checkF s.name l).1 : Nat) : Int), .int .i64 (((checkF s.name l).2 : Nat) : Int)]) ∧ Later W1 w') := check_any (StepsAt.kept h (Kept.of_below L1.out _))
  have C : Hid (∀ W, Later W1 W → Calls Tryz.prog 76 #[.agg #[.string s.name, .slice s.p s.n s.c], .int .i64 s.step] W fun e w' => e = .returned (.int .i64 (triesN l s.step)) ∧ Later W w') := fun W hW => Tries_any (StepsAt.kept h (Kept.of_below (L1.out.trans hW) _)) h1 hw
  have HS : Hid (∀ W, Later W1 W → StepsAt F W s.v l) := fun W hW => StepsAt.kept h (Kept.of_below (L1.out.trans hW) _)
  obtain ⟨k1, hk1⟩ : ∃ k1, (checkF s.name l).1 = k1 := ⟨_, rfl⟩
  obtain ⟨k2, hk2⟩ : ∃ k2, (checkF s.name l).2 = k2 := ⟨_, rfl⟩
  rw [hk1, hk2] at CC
  have HN := hide (steps_n h)
  have HW1 := hide hW1.symm
  have HG := hide hg.symm
  clear hW1 hg h hk1 h1 hw
  have e0 := X1.out.c0
  have e1 := X1.out.c1
  rw [← HW1.out, ← HG.out] at e0 e1
  obtain ⟨T, hT⟩ : ∃ T, triesN l s.step = T := ⟨_, rfl⟩
  rw [hT] at C
  obtain rfl : k2 = 0 := by rw [← hk2]; exact he
  have CU : Hid (∀ (W : World) (k : Int), k ≤ 8 → Calls Tryz.prog 78 #[.int .i64 k] W (Gives (upH k).val W)) := fun W k hk => upTo_any k hk
  obtain ⟨R, hR⟩ : ∃ R, (decide (s.tr = 0) && (decide (s.step = 0) && decide (s.hit = upH (s.n : Int)))) = R := ⟨_, rfl⟩
  rw [hR]
  have HR : Hid (R = (decide (s.tr = 0) && (decide (s.step = 0) && decide (s.hit = upH (s.n : Int))))) := hR.symm
  have h8 : s.n ≤ 8 := by rw [HN.out]; exact (check_good he).1
  clear hR hT
  clear he hk2
  go_enter Tryz.func45, Tryz.ntmps45
  go_wp2_with (fail)
  simp only [HW1.out, HG.out]
  refine CC.out.mono ?_
  rintro e w2 ⟨rfl, hl⟩
  have L12 := hide hl
  have L2 := hide (L1.out.trans hl)
  have X2 := hide (X1.out.below hl)
  clear hl CC e0 e1
  have d0 := X2.out.c0
  have d1 := X2.out.c1
  have d3 := X2.out.c3
  go_wp2_with (fail)
  refine (C.out _ L12.out).mono ?_
  rintro e w3 ⟨rfl, hl⟩
  have L13 := hide (L12.out.trans hl)
  have L3 := hide (L2.out.trans hl)
  have X3 := hide (X2.out.below hl)
  clear hl C d0 d1 d3
  have c2 := X3.out.c2
  rw [hst] at c2
  clear hst
  by_cases g1 : s.tr = 0
  · have HT0 := hide g1
    by_cases g2 : s.step = 0
    · have HS0 := hide g2
      obtain rfl : R = decide (s.hit = upH (s.n : Int)) := by rw [HR.out, decide_eq_true g1, decide_eq_true g2]; rfl
      clear g1 g2
      go_wp2_with (fail)
      have XD := hide (show SBox 36 g s w3.drew from X3.out)
      have LD := hide (L3.out.trans (Later.drew w3))
      have LD1 := hide (L13.out.trans (Later.drew w3))
      refine wp_region_L (by kernel_rfl) ?_
      refine wpAnyL_take (i := 0) (d := some 81) (v := ?vac0) rfl rfl (by kernel_rfl) (by kernel_rfl) (by kernel_rfl) (fun _ _ _ h => h) (by rfl) ?yac0 ?_
      case yac0 => (intro w' hw'; go_simp; try (with_reducible rfl))
      simp only [Act.put]; try simp only [sA_, sZ_, sS_]
      refine wpAnyL_take (i := 1) (d := some 82) (v := ?vac1) rfl rfl (by kernel_rfl) (by kernel_rfl) (by kernel_rfl) (fun _ _ _ h => h) (by rfl) ?yac1 ?_
      case yac1 => (intro w' hw'; have c4 := (XD.out.below hw').c4; rw [HT0.out] at c4; go_simp; try (with_reducible rfl))
      simp only [Act.put]; try simp only [sA_, sZ_, sS_]
      refine wpAnyL_take (i := 2) (d := some 83) (v := ?vac2) rfl rfl (by kernel_rfl) (by kernel_rfl) (by kernel_rfl) (fun _ _ _ h => h) (by rfl) ?yac2 ?_
      case yac2 => (intro w' hw'; go_simp; try (with_reducible rfl))
      simp only [Act.put]; try simp only [sA_, sZ_, sS_]
      refine wpAnyL_take (i := 3) (d := some 84) (v := ?vac3) rfl rfl (by kernel_rfl) (by kernel_rfl) (by kernel_rfl) (fun _ _ _ h => h) (by rfl) ?yac3 ?_
      case yac3 => (intro w' hw'; go_simp; try (with_reducible rfl))
      simp only [Act.put]; try simp only [sA_, sZ_, sS_]
      refine wpAnyL_take (i := 4) (d := some 85) (v := ?vac4) rfl rfl (by kernel_rfl) (by kernel_rfl) (by kernel_rfl) (fun _ _ _ h => h) (by rfl) ?yac4 ?_
      case yac4 => (intro w' hw'; go_simp; try (with_reducible rfl))
      simp only [Act.put]; try simp only [sA_, sZ_, sS_]
      refine wpAnyL_take (i := 5) (d := some 86) (v := ?vac5) rfl rfl (by kernel_rfl) (by kernel_rfl) (by kernel_rfl) (fun _ _ _ h => h) (by rfl) ?yac5 ?_
      case yac5 => (intro w' hw'; have c3 := (XD.out.below hw').c3; rw [HS0.out] at c3; go_simp; try (with_reducible rfl))
      simp only [Act.put]; try simp only [sA_, sZ_, sS_]
      refine wpAnyL_take (i := 6) (d := some 87) (v := ?vac6) rfl rfl (by kernel_rfl) (by kernel_rfl) (by kernel_rfl) (fun _ _ _ h => h) (by rfl) ?yac6 ?_
      case yac6 => (intro w' hw'; go_simp; try (with_reducible rfl))
      simp only [Act.put]; try simp only [sA_, sZ_, sS_]
      refine wpAnyL_take (i := 7) (d := some 88) (v := ?vac7) rfl rfl (by kernel_rfl) (by kernel_rfl) (by kernel_rfl) (fun _ _ _ h => h) (by rfl) ?yac7 ?_
      case yac7 => (intro w' hw'; go_simp; try (with_reducible rfl))
      simp only [Act.put]; try simp only [sA_, sZ_, sS_]
      refine wpAnyL_take (i := 8) (d := some 89) (v := ?vac8) rfl rfl (by kernel_rfl) (by kernel_rfl) (by kernel_rfl) (fun _ _ _ h => h) (by rfl) ?yac8 ?_
      case yac8 => (intro w' hw'; go_simp; try (with_reducible rfl))
      simp only [Act.put]; try simp only [sA_, sZ_, sS_]
      refine wpAnyL_take (i := 9) (d := some 90) (v := ?vac9) rfl rfl (by kernel_rfl) (by kernel_rfl) (by kernel_rfl) (fun _ _ _ h => h) (by rfl) ?yac9 ?_
      case yac9 => (intro w' hw'; go_simp; try (with_reducible rfl))
      simp only [Act.put]; try simp only [sA_, sZ_, sS_]
      refine wpAnyL_take (i := 10) (d := some 91) (v := s.hit.val) rfl rfl (by kernel_rfl) (by kernel_rfl) (by kernel_rfl) (fun _ _ _ h => h) (by rfl) ?yac10 ?_
      case yac10 => (intro w' hw'; exact exec_load_hits _ (by rfl) (by rfl) (XD.out.below hw'))
      simp only [Act.put]; try simp only [sA_, sZ_, sS_]
      refine wpAnyL_take (i := 11) (d := some 92) (v := ?vac11) rfl rfl (by kernel_rfl) (by kernel_rfl) (by kernel_rfl) (fun _ _ _ h => h) (by rfl) ?yac11 ?_
      case yac11 => (intro w' hw'; go_simp; try (with_reducible rfl))
      simp only [Act.put]; try simp only [sA_, sZ_, sS_]
      refine wpAnyL_take (i := 12) (d := some 93) (v := ?vac12) rfl rfl (by kernel_rfl) (by kernel_rfl) (by kernel_rfl) (fun _ _ _ h => h) (by rfl) ?yac12 ?_
      case yac12 => (intro w' hw'; go_simp; try (with_reducible rfl))
      simp only [Act.put]; try simp only [sA_, sZ_, sS_]
      refine wpAnyL_take (i := 13) (d := some 94) (v := ?vac13) rfl rfl (by kernel_rfl) (by kernel_rfl) (by kernel_rfl) (fun _ _ _ h => h) (by rfl) ?yac13 ?_
      case yac13 => (intro w' hw'; have c1 := (XD.out.below hw').c1; go_simp; try (with_reducible rfl))
      simp only [Act.put]; try simp only [sA_, sZ_, sS_]
      refine wpAnyL_take (i := 14) (d := some 95) (v := ?vac14) rfl rfl (by kernel_rfl) (by kernel_rfl) (by kernel_rfl) (fun _ _ _ h => h) (by rfl) ?yac14 ?_
      case yac14 => (intro w' hw'; go_simp; try (with_reducible rfl))
      simp only [Act.put]; try simp only [sA_, sZ_, sS_]
      refine wpAnyL_only (i := 15) rfl (by kernel_rfl) (by rfl) fun K hK => ?_
      go_simp
      refine (CU.out _ ((s.n : Int)) (by omega)).mono ?_
      rintro e w_15 ⟨rfl, hl_⟩
      have L15 := hide (LD.out.trans hl_)
      have L115 := hide (LD1.out.trans hl_)
      have L315 := hide ((Later.drew w3).trans hl_)
      have X15 := hide (XD.out.below hl_)
      refine hK.out _ _ hl_ ?_
      clear hl_
      clear hK K
      try (simp only [Act.put]; try simp only [sA_, sZ_, sS_])
      refine wpAnyL_take (i := 16) (d := some 97) (v := .bool (decide (s.hit = upH ((s.n : Int))))) rfl rfl (by kernel_rfl) (by kernel_rfl) (by kernel_rfl) (fun _ _ _ h => h) (by rfl) ?yac16 ?_
      case yac16 => (intro w' hw'; exact exec_eql_hits s.hit (upH ((s.n : Int))) _ _ _ (by rfl) (by rfl) (by rfl))
      simp only [Act.put]; try simp only [sA_, sZ_, sS_]
      refine wpAnyL_take (i := 17) (d := some 98) (v := ?vac17) rfl rfl (by kernel_rfl) (by kernel_rfl) (by kernel_rfl) (fun _ _ _ h => h) (by rfl) ?yac17 ?_
      case yac17 => (intro w' hw'; go_simp; try (with_reducible rfl))
      simp only [Act.put]; try simp only [sA_, sZ_, sS_]
      refine wpAnyL_take (i := 18) (d := some 2) (v := ?vac18) rfl rfl (by kernel_rfl) (by kernel_rfl) (by kernel_rfl) (fun _ _ _ h => h) (by rfl) ?yac18 ?_
      case yac18 => (intro w' hw'; go_simp; try (with_reducible rfl))
      simp only [Act.put]; try simp only [sA_, sZ_, sS_]
      refine wpAnyL_done (by kernel_rfl) ?_ _
      go_wp2
      go_ret
      exact ⟨rfl, L15.out⟩

    · obtain rfl : R = false := by rw [HR.out, decide_eq_true g1, decide_eq_false g2]; rfl
      have hb : (s.step == 0) = false := by rw [beq_eq_false_iff_ne]; exact g2
      clear g1 g2
      go_wp2_with (fail)
      have XD := hide (show SBox 36 g s w3.drew from X3.out)
      have LD := hide (L3.out.trans (Later.drew w3))
      have LD1 := hide (L13.out.trans (Later.drew w3))
      refine wp_region_L (by kernel_rfl) ?_
      refine wpAnyL_take (i := 0) (d := some 81) (v := ?vab0) rfl rfl (by kernel_rfl) (by kernel_rfl) (by kernel_rfl) (fun _ _ _ h => h) (by rfl) ?yab0 ?_
      case yab0 => (intro w' hw'; go_simp; try (with_reducible rfl))
      simp only [Act.put]; try simp only [sA_, sZ_, sS_]
      refine wpAnyL_take (i := 1) (d := some 82) (v := ?vab1) rfl rfl (by kernel_rfl) (by kernel_rfl) (by kernel_rfl) (fun _ _ _ h => h) (by rfl) ?yab1 ?_
      case yab1 => (intro w' hw'; have c4 := (XD.out.below hw').c4; rw [HT0.out] at c4; go_simp; try (with_reducible rfl))
      simp only [Act.put]; try simp only [sA_, sZ_, sS_]
      refine wpAnyL_take (i := 2) (d := some 83) (v := ?vab2) rfl rfl (by kernel_rfl) (by kernel_rfl) (by kernel_rfl) (fun _ _ _ h => h) (by rfl) ?yab2 ?_
      case yab2 => (intro w' hw'; go_simp; try (with_reducible rfl))
      simp only [Act.put]; try simp only [sA_, sZ_, sS_]
      refine wpAnyL_take (i := 3) (d := some 84) (v := ?vab3) rfl rfl (by kernel_rfl) (by kernel_rfl) (by kernel_rfl) (fun _ _ _ h => h) (by rfl) ?yab3 ?_
      case yab3 => (intro w' hw'; go_simp; try (with_reducible rfl))
      simp only [Act.put]; try simp only [sA_, sZ_, sS_]
      refine wpAnyL_take (i := 4) (d := some 85) (v := ?vab4) rfl rfl (by kernel_rfl) (by kernel_rfl) (by kernel_rfl) (fun _ _ _ h => h) (by rfl) ?yab4 ?_
      case yab4 => (intro w' hw'; go_simp; try (with_reducible rfl))
      simp only [Act.put]; try simp only [sA_, sZ_, sS_]
      refine wpAnyL_take (i := 5) (d := some 86) (v := ?vab5) rfl rfl (by kernel_rfl) (by kernel_rfl) (by kernel_rfl) (fun _ _ _ h => h) (by rfl) ?yab5 ?_
      case yab5 => (intro w' hw'; have c3 := (XD.out.below hw').c3; go_simp; try (with_reducible rfl))
      simp only [Act.put]; try simp only [sA_, sZ_, sS_]
      refine wpAnyL_take (i := 6) (d := some 87) (v := ?vab6) rfl rfl (by kernel_rfl) (by kernel_rfl) (by kernel_rfl) (fun _ _ _ h => h) (by rfl) ?yab6 ?_
      case yab6 => (intro w' hw'; go_simp; try (with_reducible rfl))
      simp only [Act.put]; try simp only [sA_, sZ_, sS_]
      refine wpAnyL_take (i := 7) (d := some 88) (v := ?vab7) rfl rfl (by kernel_rfl) (by kernel_rfl) (by kernel_rfl) (fun _ _ _ h => h) (by rfl) ?yab7 ?_
      case yab7 => (intro w' hw'; go_simp; try (with_reducible rfl))
      simp only [Act.put]; try simp only [sA_, sZ_, sS_]
      refine wpAnyL_take (i := 8) (d := some 89) (v := ?vab8) rfl rfl (by kernel_rfl) (by kernel_rfl) (by kernel_rfl) (fun _ _ _ h => h) (by rfl) ?yab8 ?_
      case yab8 => (intro w' hw'; go_simp; try (with_reducible rfl))
      simp only [Act.put]; try simp only [sA_, sZ_, sS_]
      refine wpAnyL_pass (i := 9) (d := some 90) rfl rfl (by kernel_rfl) (by kernel_rfl) (by kernel_rfl) (fun _ _ _ h => h) (by rfl) ?_
      try (simp only [Act.put]; try simp only [sA_, sZ_, sS_])
      refine wpAnyL_pass (i := 10) (d := some 91) rfl rfl (by kernel_rfl) (by kernel_rfl) (by kernel_rfl) (fun _ _ _ h => h) (by rfl) ?_
      try (simp only [Act.put]; try simp only [sA_, sZ_, sS_])
      refine wpAnyL_pass (i := 11) (d := some 92) rfl rfl (by kernel_rfl) (by kernel_rfl) (by kernel_rfl) (fun _ _ _ h => h) (by rfl) ?_
      try (simp only [Act.put]; try simp only [sA_, sZ_, sS_])
      refine wpAnyL_pass (i := 12) (d := some 93) rfl rfl (by kernel_rfl) (by kernel_rfl) (by kernel_rfl) (fun _ _ _ h => h) (by rfl) ?_
      try (simp only [Act.put]; try simp only [sA_, sZ_, sS_])
      refine wpAnyL_pass (i := 13) (d := some 94) rfl rfl (by kernel_rfl) (by kernel_rfl) (by kernel_rfl) (fun _ _ _ h => h) (by rfl) ?_
      try (simp only [Act.put]; try simp only [sA_, sZ_, sS_])
      refine wpAnyL_pass (i := 14) (d := some 95) rfl rfl (by kernel_rfl) (by kernel_rfl) (by kernel_rfl) (fun _ _ _ h => h) (by rfl) ?_
      try (simp only [Act.put]; try simp only [sA_, sZ_, sS_])
      refine wpAnyL_pass (i := 15) (d := some 96) rfl rfl (by kernel_rfl) (by kernel_rfl) (by kernel_rfl) (fun _ _ _ h => h) (by rfl) ?_
      try (simp only [Act.put]; try simp only [sA_, sZ_, sS_])
      refine wpAnyL_pass (i := 16) (d := some 97) rfl rfl (by kernel_rfl) (by kernel_rfl) (by kernel_rfl) (fun _ _ _ h => h) (by rfl) ?_
      try (simp only [Act.put]; try simp only [sA_, sZ_, sS_])
      refine wpAnyL_take (i := 17) (d := some 98) (v := ?vab17) rfl rfl (by kernel_rfl) (by kernel_rfl) (by kernel_rfl) (fun _ _ _ h => h) (by rfl) ?yab17 ?_
      case yab17 => (intro w' hw'; go_simp; try (with_reducible rfl))
      simp only [Act.put]; try simp only [sA_, sZ_, sS_]
      refine wpAnyL_take (i := 18) (d := some 2) (v := ?vab18) rfl rfl (by kernel_rfl) (by kernel_rfl) (by kernel_rfl) (fun _ _ _ h => h) (by rfl) ?yab18 ?_
      case yab18 => (intro w' hw'; go_simp; try (with_reducible rfl))
      simp only [Act.put]; try simp only [sA_, sZ_, sS_]
      refine wpAnyL_done (by kernel_rfl) ?_ _
      go_wp2
      go_ret
      exact ⟨rfl, LD.out⟩

  · obtain rfl : R = false := by rw [HR.out, decide_eq_false g1]; rfl
    have hb : (s.tr == 0) = false := by rw [beq_eq_false_iff_ne]; exact g1
    clear g1
    go_wp2_with (fail)
    have XD := hide (show SBox 36 g s w3.drew from X3.out)
    have LD := hide (L3.out.trans (Later.drew w3))
    have LD1 := hide (L13.out.trans (Later.drew w3))
    refine wp_region_L (by kernel_rfl) ?_
    refine wpAnyL_take (i := 0) (d := some 81) (v := ?vaa0) rfl rfl (by kernel_rfl) (by kernel_rfl) (by kernel_rfl) (fun _ _ _ h => h) (by rfl) ?yaa0 ?_
    case yaa0 => (intro w' hw'; go_simp; try (with_reducible rfl))
    simp only [Act.put]; try simp only [sA_, sZ_, sS_]
    refine wpAnyL_take (i := 1) (d := some 82) (v := ?vaa1) rfl rfl (by kernel_rfl) (by kernel_rfl) (by kernel_rfl) (fun _ _ _ h => h) (by rfl) ?yaa1 ?_
    case yaa1 => (intro w' hw'; have c4 := (XD.out.below hw').c4; go_simp; try (with_reducible rfl))
    simp only [Act.put]; try simp only [sA_, sZ_, sS_]
    refine wpAnyL_take (i := 2) (d := some 83) (v := ?vaa2) rfl rfl (by kernel_rfl) (by kernel_rfl) (by kernel_rfl) (fun _ _ _ h => h) (by rfl) ?yaa2 ?_
    case yaa2 => (intro w' hw'; go_simp; try (with_reducible rfl))
    simp only [Act.put]; try simp only [sA_, sZ_, sS_]
    refine wpAnyL_take (i := 3) (d := some 84) (v := ?vaa3) rfl rfl (by kernel_rfl) (by kernel_rfl) (by kernel_rfl) (fun _ _ _ h => h) (by rfl) ?yaa3 ?_
    case yaa3 => (intro w' hw'; go_simp; try (with_reducible rfl))
    simp only [Act.put]; try simp only [sA_, sZ_, sS_]
    refine wpAnyL_pass (i := 4) (d := some 85) rfl rfl (by kernel_rfl) (by kernel_rfl) (by kernel_rfl) (fun _ _ _ h => h) (by rfl) ?_
    try (simp only [Act.put]; try simp only [sA_, sZ_, sS_])
    refine wpAnyL_pass (i := 5) (d := some 86) rfl rfl (by kernel_rfl) (by kernel_rfl) (by kernel_rfl) (fun _ _ _ h => h) (by rfl) ?_
    try (simp only [Act.put]; try simp only [sA_, sZ_, sS_])
    refine wpAnyL_pass (i := 6) (d := some 87) rfl rfl (by kernel_rfl) (by kernel_rfl) (by kernel_rfl) (fun _ _ _ h => h) (by rfl) ?_
    try (simp only [Act.put]; try simp only [sA_, sZ_, sS_])
    refine wpAnyL_take (i := 7) (d := some 88) (v := ?vaa7) rfl rfl (by kernel_rfl) (by kernel_rfl) (by kernel_rfl) (fun _ _ _ h => h) (by rfl) ?yaa7 ?_
    case yaa7 => (intro w' hw'; go_simp; try (with_reducible rfl))
    simp only [Act.put]; try simp only [sA_, sZ_, sS_]
    refine wpAnyL_take (i := 8) (d := some 89) (v := ?vaa8) rfl rfl (by kernel_rfl) (by kernel_rfl) (by kernel_rfl) (fun _ _ _ h => h) (by rfl) ?yaa8 ?_
    case yaa8 => (intro w' hw'; go_simp; try (with_reducible rfl))
    simp only [Act.put]; try simp only [sA_, sZ_, sS_]
    refine wpAnyL_pass (i := 9) (d := some 90) rfl rfl (by kernel_rfl) (by kernel_rfl) (by kernel_rfl) (fun _ _ _ h => h) (by rfl) ?_
    try (simp only [Act.put]; try simp only [sA_, sZ_, sS_])
    refine wpAnyL_pass (i := 10) (d := some 91) rfl rfl (by kernel_rfl) (by kernel_rfl) (by kernel_rfl) (fun _ _ _ h => h) (by rfl) ?_
    try (simp only [Act.put]; try simp only [sA_, sZ_, sS_])
    refine wpAnyL_pass (i := 11) (d := some 92) rfl rfl (by kernel_rfl) (by kernel_rfl) (by kernel_rfl) (fun _ _ _ h => h) (by rfl) ?_
    try (simp only [Act.put]; try simp only [sA_, sZ_, sS_])
    refine wpAnyL_pass (i := 12) (d := some 93) rfl rfl (by kernel_rfl) (by kernel_rfl) (by kernel_rfl) (fun _ _ _ h => h) (by rfl) ?_
    try (simp only [Act.put]; try simp only [sA_, sZ_, sS_])
    refine wpAnyL_pass (i := 13) (d := some 94) rfl rfl (by kernel_rfl) (by kernel_rfl) (by kernel_rfl) (fun _ _ _ h => h) (by rfl) ?_
    try (simp only [Act.put]; try simp only [sA_, sZ_, sS_])
    refine wpAnyL_pass (i := 14) (d := some 95) rfl rfl (by kernel_rfl) (by kernel_rfl) (by kernel_rfl) (fun _ _ _ h => h) (by rfl) ?_
    try (simp only [Act.put]; try simp only [sA_, sZ_, sS_])
    refine wpAnyL_pass (i := 15) (d := some 96) rfl rfl (by kernel_rfl) (by kernel_rfl) (by kernel_rfl) (fun _ _ _ h => h) (by rfl) ?_
    try (simp only [Act.put]; try simp only [sA_, sZ_, sS_])
    refine wpAnyL_pass (i := 16) (d := some 97) rfl rfl (by kernel_rfl) (by kernel_rfl) (by kernel_rfl) (fun _ _ _ h => h) (by rfl) ?_
    try (simp only [Act.put]; try simp only [sA_, sZ_, sS_])
    refine wpAnyL_take (i := 17) (d := some 98) (v := ?vaa17) rfl rfl (by kernel_rfl) (by kernel_rfl) (by kernel_rfl) (fun _ _ _ h => h) (by rfl) ?yaa17 ?_
    case yaa17 => (intro w' hw'; go_simp; try (with_reducible rfl))
    simp only [Act.put]; try simp only [sA_, sZ_, sS_]
    refine wpAnyL_take (i := 18) (d := some 2) (v := ?vaa18) rfl rfl (by kernel_rfl) (by kernel_rfl) (by kernel_rfl) (fun _ _ _ h => h) (by rfl) ?yaa18 ?_
    case yaa18 => (intro w' hw'; go_simp; try (with_reducible rfl))
    simp only [Act.put]; try simp only [sA_, sZ_, sS_]
    refine wpAnyL_done (by kernel_rfl) ?_ _
    go_wp2
    go_ret
    exact ⟨rfl, LD.out⟩

set_option maxHeartbeats 8000000 in
theorem good_gone {F : Nat → Prop} {s : SagaD} {l : List StepD} (h : StepsAt F w s.v l) (hw : ∀ x ∈ l, x.wf) (h1 : I64 s.step) (he : (checkF s.name l).2 = 0) (hst : s.st = 4) : Calls Tryz.prog 45 #[s.val] w (Gives (.bool (decide (s.tr = 0) && (decide (s.step = 0) && decide (s.hit = upH 0)))) w) := by
  obtain ⟨W1, hW1⟩ : ∃ W1, W1 = (w.alloc (.cells s.cells.toArray 36 (0, 0))) := ⟨_, rfl⟩
  obtain ⟨g, hg⟩ : ∃ g, g = w.heap.size := ⟨_, rfl⟩
  have X1 : Hid (SBox 36 g s W1) := by rw [hW1, hg]; exact heap_alloc_new _ _
  have L1 : Hid (Later w W1) := by rw [hW1]; exact (Below.refl _ _).alloc (Nat.le_refl _) _
  have HG0 : Hid (w.heap.size ≤ g) := Nat.le_of_eq hg.symm
  have CC : Hid (Calls Tryz.prog 75 #[.agg #[.string s.name, .slice s.p s.n s.c]] W1 fun e w' => e = .returned (.tuple #[.int .i64 (((checkF s.name l).1 : Nat) : Int), .int .i64 (((checkF s.name l).2 : Nat) : Int)]) ∧ Later W1 w') := check_any (StepsAt.kept h (Kept.of_below L1.out _))
  have C : Hid (∀ W, Later W1 W → Calls Tryz.prog 76 #[.agg #[.string s.name, .slice s.p s.n s.c], .int .i64 s.step] W fun e w' => e = .returned (.int .i64 (triesN l s.step)) ∧ Later W w') := fun W hW => Tries_any (StepsAt.kept h (Kept.of_below (L1.out.trans hW) _)) h1 hw
  have HS : Hid (∀ W, Later W1 W → StepsAt F W s.v l) := fun W hW => StepsAt.kept h (Kept.of_below (L1.out.trans hW) _)
  obtain ⟨k1, hk1⟩ : ∃ k1, (checkF s.name l).1 = k1 := ⟨_, rfl⟩
  obtain ⟨k2, hk2⟩ : ∃ k2, (checkF s.name l).2 = k2 := ⟨_, rfl⟩
  rw [hk1, hk2] at CC
  have HN := hide (steps_n h)
  have HW1 := hide hW1.symm
  have HG := hide hg.symm
  clear hW1 hg h hk1 h1 hw
  have e0 := X1.out.c0
  have e1 := X1.out.c1
  rw [← HW1.out, ← HG.out] at e0 e1
  obtain ⟨T, hT⟩ : ∃ T, triesN l s.step = T := ⟨_, rfl⟩
  rw [hT] at C
  obtain rfl : k2 = 0 := by rw [← hk2]; exact he
  have CU : Hid (∀ (W : World) (k : Int), k ≤ 8 → Calls Tryz.prog 78 #[.int .i64 k] W (Gives (upH k).val W)) := fun W k hk => upTo_any k hk
  obtain ⟨R, hR⟩ : ∃ R, (decide (s.tr = 0) && (decide (s.step = 0) && decide (s.hit = upH 0))) = R := ⟨_, rfl⟩
  rw [hR]
  have HR : Hid (R = (decide (s.tr = 0) && (decide (s.step = 0) && decide (s.hit = upH 0)))) := hR.symm
  have h8 : s.n ≤ 8 := by rw [HN.out]; exact (check_good he).1
  clear hR hT
  clear he hk2
  go_enter Tryz.func45, Tryz.ntmps45
  go_wp2_with (fail)
  simp only [HW1.out, HG.out]
  refine CC.out.mono ?_
  rintro e w2 ⟨rfl, hl⟩
  have L12 := hide hl
  have L2 := hide (L1.out.trans hl)
  have X2 := hide (X1.out.below hl)
  clear hl CC e0 e1
  have d0 := X2.out.c0
  have d1 := X2.out.c1
  have d3 := X2.out.c3
  go_wp2_with (fail)
  refine (C.out _ L12.out).mono ?_
  rintro e w3 ⟨rfl, hl⟩
  have L13 := hide (L12.out.trans hl)
  have L3 := hide (L2.out.trans hl)
  have X3 := hide (X2.out.below hl)
  clear hl C d0 d1 d3
  have c2 := X3.out.c2
  rw [hst] at c2
  clear hst
  by_cases g1 : s.tr = 0
  · have HT0 := hide g1
    by_cases g2 : s.step = 0
    · have HS0 := hide g2
      obtain rfl : R = decide (s.hit = upH 0) := by rw [HR.out, decide_eq_true g1, decide_eq_true g2]; rfl
      clear g1 g2
      go_wp2_with (fail)
      have XD := hide (show SBox 36 g s w3.drew from X3.out)
      have LD := hide (L3.out.trans (Later.drew w3))
      have LD1 := hide (L13.out.trans (Later.drew w3))
      refine wp_region_L (by kernel_rfl) ?_
      refine wpAnyL_take (i := 0) (d := some 101) (v := ?vac0) rfl rfl (by kernel_rfl) (by kernel_rfl) (by kernel_rfl) (fun _ _ _ h => h) (by rfl) ?yac0 ?_
      case yac0 => (intro w' hw'; go_simp; try (with_reducible rfl))
      simp only [Act.put]; try simp only [sA_, sZ_, sS_]
      refine wpAnyL_take (i := 1) (d := some 102) (v := ?vac1) rfl rfl (by kernel_rfl) (by kernel_rfl) (by kernel_rfl) (fun _ _ _ h => h) (by rfl) ?yac1 ?_
      case yac1 => (intro w' hw'; have c4 := (XD.out.below hw').c4; rw [HT0.out] at c4; go_simp; try (with_reducible rfl))
      simp only [Act.put]; try simp only [sA_, sZ_, sS_]
      refine wpAnyL_take (i := 2) (d := some 103) (v := ?vac2) rfl rfl (by kernel_rfl) (by kernel_rfl) (by kernel_rfl) (fun _ _ _ h => h) (by rfl) ?yac2 ?_
      case yac2 => (intro w' hw'; go_simp; try (with_reducible rfl))
      simp only [Act.put]; try simp only [sA_, sZ_, sS_]
      refine wpAnyL_take (i := 3) (d := some 104) (v := ?vac3) rfl rfl (by kernel_rfl) (by kernel_rfl) (by kernel_rfl) (fun _ _ _ h => h) (by rfl) ?yac3 ?_
      case yac3 => (intro w' hw'; go_simp; try (with_reducible rfl))
      simp only [Act.put]; try simp only [sA_, sZ_, sS_]
      refine wpAnyL_take (i := 4) (d := some 105) (v := ?vac4) rfl rfl (by kernel_rfl) (by kernel_rfl) (by kernel_rfl) (fun _ _ _ h => h) (by rfl) ?yac4 ?_
      case yac4 => (intro w' hw'; go_simp; try (with_reducible rfl))
      simp only [Act.put]; try simp only [sA_, sZ_, sS_]
      refine wpAnyL_take (i := 5) (d := some 106) (v := ?vac5) rfl rfl (by kernel_rfl) (by kernel_rfl) (by kernel_rfl) (fun _ _ _ h => h) (by rfl) ?yac5 ?_
      case yac5 => (intro w' hw'; have c3 := (XD.out.below hw').c3; rw [HS0.out] at c3; go_simp; try (with_reducible rfl))
      simp only [Act.put]; try simp only [sA_, sZ_, sS_]
      refine wpAnyL_take (i := 6) (d := some 107) (v := ?vac6) rfl rfl (by kernel_rfl) (by kernel_rfl) (by kernel_rfl) (fun _ _ _ h => h) (by rfl) ?yac6 ?_
      case yac6 => (intro w' hw'; go_simp; try (with_reducible rfl))
      simp only [Act.put]; try simp only [sA_, sZ_, sS_]
      refine wpAnyL_take (i := 7) (d := some 108) (v := ?vac7) rfl rfl (by kernel_rfl) (by kernel_rfl) (by kernel_rfl) (fun _ _ _ h => h) (by rfl) ?yac7 ?_
      case yac7 => (intro w' hw'; go_simp; try (with_reducible rfl))
      simp only [Act.put]; try simp only [sA_, sZ_, sS_]
      refine wpAnyL_take (i := 8) (d := some 109) (v := ?vac8) rfl rfl (by kernel_rfl) (by kernel_rfl) (by kernel_rfl) (fun _ _ _ h => h) (by rfl) ?yac8 ?_
      case yac8 => (intro w' hw'; go_simp; try (with_reducible rfl))
      simp only [Act.put]; try simp only [sA_, sZ_, sS_]
      refine wpAnyL_take (i := 9) (d := some 110) (v := ?vac9) rfl rfl (by kernel_rfl) (by kernel_rfl) (by kernel_rfl) (fun _ _ _ h => h) (by rfl) ?yac9 ?_
      case yac9 => (intro w' hw'; go_simp; try (with_reducible rfl))
      simp only [Act.put]; try simp only [sA_, sZ_, sS_]
      refine wpAnyL_take (i := 10) (d := some 111) (v := s.hit.val) rfl rfl (by kernel_rfl) (by kernel_rfl) (by kernel_rfl) (fun _ _ _ h => h) (by rfl) ?yac10 ?_
      case yac10 => (intro w' hw'; exact exec_load_hits _ (by rfl) (by rfl) (XD.out.below hw'))
      simp only [Act.put]; try simp only [sA_, sZ_, sS_]
      refine wpAnyL_only (i := 11) rfl (by kernel_rfl) (by rfl) fun K hK => ?_
      go_simp
      refine (CU.out _ (0) (by omega)).mono ?_
      rintro e w_11 ⟨rfl, hl_⟩
      have L11 := hide (LD.out.trans hl_)
      have L111 := hide (LD1.out.trans hl_)
      have L311 := hide ((Later.drew w3).trans hl_)
      have X11 := hide (XD.out.below hl_)
      refine hK.out _ _ hl_ ?_
      clear hl_
      clear hK K
      try (simp only [Act.put]; try simp only [sA_, sZ_, sS_])
      refine wpAnyL_take (i := 12) (d := some 113) (v := .bool (decide (s.hit = upH (0)))) rfl rfl (by kernel_rfl) (by kernel_rfl) (by kernel_rfl) (fun _ _ _ h => h) (by rfl) ?yac12 ?_
      case yac12 => (intro w' hw'; exact exec_eql_hits s.hit (upH (0)) _ _ _ (by rfl) (by rfl) (by rfl))
      simp only [Act.put]; try simp only [sA_, sZ_, sS_]
      refine wpAnyL_take (i := 13) (d := some 114) (v := ?vac13) rfl rfl (by kernel_rfl) (by kernel_rfl) (by kernel_rfl) (fun _ _ _ h => h) (by rfl) ?yac13 ?_
      case yac13 => (intro w' hw'; go_simp; try (with_reducible rfl))
      simp only [Act.put]; try simp only [sA_, sZ_, sS_]
      refine wpAnyL_take (i := 14) (d := some 2) (v := ?vac14) rfl rfl (by kernel_rfl) (by kernel_rfl) (by kernel_rfl) (fun _ _ _ h => h) (by rfl) ?yac14 ?_
      case yac14 => (intro w' hw'; go_simp; try (with_reducible rfl))
      simp only [Act.put]; try simp only [sA_, sZ_, sS_]
      refine wpAnyL_done (by kernel_rfl) ?_ _
      go_wp2
      go_ret
      exact ⟨rfl, L11.out⟩

    · obtain rfl : R = false := by rw [HR.out, decide_eq_true g1, decide_eq_false g2]; rfl
      have hb : (s.step == 0) = false := by rw [beq_eq_false_iff_ne]; exact g2
      clear g1 g2
      go_wp2_with (fail)
      have XD := hide (show SBox 36 g s w3.drew from X3.out)
      have LD := hide (L3.out.trans (Later.drew w3))
      have LD1 := hide (L13.out.trans (Later.drew w3))
      refine wp_region_L (by kernel_rfl) ?_
      refine wpAnyL_take (i := 0) (d := some 101) (v := ?vab0) rfl rfl (by kernel_rfl) (by kernel_rfl) (by kernel_rfl) (fun _ _ _ h => h) (by rfl) ?yab0 ?_
      case yab0 => (intro w' hw'; go_simp; try (with_reducible rfl))
      simp only [Act.put]; try simp only [sA_, sZ_, sS_]
      refine wpAnyL_take (i := 1) (d := some 102) (v := ?vab1) rfl rfl (by kernel_rfl) (by kernel_rfl) (by kernel_rfl) (fun _ _ _ h => h) (by rfl) ?yab1 ?_
      case yab1 => (intro w' hw'; have c4 := (XD.out.below hw').c4; rw [HT0.out] at c4; go_simp; try (with_reducible rfl))
      simp only [Act.put]; try simp only [sA_, sZ_, sS_]
      refine wpAnyL_take (i := 2) (d := some 103) (v := ?vab2) rfl rfl (by kernel_rfl) (by kernel_rfl) (by kernel_rfl) (fun _ _ _ h => h) (by rfl) ?yab2 ?_
      case yab2 => (intro w' hw'; go_simp; try (with_reducible rfl))
      simp only [Act.put]; try simp only [sA_, sZ_, sS_]
      refine wpAnyL_take (i := 3) (d := some 104) (v := ?vab3) rfl rfl (by kernel_rfl) (by kernel_rfl) (by kernel_rfl) (fun _ _ _ h => h) (by rfl) ?yab3 ?_
      case yab3 => (intro w' hw'; go_simp; try (with_reducible rfl))
      simp only [Act.put]; try simp only [sA_, sZ_, sS_]
      refine wpAnyL_take (i := 4) (d := some 105) (v := ?vab4) rfl rfl (by kernel_rfl) (by kernel_rfl) (by kernel_rfl) (fun _ _ _ h => h) (by rfl) ?yab4 ?_
      case yab4 => (intro w' hw'; go_simp; try (with_reducible rfl))
      simp only [Act.put]; try simp only [sA_, sZ_, sS_]
      refine wpAnyL_take (i := 5) (d := some 106) (v := ?vab5) rfl rfl (by kernel_rfl) (by kernel_rfl) (by kernel_rfl) (fun _ _ _ h => h) (by rfl) ?yab5 ?_
      case yab5 => (intro w' hw'; have c3 := (XD.out.below hw').c3; go_simp; try (with_reducible rfl))
      simp only [Act.put]; try simp only [sA_, sZ_, sS_]
      refine wpAnyL_take (i := 6) (d := some 107) (v := ?vab6) rfl rfl (by kernel_rfl) (by kernel_rfl) (by kernel_rfl) (fun _ _ _ h => h) (by rfl) ?yab6 ?_
      case yab6 => (intro w' hw'; go_simp; try (with_reducible rfl))
      simp only [Act.put]; try simp only [sA_, sZ_, sS_]
      refine wpAnyL_take (i := 7) (d := some 108) (v := ?vab7) rfl rfl (by kernel_rfl) (by kernel_rfl) (by kernel_rfl) (fun _ _ _ h => h) (by rfl) ?yab7 ?_
      case yab7 => (intro w' hw'; go_simp; try (with_reducible rfl))
      simp only [Act.put]; try simp only [sA_, sZ_, sS_]
      refine wpAnyL_take (i := 8) (d := some 109) (v := ?vab8) rfl rfl (by kernel_rfl) (by kernel_rfl) (by kernel_rfl) (fun _ _ _ h => h) (by rfl) ?yab8 ?_
      case yab8 => (intro w' hw'; go_simp; try (with_reducible rfl))
      simp only [Act.put]; try simp only [sA_, sZ_, sS_]
      refine wpAnyL_pass (i := 9) (d := some 110) rfl rfl (by kernel_rfl) (by kernel_rfl) (by kernel_rfl) (fun _ _ _ h => h) (by rfl) ?_
      try (simp only [Act.put]; try simp only [sA_, sZ_, sS_])
      refine wpAnyL_pass (i := 10) (d := some 111) rfl rfl (by kernel_rfl) (by kernel_rfl) (by kernel_rfl) (fun _ _ _ h => h) (by rfl) ?_
      try (simp only [Act.put]; try simp only [sA_, sZ_, sS_])
      refine wpAnyL_pass (i := 11) (d := some 112) rfl rfl (by kernel_rfl) (by kernel_rfl) (by kernel_rfl) (fun _ _ _ h => h) (by rfl) ?_
      try (simp only [Act.put]; try simp only [sA_, sZ_, sS_])
      refine wpAnyL_pass (i := 12) (d := some 113) rfl rfl (by kernel_rfl) (by kernel_rfl) (by kernel_rfl) (fun _ _ _ h => h) (by rfl) ?_
      try (simp only [Act.put]; try simp only [sA_, sZ_, sS_])
      refine wpAnyL_take (i := 13) (d := some 114) (v := ?vab13) rfl rfl (by kernel_rfl) (by kernel_rfl) (by kernel_rfl) (fun _ _ _ h => h) (by rfl) ?yab13 ?_
      case yab13 => (intro w' hw'; go_simp; try (with_reducible rfl))
      simp only [Act.put]; try simp only [sA_, sZ_, sS_]
      refine wpAnyL_take (i := 14) (d := some 2) (v := ?vab14) rfl rfl (by kernel_rfl) (by kernel_rfl) (by kernel_rfl) (fun _ _ _ h => h) (by rfl) ?yab14 ?_
      case yab14 => (intro w' hw'; go_simp; try (with_reducible rfl))
      simp only [Act.put]; try simp only [sA_, sZ_, sS_]
      refine wpAnyL_done (by kernel_rfl) ?_ _
      go_wp2
      go_ret
      exact ⟨rfl, LD.out⟩

  · obtain rfl : R = false := by rw [HR.out, decide_eq_false g1]; rfl
    have hb : (s.tr == 0) = false := by rw [beq_eq_false_iff_ne]; exact g1
    clear g1
    go_wp2_with (fail)
    have XD := hide (show SBox 36 g s w3.drew from X3.out)
    have LD := hide (L3.out.trans (Later.drew w3))
    have LD1 := hide (L13.out.trans (Later.drew w3))
    refine wp_region_L (by kernel_rfl) ?_
    refine wpAnyL_take (i := 0) (d := some 101) (v := ?vaa0) rfl rfl (by kernel_rfl) (by kernel_rfl) (by kernel_rfl) (fun _ _ _ h => h) (by rfl) ?yaa0 ?_
    case yaa0 => (intro w' hw'; go_simp; try (with_reducible rfl))
    simp only [Act.put]; try simp only [sA_, sZ_, sS_]
    refine wpAnyL_take (i := 1) (d := some 102) (v := ?vaa1) rfl rfl (by kernel_rfl) (by kernel_rfl) (by kernel_rfl) (fun _ _ _ h => h) (by rfl) ?yaa1 ?_
    case yaa1 => (intro w' hw'; have c4 := (XD.out.below hw').c4; go_simp; try (with_reducible rfl))
    simp only [Act.put]; try simp only [sA_, sZ_, sS_]
    refine wpAnyL_take (i := 2) (d := some 103) (v := ?vaa2) rfl rfl (by kernel_rfl) (by kernel_rfl) (by kernel_rfl) (fun _ _ _ h => h) (by rfl) ?yaa2 ?_
    case yaa2 => (intro w' hw'; go_simp; try (with_reducible rfl))
    simp only [Act.put]; try simp only [sA_, sZ_, sS_]
    refine wpAnyL_take (i := 3) (d := some 104) (v := ?vaa3) rfl rfl (by kernel_rfl) (by kernel_rfl) (by kernel_rfl) (fun _ _ _ h => h) (by rfl) ?yaa3 ?_
    case yaa3 => (intro w' hw'; go_simp; try (with_reducible rfl))
    simp only [Act.put]; try simp only [sA_, sZ_, sS_]
    refine wpAnyL_pass (i := 4) (d := some 105) rfl rfl (by kernel_rfl) (by kernel_rfl) (by kernel_rfl) (fun _ _ _ h => h) (by rfl) ?_
    try (simp only [Act.put]; try simp only [sA_, sZ_, sS_])
    refine wpAnyL_pass (i := 5) (d := some 106) rfl rfl (by kernel_rfl) (by kernel_rfl) (by kernel_rfl) (fun _ _ _ h => h) (by rfl) ?_
    try (simp only [Act.put]; try simp only [sA_, sZ_, sS_])
    refine wpAnyL_pass (i := 6) (d := some 107) rfl rfl (by kernel_rfl) (by kernel_rfl) (by kernel_rfl) (fun _ _ _ h => h) (by rfl) ?_
    try (simp only [Act.put]; try simp only [sA_, sZ_, sS_])
    refine wpAnyL_take (i := 7) (d := some 108) (v := ?vaa7) rfl rfl (by kernel_rfl) (by kernel_rfl) (by kernel_rfl) (fun _ _ _ h => h) (by rfl) ?yaa7 ?_
    case yaa7 => (intro w' hw'; go_simp; try (with_reducible rfl))
    simp only [Act.put]; try simp only [sA_, sZ_, sS_]
    refine wpAnyL_take (i := 8) (d := some 109) (v := ?vaa8) rfl rfl (by kernel_rfl) (by kernel_rfl) (by kernel_rfl) (fun _ _ _ h => h) (by rfl) ?yaa8 ?_
    case yaa8 => (intro w' hw'; go_simp; try (with_reducible rfl))
    simp only [Act.put]; try simp only [sA_, sZ_, sS_]
    refine wpAnyL_pass (i := 9) (d := some 110) rfl rfl (by kernel_rfl) (by kernel_rfl) (by kernel_rfl) (fun _ _ _ h => h) (by rfl) ?_
    try (simp only [Act.put]; try simp only [sA_, sZ_, sS_])
    refine wpAnyL_pass (i := 10) (d := some 111) rfl rfl (by kernel_rfl) (by kernel_rfl) (by kernel_rfl) (fun _ _ _ h => h) (by rfl) ?_
    try (simp only [Act.put]; try simp only [sA_, sZ_, sS_])
    refine wpAnyL_pass (i := 11) (d := some 112) rfl rfl (by kernel_rfl) (by kernel_rfl) (by kernel_rfl) (fun _ _ _ h => h) (by rfl) ?_
    try (simp only [Act.put]; try simp only [sA_, sZ_, sS_])
    refine wpAnyL_pass (i := 12) (d := some 113) rfl rfl (by kernel_rfl) (by kernel_rfl) (by kernel_rfl) (fun _ _ _ h => h) (by rfl) ?_
    try (simp only [Act.put]; try simp only [sA_, sZ_, sS_])
    refine wpAnyL_take (i := 13) (d := some 114) (v := ?vaa13) rfl rfl (by kernel_rfl) (by kernel_rfl) (by kernel_rfl) (fun _ _ _ h => h) (by rfl) ?yaa13 ?_
    case yaa13 => (intro w' hw'; go_simp; try (with_reducible rfl))
    simp only [Act.put]; try simp only [sA_, sZ_, sS_]
    refine wpAnyL_take (i := 14) (d := some 2) (v := ?vaa14) rfl rfl (by kernel_rfl) (by kernel_rfl) (by kernel_rfl) (fun _ _ _ h => h) (by rfl) ?yaa14 ?_
    case yaa14 => (intro w' hw'; go_simp; try (with_reducible rfl))
    simp only [Act.put]; try simp only [sA_, sZ_, sS_]
    refine wpAnyL_done (by kernel_rfl) ?_ _
    go_wp2
    go_ret
    exact ⟨rfl, LD.out⟩

set_option maxHeartbeats 8000000 in
theorem good_other {F : Nat → Prop} {s : SagaD} {l : List StepD} (h : StepsAt F w s.v l) (hw : ∀ x ∈ l, x.wf) (h1 : I64 s.step) (he : (checkF s.name l).2 = 0) (n1 : s.st ≠ 1) (n2 : s.st ≠ 2) (n3 : s.st ≠ 3) (n4 : s.st ≠ 4) (n5 : s.st ≠ 5) : Calls Tryz.prog 45 #[s.val] w (Gives (.bool false) w) := by
  obtain ⟨W1, hW1⟩ : ∃ W1, W1 = (w.alloc (.cells s.cells.toArray 36 (0, 0))) := ⟨_, rfl⟩
  obtain ⟨g, hg⟩ : ∃ g, g = w.heap.size := ⟨_, rfl⟩
  have X1 : Hid (SBox 36 g s W1) := by rw [hW1, hg]; exact heap_alloc_new _ _
  have L1 : Hid (Later w W1) := by rw [hW1]; exact (Below.refl _ _).alloc (Nat.le_refl _) _
  have HG0 : Hid (w.heap.size ≤ g) := Nat.le_of_eq hg.symm
  have CC : Hid (Calls Tryz.prog 75 #[.agg #[.string s.name, .slice s.p s.n s.c]] W1 fun e w' => e = .returned (.tuple #[.int .i64 (((checkF s.name l).1 : Nat) : Int), .int .i64 (((checkF s.name l).2 : Nat) : Int)]) ∧ Later W1 w') := check_any (StepsAt.kept h (Kept.of_below L1.out _))
  have C : Hid (∀ W, Later W1 W → Calls Tryz.prog 76 #[.agg #[.string s.name, .slice s.p s.n s.c], .int .i64 s.step] W fun e w' => e = .returned (.int .i64 (triesN l s.step)) ∧ Later W w') := fun W hW => Tries_any (StepsAt.kept h (Kept.of_below (L1.out.trans hW) _)) h1 hw
  have HS : Hid (∀ W, Later W1 W → StepsAt F W s.v l) := fun W hW => StepsAt.kept h (Kept.of_below (L1.out.trans hW) _)
  obtain ⟨k1, hk1⟩ : ∃ k1, (checkF s.name l).1 = k1 := ⟨_, rfl⟩
  obtain ⟨k2, hk2⟩ : ∃ k2, (checkF s.name l).2 = k2 := ⟨_, rfl⟩
  rw [hk1, hk2] at CC
  have HN := hide (steps_n h)
  have HW1 := hide hW1.symm
  have HG := hide hg.symm
  clear hW1 hg h hk1 h1 hw
  have e0 := X1.out.c0
  have e1 := X1.out.c1
  rw [← HW1.out, ← HG.out] at e0 e1
  obtain ⟨T, hT⟩ : ∃ T, triesN l s.step = T := ⟨_, rfl⟩
  rw [hT] at C
  obtain rfl : k2 = 0 := by rw [← hk2]; exact he
  clear he hk2
  go_enter Tryz.func45, Tryz.ntmps45
  go_wp2_with (fail)
  simp only [HW1.out, HG.out]
  refine CC.out.mono ?_
  rintro e w2 ⟨rfl, hl⟩
  have L12 := hide hl
  have L2 := hide (L1.out.trans hl)
  have X2 := hide (X1.out.below hl)
  clear hl CC e0 e1
  have d0 := X2.out.c0
  have d1 := X2.out.c1
  have d3 := X2.out.c3
  go_wp2_with (fail)
  refine (C.out _ L12.out).mono ?_
  rintro e w3 ⟨rfl, hl⟩
  have L13 := hide (L12.out.trans hl)
  have L3 := hide (L2.out.trans hl)
  have X3 := hide (X2.out.below hl)
  clear hl C d0 d1 d3
  have c2 := X3.out.c2
  have b1 : (s.st == 1) = false := by rw [beq_eq_false_iff_ne]; exact n1
  have b2 : (s.st == 2) = false := by rw [beq_eq_false_iff_ne]; exact n2
  have b3 : (s.st == 3) = false := by rw [beq_eq_false_iff_ne]; exact n3
  have b4 : (s.st == 4) = false := by rw [beq_eq_false_iff_ne]; exact n4
  have b5 : (s.st == 5) = false := by rw [beq_eq_false_iff_ne]; exact n5
  clear n1 n2 n3 n4 n5
  go_wp2
  go_ret
  exact ⟨rfl, L3.out⟩
theorem good_any {F : Nat → Prop} {s : SagaD} {l : List StepD} (h : StepsAt F w s.v l) (hw : ∀ x ∈ l, x.wf) (h1 : I64 s.step) : Calls Tryz.prog 45 #[s.val] w (Gives (.bool (goodF l s)) w) := by
  unfold goodF
  by_cases he : (checkF s.name l).2 = 0
  · rw [if_neg (by rw [he]; decide)]
    by_cases n1 : s.st = 1
    · rw [if_pos n1]; exact good_run h hw h1 he n1
    · rw [if_neg n1]
      by_cases n2 : s.st = 2
      · rw [if_pos n2]; exact good_undo h hw h1 he n2
      · rw [if_neg n2]
        by_cases n5 : s.st = 5
        · rw [if_pos n5]; exact good_stuck h hw h1 he n5
        · rw [if_neg n5]
          by_cases n3 : s.st = 3
          · rw [if_pos n3, ← steps_n h]; exact good_done h hw h1 he n3
          · rw [if_neg n3]
            by_cases n4 : s.st = 4
            · rw [if_pos n4]; exact good_gone h hw h1 he n4
            · rw [if_neg n4]; exact good_other h hw h1 he n1 n2 n3 n4 n5
  · rw [if_pos he]; exact good_err h hw h1 he
end
end Go.Proofs.YtpckdhjnhnonhaaGreat
/- What a saga wants. -/
namespace Go.Proofs.YtpckdhjnhnonhaaGreat
open Go.RowKit
def CmdD.zero : CmdD := ⟨0, 0, 0, false⟩
def CBox (g : Nat) (c : CmdD) (w : World) : Prop := w.heap[g]? = some (.cells c.cells.toArray 62 (0, 0))
theorem CmdD.one (s : CmdD) : ∀ u ∈ s.cells, u.oneCell' = true := by
  intro u hu
  simp only [CmdD.cells, List.mem_cons, List.not_mem_nil, or_false] at hu
  rcases hu with rfl | rfl | rfl | rfl | rfl | rfl <;> rfl
theorem cmd_put (x y : CmdD) : putAt x.cells.toArray 0 y.cells = y.cells.toArray := by simp [putAt, CmdD.cells]
section
variable {w w' : World} {g : Nat} {c z : CmdD}
theorem CBox.lt (h : CBox g c w) : g < w.heap.size := lt_of_block h
theorem CBox.below (h : CBox g c w) (hl : Later w w') : CBox g c w' := (Below.block hl g (lt_of_block h)).trans h
theorem CBox.cells (h : CBox g c w) : w.cell? ⟨g, 0, none⟩ = some (.int .i64 0) ∧ w.cell? ⟨g, 1, none⟩ = some (.int .i64 c.stub) ∧ w.cell? ⟨g, 2, none⟩ = some (.int .i64 0) ∧ w.cell? ⟨g, 3, none⟩ = some (.int .i64 c.step) ∧ w.cell? ⟨g, 4, none⟩ = some (.int .i64 c.tr) ∧ w.cell? ⟨g, 5, none⟩ = some (.bool c.back) ∧ ∀ i, w.frozen? ⟨g, i, none⟩ = false :=
  ⟨(cell_of_row w g 0 _ _ _ h).trans rfl, (cell_of_row w g 1 _ _ _ h).trans rfl, (cell_of_row w g 2 _ _ _ h).trans rfl, (cell_of_row w g 3 _ _ _ h).trans rfl, (cell_of_row w g 4 _ _ _ h).trans rfl, (cell_of_row w g 5 _ _ _ h).trans rfl, fun i => frozen_of_row w g i _ _ h⟩
variable {ops : Array Oper} {rest : List Oper} {op : Oper} {a : Act} {Q : Exit → Act → World → Prop}
theorem wpList_store_cmd (hgd : op.guard = none) (x y : Operand) (ho : op.op = .store 62 x y) (hx : a.eval x = .pointer (some ⟨g, 0, none⟩)) (hg : CBox g z w) (hy : a.eval y = c.val)
    (h : ∀ w', CBox g c w' → w.grownBy w' (some g) → wpList Tryz.prog ops Q rest (a.put op.dst undef) w') : wpList Tryz.prog ops Q (op :: rest) a w :=
  wpList_store_box hgd 62 x y ho g 0 c.cells.toArray hx hy 62 _ hg (by kernel_rfl) (by exact Nat.le_of_ble_eq_true rfl) (by exact c.one) (fun w' hb hg' => h w' (by rw [show c.cells.toArray.toList = c.cells from rfl, cmd_put] at hb; exact hb) hg')
end
theorem results_box3 {P : Program} {fn : Func} {p q r : Tmp} {ty : TypeId} (h : fn.results = #[.cell p ty, .tmp q, .tmp r]) (tmps : Array Value) (w : World) (g : Nat) (T : TypeId) (cs : Array Value) (d : TypeDesc)
    (hp : tmps.getD p undef = .pointer (some ⟨g, 0, none⟩)) (hg : w.heap[g]? = some (.cells cs T (0, 0)))
    (hu : P.underlying ty = some d) (hd : (match d with | .struct _ | .array _ _ => true | _ => false) = true) (hi : (P.info? ty).map (·.size) = some cs.size) (v : Value) (hv : tmps.getD q undef = v) (u : Value) (huv : tmps.getD r undef = u) :
    (results fn tmps).run P w = .ok (.tuple #[.agg cs, v, u]) w := by
  have hp' : tmps[p]?.getD undef = .pointer (some ⟨g, 0, none⟩) := by simpa using hp
  have hv' : tmps[q]?.getD undef = v := by simpa using hv
  have hu' : tmps[r]?.getD undef = u := by simpa using huv
  simp [results, h, hp', hv', hu', asAddr, run_loadVar_row w g T ty cs (0, 0) d hg hu hd hi]
theorem wants_parts {l : List StepD} {s : SagaD} (h : wantsB l s = true) : (checkF s.name l).2 = 0 ∧ 1 ≤ s.step ∧ s.step ≤ (l.length : Int) ∧ s.step ≤ 8 ∧ 1 ≤ s.tr ∧ s.tr ≤ triesN l s.step ∧ (s.st = 1 ∨ s.st = 2) ∧ goodF l s = true := by
  unfold wantsB at h
  rw [Bool.and_eq_true] at h
  obtain ⟨hg, hs⟩ := h
  have hs2 : s.st = 1 ∨ s.st = 2 := by simpa using hs
  have hg0 := hg
  unfold goodF at hg
  by_cases he : (checkF s.name l).2 = 0
  · rw [if_neg (by rw [he]; decide)] at hg
    have h8 := (check_good he).1
    rcases hs2 with h1 | h1
    · rw [if_pos h1] at hg
      simp only [Bool.and_eq_true, decide_eq_true_eq] at hg
      have := tries_pos (l := l) (k := s.step) (by omega)
      exact ⟨he, this.1, this.2, by omega, hg.1, hg.2.1, .inl h1, hg0⟩
    · rw [if_neg (by omega), if_pos h1] at hg
      simp only [Bool.and_eq_true, decide_eq_true_eq] at hg
      have := tries_pos (l := l) (k := s.step) (by omega)
      exact ⟨he, this.1, this.2, by omega, hg.1, hg.2.1, .inr h1, hg0⟩
  · rw [if_pos he] at hg; cases hg
theorem cmd_wrote {W : World} {b : Nat} {z : CmdD} (s t r : Int) (d : Bool) (h : CBox b z W) : CBox b ⟨s, t, r, d⟩ ((((((W.setCell ⟨b, 0, none⟩ (.int .i64 0)).setCell ⟨b, 1, none⟩ (.int .i64 s)).setCell ⟨b, 2, none⟩ (.int .i64 0)).setCell ⟨b, 3, none⟩ (.int .i64 t)).setCell ⟨b, 4, none⟩ (.int .i64 r)).setCell ⟨b, 5, none⟩ (.bool d)) ∧ W.grownBy ((((((W.setCell ⟨b, 0, none⟩ (.int .i64 0)).setCell ⟨b, 1, none⟩ (.int .i64 s)).setCell ⟨b, 2, none⟩ (.int .i64 0)).setCell ⟨b, 3, none⟩ (.int .i64 t)).setCell ⟨b, 4, none⟩ (.int .i64 r)).setCell ⟨b, 5, none⟩ (.bool d)) (some b) := by
  have h6 := heap_setCells b (CmdD.cells ⟨s, t, r, d⟩) 0 W _ h
  rw [cmd_put] at h6
  exact ⟨h6, grown_setCells b (CmdD.cells ⟨s, t, r, d⟩) 0 W⟩
def Wanted (l : List StepD) (s : SagaD) (w : World) (e : Ending) (w' : World) : Prop := e = .returned (.tuple #[(wantsC l s).val, .int .i64 (wantsW l s), .bool (wantsB l s)]) ∧ Later w w'
section
variable {w : World}
set_option maxHeartbeats 4000000 in
theorem wants_no {F : Nat → Prop} {s : SagaD} {l : List StepD} (h : StepsAt F w s.v l) (hw : ∀ x ∈ l, x.wf) (h1 : I64 s.step) (hq : wantsB l s = false) : Calls Tryz.prog 87 #[s.val] w (Wanted l s w) := by
  obtain ⟨W1, hW1⟩ : ∃ W1, W1 = (w.alloc (.cells s.cells.toArray 36 (0, 0))).alloc (.cells #[.int .i64 0, .int .i64 0, .int .i64 0, .int .i64 0, .int .i64 0, .bool false] 62 (0, 0)) := ⟨_, rfl⟩
  obtain ⟨g, hg⟩ : ∃ g, g = w.heap.size := ⟨_, rfl⟩
  have X1 : Hid (SBox 36 g s W1) := by rw [hW1, hg]; exact (heap_alloc_old _ _ (by simp)).trans (heap_alloc_new _ _)
  have Y1 : Hid (CBox (g + 1) CmdD.zero W1) := by rw [hW1, hg]; exact heap_second _ _ _
  have L1 : Hid (Later w W1) := by rw [hW1]; exact ((Below.refl _ _).alloc (Nat.le_refl _) _).alloc (by simp) _
  have HG0 : Hid (w.heap.size ≤ g) := Nat.le_of_eq hg.symm
  have C : Hid (∀ W, Later W1 W → Calls Tryz.prog 45 #[s.val] W (Gives (.bool (goodF l s)) W)) := fun W hW => good_any (StepsAt.kept h (Kept.of_below (L1.out.trans hW) _)) hw h1
  have HR : Hid (Value.tuple #[(wantsC l s).val, .int .i64 (wantsW l s), .bool (wantsB l s)] = .tuple #[CmdD.zero.val, .int .i64 0, .bool false]) := by
    show _ = _
    unfold wantsC wantsW
    rw [hq]
    rfl
  have HB : Hid (goodF l s = false ∨ (s.st ≠ 1 ∧ s.st ≠ 2)) := by
    unfold wantsB at hq
    cases hg : goodF l s with
    | false => exact .inl rfl
    | true => rw [hg] at hq; exact .inr (by simpa using hq)
  obtain ⟨q, hq2⟩ : ∃ q, goodF l s = q := ⟨_, rfl⟩
  rw [hq2] at C HB
  have HW1 := hide hW1.symm
  have HG := hide hg.symm
  clear hW1 hg h hw h1 hq hq2
  have xe := X1.out
  rw [← HW1.out, ← HG.out] at xe
  have XE := hide xe
  clear xe
  go_enter Tryz.func87, Tryz.ntmps87
  go_wp2_with (refine wpList_load_saga (by rfl) _ (by rfl) (by rfl) XE.out ?_; simp only [HW1.out, HG.out])
  refine (C.out _ (Later.refl _)).mono ?_
  rintro e w2 ⟨rfl, hl⟩
  have L12 := hide hl
  have L2 := hide (L1.out.trans hl)
  have X2 := hide (X1.out.below hl)
  have Y2 := hide (Y1.out.below hl)
  clear hl C
  cases q with
  | false =>
    go_wp2_with (refine wpList_store_cmd (c := CmdD.zero) (by rfl) _ _ (by rfl) (by rfl) Y2.out (by rfl) ?_; intro w3 Z3 G3)
    have HLF : Hid (Later w _) := L2.out.grown G3 (Below.size L2.out) (fun k hk => by have := Option.some.inj hk; have := HG0.out; omega)
    refine bodyPost_ret (results_box3 Tryz.results87 _ _ (g + 1) 62 _ _ (by rfl) Z3 Tryz.underlying62 (by rfl) (by kernel_rfl) (.int .i64 0) (by rfl) (.bool false) (by rfl)) (by rfl) ?_
    exact ⟨congrArg _ HR.out.symm, HLF.out⟩
  | true =>
    obtain ⟨n1, n2⟩ : s.st ≠ 1 ∧ s.st ≠ 2 := HB.out.resolve_left (by simp)
    have b1 : (s.st != 1) = true := by simpa using n1
    have b2 : (s.st != 2) = true := by simpa using n2
    have c2 := X2.out.c2
    clear n1 n2
    go_wp2_with (refine wpList_store_cmd (c := CmdD.zero) (by rfl) _ _ (by rfl) (by rfl) Y2.out (by rfl) ?_; intro w3 Z3 G3)
    have HLF : Hid (Later w _) := L2.out.grown G3 (Below.size L2.out) (fun k hk => by have := Option.some.inj hk; have := HG0.out; omega)
    refine bodyPost_ret (results_box3 Tryz.results87 _ _ (g + 1) 62 _ _ (by rfl) Z3 Tryz.underlying62 (by rfl) (by kernel_rfl) (.int .i64 0) (by rfl) (.bool false) (by rfl)) (by rfl) ?_
    exact ⟨congrArg _ HR.out.symm, HLF.out⟩
end
end Go.Proofs.YtpckdhjnhnonhaaGreat
/- What a saga wants, whole. -/
namespace Go.Proofs.YtpckdhjnhnonhaaGreat
open Go.RowKit
section
variable {w : World}
set_option maxHeartbeats 4000000 in
theorem wants_yes {F : Nat → Prop} {s : SagaD} {l : List StepD} (st : Int) (h : StepsAt F w s.v l) (hw : ∀ x ∈ l, x.wf) (h1 : I64 s.step) (hq : wantsB l s = true) (hs : s.st = st) (hst : st = 1 ∨ st = 2) : Calls Tryz.prog 87 #[s.val] w (Wanted l s w) := by
  obtain ⟨W1, hW1⟩ : ∃ W1, W1 = (w.alloc (.cells s.cells.toArray 36 (0, 0))).alloc (.cells #[.int .i64 0, .int .i64 0, .int .i64 0, .int .i64 0, .int .i64 0, .bool false] 62 (0, 0)) := ⟨_, rfl⟩
  obtain ⟨g, hg⟩ : ∃ g, g = w.heap.size := ⟨_, rfl⟩
  have X1 : Hid (SBox 36 g s W1) := by rw [hW1, hg]; exact (heap_alloc_old _ _ (by simp)).trans (heap_alloc_new _ _)
  have Y1 : Hid (CBox (g + 1) CmdD.zero W1) := by rw [hW1, hg]; exact heap_second _ _ _
  have L1 : Hid (Later w W1) := by rw [hW1]; exact ((Below.refl _ _).alloc (Nat.le_refl _) _).alloc (by simp) _
  have HG0 : Hid (w.heap.size ≤ g) := Nat.le_of_eq hg.symm
  have C : Hid (∀ W, Later W1 W → Calls Tryz.prog 45 #[s.val] W (Gives (.bool (goodF l s)) W)) := fun W hW => good_any (StepsAt.kept h (Kept.of_below (L1.out.trans hW) _)) hw h1
  obtain ⟨he, p1, p2, p3, p4, p5, p6, p7⟩ := wants_parts hq
  rw [p7] at C
  obtain ⟨q, hqk⟩ : ∃ q : Nat, s.step = (q : Int) + 1 := ⟨(s.step - 1).toNat, by omega⟩
  have hql : q < l.length := by omega
  obtain ⟨x, b, off, c', hx, hvv, _, _, hb, hr⟩ := StepsAt.at_ h (i := q) hql
  have hn := steps_n h
  rw [← hn] at hvv
  have hv1 : s.p = some ⟨b, off, none⟩ := by
    unfold SagaD.v at hvv
    injection hvv
  have HV := hide hv1
  have HK := hide hqk
  have hqn : q < s.n := by omega
  have hq8 : q < 8 := by omega
  have HX : Hid (stepAt l s.step = x) := by show _ = _; unfold stepAt; rw [hqk, show ((q : Int) + 1 - 1).toNat = q from by omega, hx]; rfl
  have HR : Hid (Value.tuple #[(wantsC l s).val, .int .i64 (wantsW l s), .bool (wantsB l s)] = .tuple #[.agg #[.int .i64 0, .int .i64 x.stub, .int .i64 0, .int .i64 ((q : Int) + 1), .int .i64 s.tr, .bool (decide (st = 2))], .int .i64 x.wait, .bool true]) := by
    show _ = _
    unfold wantsC wantsW
    rw [hq, if_pos rfl, if_pos rfl, HX.out, hqk, hs]
    rfl
  have HRB : Hid (∀ W, Later W1 W → W.rangeAt b (off + q * 6) x.cells) := fun W hW j u hj => (Below.cell (L1.out.trans hW) (p := ⟨b, off + q * 6 + j, none⟩) hb).trans (hr j u hj)
  have HS := hide hs
  have HW1 := hide hW1.symm
  have HG := hide hg.symm
  clear hW1 hg h hw h1 hq he p1 p2 p3 p4 p5 p6 p7 hx hvv hr hb hql hqk hv1 hs hn
  have xe := X1.out
  rw [← HW1.out, ← HG.out] at xe
  have XE := hide xe
  clear xe
  go_enter Tryz.func87, Tryz.ntmps87
  go_wp2_with (refine wpList_load_saga (by rfl) _ (by rfl) (by rfl) XE.out ?_; simp only [HW1.out, HG.out])
  refine (C.out _ (Later.refl _)).mono ?_
  rintro e w2 ⟨rfl, hl⟩
  have L12 := hide hl
  have L2 := hide (L1.out.trans hl)
  have X2 := hide (X1.out.below hl)
  have Y2 := hide (Y1.out.below hl)
  clear hl C
  have c1 := X2.out.c1
  have c2 := X2.out.c2
  have c3 := X2.out.c3
  have c4 := X2.out.c4
  rw [HV.out] at c1
  rw [HS.out] at c2
  rw [HK.out] at c3
  obtain ⟨r0, r1, r2, r3, r4, r5⟩ := range_step (HRB.out _ L12.out)
  have hwr : IntKind.i64.wrap ((q : Int) + 1 - 1) = (q : Int) := by rw [show (q : Int) + 1 - 1 = (q : Int) from by omega]; exact wrap_fits (by omega)
  obtain ⟨W5, hW5⟩ : ∃ W5, W5 = w2.alloc (.cells #[.string x.name, .int .i64 x.stub, .int .i64 x.retry, .int .i64 x.wait, .bool x.undo, .bool x.pivot] 67 (0, 0)) := ⟨_, rfl⟩
  obtain ⟨y, hy⟩ : ∃ y, y = w2.heap.size := ⟨_, rfl⟩
  have B5 : Hid (StepBox y x W5) := by rw [hW5, hy]; exact heap_alloc_new w2 _
  have L25 : Hid (Later w2 W5) := by rw [hW5]; exact (Below.refl _ _).alloc (Nat.le_refl _) _
  have HW5 := hide hW5.symm
  have HY := hide hy.symm
  clear hW5 hy
  rcases hst with rfl | rfl
  · go_wp2_with (fail)
    simp only [HW5.out, HY.out]
    have X5 := hide (X2.out.below L25.out)
    have Y5 := hide (Y2.out.below L25.out)
    have d2 := X5.out.c2
    have d3 := X5.out.c3
    have d4 := X5.out.c4
    rw [HS.out] at d2
    rw [HK.out] at d3
    obtain ⟨s0, s1, s2, s3, s4, s5, sf⟩ := B5.out.cells
    obtain ⟨k0, k1, k2, k3, k4, k5, kf⟩ := Y5.out.cells
    have L5 := hide (L2.out.trans L25.out)
    have hne1 : ¬ (g + 1 = y) := by have := Y2.out.lt; rw [HY.out] at this; omega
    have hne2 : ¬ (y = g + 1) := fun e => hne1 e.symm
    clear c1 c2 c3 c4 r0 r1 r2 r3 r4 r5
    go_region
    obtain ⟨h6, g6⟩ := cmd_wrote x.stub ((q : Int) + 1) s.tr false Y5.out
    have HLF0 := hide (Below.grown L5.out g6 (Below.size L5.out) (fun k hk => by have := Option.some.inj hk; have := HG0.out; omega))
    have Z6 := hide (h6.below (Later.drew _))
    have HLF := hide (Later.trans (b := ((((((W5.setCell ⟨g + 1, 0, none⟩ (.int .i64 0)).setCell ⟨g + 1, 1, none⟩ (.int .i64 x.stub)).setCell ⟨g + 1, 2, none⟩ (.int .i64 0)).setCell ⟨g + 1, 3, none⟩ (.int .i64 ((q : Int) + 1))).setCell ⟨g + 1, 4, none⟩ (.int .i64 s.tr)).setCell ⟨g + 1, 5, none⟩ (.bool false))) HLF0.out (Later.drew _))
    clear h6 g6
    go_wp2
    refine bodyPost_ret (results_box3 Tryz.results87 _ _ (g + 1) 62 _ _ (by rfl) Z6.out Tryz.underlying62 (by rfl) (by kernel_rfl) (.int .i64 x.wait) (by rfl) (.bool true) (by rfl)) (by rfl) ?_
    exact ⟨congrArg _ HR.out.symm, HLF.out⟩
  · go_wp2_with (fail)
    simp only [HW5.out, HY.out]
    have X5 := hide (X2.out.below L25.out)
    have Y5 := hide (Y2.out.below L25.out)
    have d2 := X5.out.c2
    have d3 := X5.out.c3
    have d4 := X5.out.c4
    rw [HS.out] at d2
    rw [HK.out] at d3
    obtain ⟨s0, s1, s2, s3, s4, s5, sf⟩ := B5.out.cells
    obtain ⟨k0, k1, k2, k3, k4, k5, kf⟩ := Y5.out.cells
    have L5 := hide (L2.out.trans L25.out)
    have hne1 : ¬ (g + 1 = y) := by have := Y2.out.lt; rw [HY.out] at this; omega
    have hne2 : ¬ (y = g + 1) := fun e => hne1 e.symm
    clear c1 c2 c3 c4 r0 r1 r2 r3 r4 r5
    go_region
    obtain ⟨h6, g6⟩ := cmd_wrote x.stub ((q : Int) + 1) s.tr true Y5.out
    have HLF0 := hide (Below.grown L5.out g6 (Below.size L5.out) (fun k hk => by have := Option.some.inj hk; have := HG0.out; omega))
    have Z6 := hide (h6.below (Later.drew _))
    have HLF := hide (Later.trans (b := ((((((W5.setCell ⟨g + 1, 0, none⟩ (.int .i64 0)).setCell ⟨g + 1, 1, none⟩ (.int .i64 x.stub)).setCell ⟨g + 1, 2, none⟩ (.int .i64 0)).setCell ⟨g + 1, 3, none⟩ (.int .i64 ((q : Int) + 1))).setCell ⟨g + 1, 4, none⟩ (.int .i64 s.tr)).setCell ⟨g + 1, 5, none⟩ (.bool true))) HLF0.out (Later.drew _))
    clear h6 g6
    go_wp2
    refine bodyPost_ret (results_box3 Tryz.results87 _ _ (g + 1) 62 _ _ (by rfl) Z6.out Tryz.underlying62 (by rfl) (by kernel_rfl) (.int .i64 x.wait) (by rfl) (.bool true) (by rfl)) (by rfl) ?_
    exact ⟨congrArg _ HR.out.symm, HLF.out⟩
theorem wants_any {F : Nat → Prop} {s : SagaD} {l : List StepD} (h : StepsAt F w s.v l) (hw : ∀ x ∈ l, x.wf) (h1 : I64 s.step) : Calls Tryz.prog 87 #[s.val] w (Wanted l s w) := by
  cases hq : wantsB l s with
  | false => exact wants_no h hw h1 hq
  | true => exact wants_yes s.st h hw h1 hq rfl (wants_parts hq).2.2.2.2.2.2.1
end
end Go.Proofs.YtpckdhjnhnonhaaGreat
/- What an event makes of a saga. -/
namespace Go.Proofs.YtpckdhjnhnonhaaGreat
open Go.RowKit
theorem tries_le {name : ByteArray} {l : List StepD} {k : Int} (h : (checkF name l).2 = 0) : triesN l k ≤ 10 := by
  by_cases hk : k < 1 ∨ (l.length : Int) < k
  · rw [triesN_no hk]; omega
  · obtain ⟨q, rfl⟩ : ∃ q : Nat, k = (q : Int) + 1 := ⟨(k - 1).toNat, by omega⟩
    have hq : q < l.length := by omega
    rw [triesN_at (List.getElem?_eq_getElem hq)]
    have hg := (check_good h).2.2.2 _ (List.getElem_mem hq)
    rw [tries_good hg]
    have := good_nums hg
    omega
def Told (s : SagaD) (ok : Bool) (l : List StepD) (w : World) (e : Ending) (w' : World) : Prop := ∃ p n c, e = .returned (.tuple #[(s.withV p n c).val, .bool ok]) ∧ StepsAt (w.heap.size ≤ ·) w' (.slice p n c) l ∧ Later w w'
theorem hitN_v (s : SagaD) (b : Bool) : (s.hitN b).v = s.v := rfl
theorem nextS_v (l : List StepD) (s : SagaD) : (nextS l s).v = s.v := by unfold nextS; split <;> rfl
theorem downS_v (l : List StepD) (s : SagaD) : (downS l s).v = s.v := by unfold downS; split <;> rfl
theorem failsS_v (l : List StepD) (s : SagaD) : (failsS l s).v = s.v := by
  unfold failsS
  split
  · rfl
  · exact downS_v l s
theorem missedS_v (l : List StepD) (s : SagaD) : (missedS l s).v = s.v := by
  unfold missedS
  split
  · rfl
  · split
    · rfl
    · exact failsS_v l s
theorem reportE_v (l : List StepD) (s : SagaD) (back good : Bool) : (reportE l s back good).v = s.v := by
  unfold reportE
  split
  · split
    · rw [downS_v, hitN_v]
    · rw [nextS_v, hitN_v]
  · exact missedS_v l s
theorem lapseE_v (l : List StepD) (s : SagaD) : (lapseE l s).v = s.v := by unfold lapseE; rw [missedS_v, hitN_v]
section
variable {w : World}
set_option maxHeartbeats 4000000 in
theorem rep_bad {F : Nat → Prop} {s : SagaD} {l : List StepD} {pg pb : Nat} {back : Bool} (h : StepsAt F w s.v l) (hl : l.length ≤ 8) (hw : ∀ x ∈ l, x.wf) (p1 : 1 ≤ s.step) (p8 : s.step ≤ 8) (p2 : 0 ≤ s.tr) (p3 : s.tr ≤ 900) (hpg : pg < w.heap.size) (hpb : pb < w.heap.size) (hgd : w.cell? ⟨pg, 0, none⟩ = some (.bool false)) (hbk : w.cell? ⟨pb, 0, none⟩ = some (.bool back)) : Calls Tryz.prog 61 #[s.val, .pointer (some ⟨pg, 0, none⟩), .pointer (some ⟨pb, 0, none⟩)] w (Gives (missedS l s).val w) := by
  obtain ⟨W1, hW1⟩ : ∃ W1, W1 = (w.alloc (.cells s.cells.toArray 36 (0, 0))).alloc (.cells #[.string ⟨#[]⟩, .slice none 0 0, .int .i64 0, .int .i64 0, .int .i64 0, .bool false, .bool false, .bool false, .bool false, .bool false, .bool false, .bool false, .bool false] 36 (0, 0)) := ⟨_, rfl⟩
  obtain ⟨g, hg⟩ : ∃ g, g = w.heap.size := ⟨_, rfl⟩
  have X1 : Hid (SBox 36 g s W1) := by rw [hW1, hg]; exact (heap_alloc_old _ _ (by simp)).trans (heap_alloc_new _ _)
  have Y1 : Hid (SBox 36 (g + 1) SagaD.zero W1) := by rw [hW1, hg]; exact heap_second _ _ _
  have L1 : Hid (Later w W1) := by rw [hW1]; exact ((Below.refl _ _).alloc (Nat.le_refl _) _).alloc (by simp) _
  have HG0 : Hid (w.heap.size ≤ g) := Nat.le_of_eq hg.symm
  have C : Hid (∀ W, Later W1 W → Calls Tryz.prog 62 #[s.val] W (Gives (missedS l s).val W)) := fun W hW => missed_any (StepsAt.kept h (Kept.of_below (L1.out.trans hW) _)) (by omega) hw (by unfold I64; omega) p2 p3
  have hg1 := (Below.cell L1.out (p := ⟨pg, 0, none⟩) hpg).trans hgd
  have hb1 := (Below.cell L1.out (p := ⟨pb, 0, none⟩) hpb).trans hbk
  rw [hW1] at hg1 hb1
  clear hgd hbk
  have HW1 := hide hW1.symm
  have HG := hide hg.symm
  clear hW1 hg h hl p1 p8 hw p2 p3
  have xe := X1.out
  rw [← HW1.out, ← HG.out] at xe
  have XE := hide xe
  clear xe
  go_enter Tryz.func61, Tryz.ntmps61
  go_wp2_with (refine wpList_load_saga (by rfl) _ (by rfl) (by rfl) XE.out ?_; simp only [HW1.out, HG.out])
  refine (C.out _ (Later.refl _)).mono ?_
  rintro e w2 ⟨rfl, hl⟩
  have L12 := hide (hl)
  have L2 := hide (L1.out.trans hl)
  have Y2 := hide (Y1.out.below hl)
  clear hl
  go_wp2_with (first | (refine wpList_load_saga (by rfl) _ (by rfl) (by rfl) X1.out ?_) | (refine wpList_store_saga (by rfl) _ _ (by rfl) (by rfl) Y2.out (by rfl) ?_; intro w3 Z3 G3))
  have HLF : Hid (Later w _) := L2.out.grown G3 (Below.size L2.out) (fun k hk => by have := Option.some.inj hk; have := HG0.out; omega)
  refine bodyPost_ret (results_cell_row Tryz.results61 _ _ (g + 1) 36 _ (0, 0) _ (by rfl) Z3 Tryz.underlying36 (by rfl) (by kernel_rfl)) (by rfl) ?_
  exact ⟨rfl, HLF.out⟩
set_option maxHeartbeats 4000000 in
theorem rep_back {F : Nat → Prop} {s : SagaD} {l : List StepD} {pg pb : Nat} (h : StepsAt F w s.v l) (hl : l.length ≤ 8) (_hw : ∀ x ∈ l, x.wf) (p1 : 1 ≤ s.step) (p8 : s.step ≤ 8) (_p2 : 0 ≤ s.tr) (_p3 : s.tr ≤ 900) (hpg : pg < w.heap.size) (hpb : pb < w.heap.size) (hgd : w.cell? ⟨pg, 0, none⟩ = some (.bool true)) (hbk : w.cell? ⟨pb, 0, none⟩ = some (.bool true)) : Calls Tryz.prog 61 #[s.val, .pointer (some ⟨pg, 0, none⟩), .pointer (some ⟨pb, 0, none⟩)] w (Gives (downS l (s.hitN false)).val w) := by
  obtain ⟨W1, hW1⟩ : ∃ W1, W1 = (w.alloc (.cells s.cells.toArray 36 (0, 0))).alloc (.cells #[.string ⟨#[]⟩, .slice none 0 0, .int .i64 0, .int .i64 0, .int .i64 0, .bool false, .bool false, .bool false, .bool false, .bool false, .bool false, .bool false, .bool false] 36 (0, 0)) := ⟨_, rfl⟩
  obtain ⟨g, hg⟩ : ∃ g, g = w.heap.size := ⟨_, rfl⟩
  have X1 : Hid (SBox 36 g s W1) := by rw [hW1, hg]; exact (heap_alloc_old _ _ (by simp)).trans (heap_alloc_new _ _)
  have Y1 : Hid (SBox 36 (g + 1) SagaD.zero W1) := by rw [hW1, hg]; exact heap_second _ _ _
  have L1 : Hid (Later w W1) := by rw [hW1]; exact ((Below.refl _ _).alloc (Nat.le_refl _) _).alloc (by simp) _
  have HG0 : Hid (w.heap.size ≤ g) := Nat.le_of_eq hg.symm
  have C : Hid (∀ W, Later W1 W → Calls Tryz.prog 58 #[s.val, .bool false] W (Gives (s.hitN false).val W)) := fun W hW => hit_any s false p1 p8
  have C2 : Hid (∀ W, Later W1 W → Calls Tryz.prog 63 #[(s.hitN false).val] W (Gives (downS l (s.hitN false)).val W)) := fun W hW => downS_any (s := s.hitN false) (StepsAt.kept h (Kept.of_below (L1.out.trans hW) _)) (by omega) (by show I64 s.step; unfold I64; omega)
  have hg1 := (Below.cell L1.out (p := ⟨pg, 0, none⟩) hpg).trans hgd
  have hb1 := (Below.cell L1.out (p := ⟨pb, 0, none⟩) hpb).trans hbk
  rw [hW1] at hg1 hb1
  clear hgd hbk
  have HW1 := hide hW1.symm
  have HG := hide hg.symm
  clear hW1 hg h hl p1 p8
  have xe := X1.out
  rw [← HW1.out, ← HG.out] at xe
  have XE := hide xe
  clear xe
  go_enter Tryz.func61, Tryz.ntmps61
  go_wp2_with (refine wpList_load_saga (by rfl) _ (by rfl) (by rfl) XE.out ?_; simp only [HW1.out, HG.out])
  refine (C.out _ (Later.refl _)).mono ?_
  rintro e w2 ⟨rfl, hl⟩
  have L12 := hide (hl)
  have L2 := hide (L1.out.trans hl)
  have Y2 := hide (Y1.out.below hl)
  clear hl
  go_wp2_with (fail)
  refine (C2.out _ L12.out).mono ?_
  rintro e w3 ⟨rfl, hl⟩
  have L13 := hide (L12.out.trans hl)
  have L3 := hide (L2.out.trans hl)
  have Y3 := hide (Y2.out.below hl)
  clear hl
  go_wp2_with (first | (refine wpList_load_saga (by rfl) _ (by rfl) (by rfl) X1.out ?_) | (refine wpList_store_saga (by rfl) _ _ (by rfl) (by rfl) Y3.out (by rfl) ?_; intro w4 Z4 G4))
  have HLF : Hid (Later w _) := L3.out.grown G4 (Below.size L3.out) (fun k hk => by have := Option.some.inj hk; have := HG0.out; omega)
  refine bodyPost_ret (results_cell_row Tryz.results61 _ _ (g + 1) 36 _ (0, 0) _ (by rfl) Z4 Tryz.underlying36 (by rfl) (by kernel_rfl)) (by rfl) ?_
  exact ⟨rfl, HLF.out⟩
set_option maxHeartbeats 4000000 in
theorem rep_on {F : Nat → Prop} {s : SagaD} {l : List StepD} {pg pb : Nat} (h : StepsAt F w s.v l) (_hl : l.length ≤ 8) (_hw : ∀ x ∈ l, x.wf) (p1 : 1 ≤ s.step) (p8 : s.step ≤ 8) (_p2 : 0 ≤ s.tr) (_p3 : s.tr ≤ 900) (hpg : pg < w.heap.size) (hpb : pb < w.heap.size) (hgd : w.cell? ⟨pg, 0, none⟩ = some (.bool true)) (hbk : w.cell? ⟨pb, 0, none⟩ = some (.bool false)) : Calls Tryz.prog 61 #[s.val, .pointer (some ⟨pg, 0, none⟩), .pointer (some ⟨pb, 0, none⟩)] w (Gives (nextS l (s.hitN true)).val w) := by
  obtain ⟨W1, hW1⟩ : ∃ W1, W1 = (w.alloc (.cells s.cells.toArray 36 (0, 0))).alloc (.cells #[.string ⟨#[]⟩, .slice none 0 0, .int .i64 0, .int .i64 0, .int .i64 0, .bool false, .bool false, .bool false, .bool false, .bool false, .bool false, .bool false, .bool false] 36 (0, 0)) := ⟨_, rfl⟩
  obtain ⟨g, hg⟩ : ∃ g, g = w.heap.size := ⟨_, rfl⟩
  have X1 : Hid (SBox 36 g s W1) := by rw [hW1, hg]; exact (heap_alloc_old _ _ (by simp)).trans (heap_alloc_new _ _)
  have Y1 : Hid (SBox 36 (g + 1) SagaD.zero W1) := by rw [hW1, hg]; exact heap_second _ _ _
  have L1 : Hid (Later w W1) := by rw [hW1]; exact ((Below.refl _ _).alloc (Nat.le_refl _) _).alloc (by simp) _
  have HG0 : Hid (w.heap.size ≤ g) := Nat.le_of_eq hg.symm
  have C : Hid (∀ W, Later W1 W → Calls Tryz.prog 58 #[s.val, .bool true] W (Gives (s.hitN true).val W)) := fun W hW => hit_any s true p1 p8
  have C2 : Hid (∀ W, Later W1 W → Calls Tryz.prog 64 #[(s.hitN true).val] W (Gives (nextS l (s.hitN true)).val W)) := fun W hW => next_any (s := s.hitN true) (steps_n h) p1 p8
  have hg1 := (Below.cell L1.out (p := ⟨pg, 0, none⟩) hpg).trans hgd
  have hb1 := (Below.cell L1.out (p := ⟨pb, 0, none⟩) hpb).trans hbk
  rw [hW1] at hg1 hb1
  clear hgd hbk
  have HW1 := hide hW1.symm
  have HG := hide hg.symm
  clear hW1 hg h p1 p8
  have xe := X1.out
  rw [← HW1.out, ← HG.out] at xe
  have XE := hide xe
  clear xe
  go_enter Tryz.func61, Tryz.ntmps61
  go_wp2_with (refine wpList_load_saga (by rfl) _ (by rfl) (by rfl) XE.out ?_; simp only [HW1.out, HG.out])
  refine (C.out _ (Later.refl _)).mono ?_
  rintro e w2 ⟨rfl, hl⟩
  have L12 := hide (hl)
  have L2 := hide (L1.out.trans hl)
  have Y2 := hide (Y1.out.below hl)
  clear hl
  go_wp2_with (fail)
  refine (C2.out _ L12.out).mono ?_
  rintro e w3 ⟨rfl, hl⟩
  have L13 := hide (L12.out.trans hl)
  have L3 := hide (L2.out.trans hl)
  have Y3 := hide (Y2.out.below hl)
  clear hl
  go_wp2_with (first | (refine wpList_load_saga (by rfl) _ (by rfl) (by rfl) X1.out ?_) | (refine wpList_store_saga (by rfl) _ _ (by rfl) (by rfl) Y3.out (by rfl) ?_; intro w4 Z4 G4))
  have HLF : Hid (Later w _) := L3.out.grown G4 (Below.size L3.out) (fun k hk => by have := Option.some.inj hk; have := HG0.out; omega)
  refine bodyPost_ret (results_cell_row Tryz.results61 _ _ (g + 1) 36 _ (0, 0) _ (by rfl) Z4 Tryz.underlying36 (by rfl) (by kernel_rfl)) (by rfl) ?_
  exact ⟨rfl, HLF.out⟩
theorem rep_any {F : Nat → Prop} {s : SagaD} {l : List StepD} {pg pb : Nat} {good back : Bool} (h : StepsAt F w s.v l) (hl : l.length ≤ 8) (hw : ∀ x ∈ l, x.wf) (p1 : 1 ≤ s.step) (p8 : s.step ≤ 8) (p2 : 0 ≤ s.tr) (p3 : s.tr ≤ 900) (hpg : pg < w.heap.size) (hpb : pb < w.heap.size) (hgd : w.cell? ⟨pg, 0, none⟩ = some (.bool good)) (hbk : w.cell? ⟨pb, 0, none⟩ = some (.bool back)) : Calls Tryz.prog 61 #[s.val, .pointer (some ⟨pg, 0, none⟩), .pointer (some ⟨pb, 0, none⟩)] w (Gives (reportE l s back good).val w) := by
  cases good with
  | false => exact rep_bad h hl hw p1 p8 p2 p3 hpg hpb hgd hbk
  | true =>
    cases back with
    | true => exact rep_back h hl hw p1 p8 p2 p3 hpg hpb hgd hbk
    | false => exact rep_on h hl hw p1 p8 p2 p3 hpg hpb hgd hbk
set_option maxHeartbeats 4000000 in
theorem lap_any {F : Nat → Prop} {s : SagaD} {l : List StepD} (h : StepsAt F w s.v l) (hl : l.length ≤ 8) (hw : ∀ x ∈ l, x.wf) (p1 : 1 ≤ s.step) (p8 : s.step ≤ 8) (p2 : 0 ≤ s.tr) (p3 : s.tr ≤ 900) : Calls Tryz.prog 65 #[s.val] w (Gives (lapseE l s).val w) := by
  unfold lapseE
  obtain ⟨W1, hW1⟩ : ∃ W1, W1 = (w.alloc (.cells s.cells.toArray 36 (0, 0))).alloc (.cells #[.string ⟨#[]⟩, .slice none 0 0, .int .i64 0, .int .i64 0, .int .i64 0, .bool false, .bool false, .bool false, .bool false, .bool false, .bool false, .bool false, .bool false] 36 (0, 0)) := ⟨_, rfl⟩
  obtain ⟨g, hg⟩ : ∃ g, g = w.heap.size := ⟨_, rfl⟩
  have X1 : Hid (SBox 36 g s W1) := by rw [hW1, hg]; exact (heap_alloc_old _ _ (by simp)).trans (heap_alloc_new _ _)
  have Y1 : Hid (SBox 36 (g + 1) SagaD.zero W1) := by rw [hW1, hg]; exact heap_second _ _ _
  have L1 : Hid (Later w W1) := by rw [hW1]; exact ((Below.refl _ _).alloc (Nat.le_refl _) _).alloc (by simp) _
  have HG0 : Hid (w.heap.size ≤ g) := Nat.le_of_eq hg.symm
  have C : Hid (∀ W, Later W1 W → Calls Tryz.prog 58 #[s.val, .bool true] W (Gives (s.hitN true).val W)) := fun W hW => hit_any s true p1 p8
  have C2 : Hid (∀ W, Later W1 W → Calls Tryz.prog 62 #[(s.hitN true).val] W (Gives (missedS l (s.hitN true)).val W)) := fun W hW => missed_any (s := s.hitN true) (StepsAt.kept h (Kept.of_below (L1.out.trans hW) _)) (by omega) hw (by show I64 s.step; unfold I64; omega) p2 p3
  have HW1 := hide hW1.symm
  have HG := hide hg.symm
  clear hW1 hg h hl hw p1 p8 p2 p3
  have xe := X1.out
  rw [← HW1.out, ← HG.out] at xe
  have XE := hide xe
  clear xe
  go_enter Tryz.func65, Tryz.ntmps65
  go_wp2_with (refine wpList_load_saga (by rfl) _ (by rfl) (by rfl) XE.out ?_; simp only [HW1.out, HG.out])
  refine (C.out _ (Later.refl _)).mono ?_
  rintro e w2 ⟨rfl, hl⟩
  have L12 := hide (hl)
  have L2 := hide (L1.out.trans hl)
  have Y2 := hide (Y1.out.below hl)
  clear hl
  go_wp2_with (fail)
  refine (C2.out _ L12.out).mono ?_
  rintro e w3 ⟨rfl, hl⟩
  have L13 := hide (L12.out.trans hl)
  have L3 := hide (L2.out.trans hl)
  have Y3 := hide (Y2.out.below hl)
  clear hl
  go_wp2_with (first | (refine wpList_load_saga (by rfl) _ (by rfl) (by rfl) X1.out ?_) | (refine wpList_store_saga (by rfl) _ _ (by rfl) (by rfl) Y3.out (by rfl) ?_; intro w4 Z4 G4))
  have HLF : Hid (Later w _) := L3.out.grown G4 (Below.size L3.out) (fun k hk => by have := Option.some.inj hk; have := HG0.out; omega)
  refine bodyPost_ret (results_cell_row Tryz.results65 _ _ (g + 1) 36 _ (0, 0) _ (by rfl) Z4 Tryz.underlying36 (by rfl) (by kernel_rfl)) (by rfl) ?_
  exact ⟨rfl, HLF.out⟩
theorem own_kept {w w' : World} {v : Value} {l : List StepD} {b g : Nat} (h : StepsAt (b ≤ ·) w v l) (hb : g < b) (hg : w.grownBy w' (some g)) : StepsAt (b ≤ ·) w' v l :=
  StepsAt.kept h (Kept.of_grown hg (fun k hk hf => by have := Option.some.inj hk; omega))
set_option maxHeartbeats 4000000 in
theorem bl_none {F : Nat → Prop} {s : SagaD} {l : List StepD} {step tr : Int} {back : Bool}  (h : StepsAt F w s.v l) (hl6 : l.length ≤ 1000000) (hw : ∀ x ∈ l, x.wf) (h1 : I64 s.step) (hq : wantsB l s = false) : Calls Tryz.prog 60 #[s.val, .int .i64 step, .int .i64 tr, .bool back, .func (.func 65) #[] #[]] w (Told s false l w) := by
  obtain ⟨W1, hW1⟩ : ∃ W1, W1 = (w.alloc (.cells s.cells.toArray 36 (0, 0))).alloc (.cells #[.string ⟨#[]⟩, .slice none 0 0, .int .i64 0, .int .i64 0, .int .i64 0, .bool false, .bool false, .bool false, .bool false, .bool false, .bool false, .bool false, .bool false] 36 (0, 0)) := ⟨_, rfl⟩
  obtain ⟨g, hg⟩ : ∃ g, g = w.heap.size := ⟨_, rfl⟩
  have X1 : Hid (SBox 36 g s W1) := by rw [hW1, hg]; exact (heap_alloc_old _ _ (by simp)).trans (heap_alloc_new _ _)
  have Y1 : Hid (SBox 36 (g + 1) SagaD.zero W1) := by rw [hW1, hg]; exact heap_second _ _ _
  have L1 : Hid (Later w W1) := by rw [hW1]; exact ((Below.refl _ _).alloc (Nat.le_refl _) _).alloc (by simp) _
  have HG0 : Hid (w.heap.size ≤ g) := Nat.le_of_eq hg.symm
  have CW0 : Hid (∀ W, Later W1 W → Calls Tryz.prog 87 #[s.val] W (Wanted l s W)) := fun W hW => wants_any (StepsAt.kept h (Kept.of_below (L1.out.trans hW) _)) hw h1
  have CO : Hid (∀ W, Later W1 W → Calls Tryz.prog 55 #[s.val] W (Owns s l W)) := fun W hW => own_any (StepsAt.kept h (Kept.of_below (L1.out.trans hW) _)) hl6
  have CW : Hid (∀ W, Later W1 W → Calls Tryz.prog 87 #[s.val] W fun e w' => e = .returned (.tuple #[.agg #[.int .i64 0, .int .i64 0, .int .i64 0, .int .i64 0, .int .i64 0, .bool false], .int .i64 (wantsW l s), .bool false]) ∧ Later W w') := fun W hW => (CW0.out W hW).mono (fun e w' he => ⟨by rw [he.1]; unfold wantsC; rw [hq]; rfl, he.2⟩)
  obtain ⟨ticks, ht⟩ : ∃ t, wantsW l s = t := ⟨_, rfl⟩
  rw [ht] at CW
  have HW1 := hide hW1.symm
  have HG := hide hg.symm
  clear hW1 hg h hl6 hw h1 hq ht CW0
  have xe := X1.out
  rw [← HW1.out, ← HG.out] at xe
  have XE := hide xe
  clear xe
  go_enter Tryz.func60, Tryz.ntmps60
  go_wp2_with (refine wpList_load_saga (by rfl) _ (by rfl) (by rfl) XE.out ?_; simp only [HW1.out, HG.out])
  refine (CW.out _ (Later.refl _)).mono ?_
  rintro e w2 ⟨rfl, hl⟩
  have L12 := hide hl
  have L2 := hide (L1.out.trans hl)
  have X2 := hide (X1.out.below hl)
  have Y2 := hide (Y1.out.below hl)
  clear hl CW
  obtain ⟨w3, hw3⟩ : ∃ w3, w3 = w2.alloc (.cells #[.int .i64 0, .int .i64 0, .int .i64 0, .int .i64 0, .int .i64 0, .bool false] 62 (0, 0)) := ⟨_, rfl⟩
  obtain ⟨y, hy⟩ : ∃ y, y = w2.heap.size := ⟨_, rfl⟩
  have B3 : Hid (CBox y ⟨0, 0, 0, false⟩ w3) := by rw [hw3, hy]; exact heap_alloc_new w2 _
  have L23 : Hid (Later w2 w3) := by rw [hw3]; exact (Below.refl _ _).alloc (Nat.le_refl _) _
  have L13 := hide (L12.out.trans L23.out)
  have L3 := hide (L2.out.trans L23.out)
  have X3 := hide (X2.out.below L23.out)
  have Y3 := hide (Y2.out.below L23.out)
  obtain ⟨k0, k1, k2, k3, k4, k5, kf⟩ := B3.out.cells
  rw [hw3, hy] at k3 k4 k5
  have x3 := X3.out
  have y3 := Y3.out
  rw [hw3] at x3 y3
  have XR := hide x3
  have HW3 := hide hw3.symm
  have HY := hide hy.symm
  clear k0 k1 k2 kf hw3 hy x3 y3
  go_wp2_with (refine wpList_load_saga (by rfl) _ (by rfl) (by rfl) XR.out ?_; simp only [HW3.out, HY.out])
  refine (CO.out _ L13.out).mono ?_
  rintro e w4 ⟨P, N, K, rfl, hs, hl⟩
  have HS9 := hide hs
  have HLT := hide (Y3.out.lt)
  have L4 := hide (L3.out.trans hl)
  have HSZ := hide (Below.size L3.out)
  have Y4 := hide (Y3.out.below hl)
  clear hl hs
  go_wp2_with (first | (refine wpList_load_saga (by rfl) _ (by rfl) (by rfl) X3.out ?_) | (refine wpList_store_saga (by rfl) _ _ (by rfl) (by rfl) Y4.out (by rfl) ?_; intro w5 Z5 G5))
  have S9 : Hid (StepsAt (w.heap.size ≤ ·) w5 (.slice P N K) l) := FlatAt.mono (own_kept HS9.out HLT.out G5) (fun i _ hf => Nat.le_trans HSZ.out hf)
  have HLF : Hid (Later w _) := L4.out.grown G5 (Below.size L4.out) (fun k hk => by have := Option.some.inj hk; have := HG0.out; omega)
  refine bodyPost_ret (results_box2 Tryz.results60 _ _ (g + 1) 36 _ _ (by rfl) Z5 Tryz.underlying36 (by rfl) (by kernel_rfl) (.bool false) (by rfl)) (by rfl) ?_
  exact ⟨P, N, K, rfl, S9.out, HLF.out⟩
set_option maxHeartbeats 4000000 in
theorem bl_some {F : Nat → Prop} {s : SagaD} {l : List StepD} {step tr : Int} {back : Bool}  (h : StepsAt F w s.v l) (hl6 : l.length ≤ 1000000) (hw : ∀ x ∈ l, x.wf) (h1 : I64 s.step) (hl8 : l.length ≤ 8) (p1 : 1 ≤ s.step) (p8 : s.step ≤ 8) (p2 : 0 ≤ s.tr) (p3 : s.tr ≤ 900) (hq : wantsB l s = true) (Q : Bool) (hQ : isIt l s step tr back = Q) : Calls Tryz.prog 60 #[s.val, .int .i64 step, .int .i64 tr, .bool back, .func (.func 65) #[] #[]] w (Told (if Q then lapseE l s else s) Q l w) := by
  obtain ⟨W1, hW1⟩ : ∃ W1, W1 = (w.alloc (.cells s.cells.toArray 36 (0, 0))).alloc (.cells #[.string ⟨#[]⟩, .slice none 0 0, .int .i64 0, .int .i64 0, .int .i64 0, .bool false, .bool false, .bool false, .bool false, .bool false, .bool false, .bool false, .bool false] 36 (0, 0)) := ⟨_, rfl⟩
  obtain ⟨g, hg⟩ : ∃ g, g = w.heap.size := ⟨_, rfl⟩
  have X1 : Hid (SBox 36 g s W1) := by rw [hW1, hg]; exact (heap_alloc_old _ _ (by simp)).trans (heap_alloc_new _ _)
  have Y1 : Hid (SBox 36 (g + 1) SagaD.zero W1) := by rw [hW1, hg]; exact heap_second _ _ _
  have L1 : Hid (Later w W1) := by rw [hW1]; exact ((Below.refl _ _).alloc (Nat.le_refl _) _).alloc (by simp) _
  have HG0 : Hid (w.heap.size ≤ g) := Nat.le_of_eq hg.symm
  have CW0 : Hid (∀ W, Later W1 W → Calls Tryz.prog 87 #[s.val] W (Wanted l s W)) := fun W hW => wants_any (StepsAt.kept h (Kept.of_below (L1.out.trans hW) _)) hw h1
  have CO : Hid (∀ W, Later W1 W → Calls Tryz.prog 55 #[s.val] W (Owns s l W)) := fun W hW => own_any (StepsAt.kept h (Kept.of_below (L1.out.trans hW) _)) hl6
  obtain ⟨cs, hcs⟩ : ∃ c, (stepAt l s.step).stub = c := ⟨_, rfl⟩
  obtain ⟨ct, hct⟩ : ∃ c, s.step = c := ⟨_, rfl⟩
  obtain ⟨cr, hcr⟩ : ∃ c, s.tr = c := ⟨_, rfl⟩
  obtain ⟨cb, hcb⟩ : ∃ c, decide (s.st = 2) = c := ⟨_, rfl⟩
  have CW : Hid (∀ W, Later W1 W → Calls Tryz.prog 87 #[s.val] W fun e w' => e = .returned (.tuple #[.agg #[.int .i64 0, .int .i64 cs, .int .i64 0, .int .i64 ct, .int .i64 cr, .bool cb], .int .i64 (wantsW l s), .bool true]) ∧ Later W w') := fun W hW => (CW0.out W hW).mono (fun e w' he => ⟨by rw [he.1]; unfold wantsC; rw [hq, if_pos rfl, hcs, hct, hcr, hcb]; rfl, he.2⟩)
  obtain ⟨ticks, ht⟩ : ∃ t, wantsW l s = t := ⟨_, rfl⟩
  rw [ht] at CW
  have HQ : Hid (Q = (decide (ct = step) && (decide (cr = tr) && (cb == back)))) := by show _ = _; rw [← hQ]; unfold isIt; rw [hq, hct, hcr, hcb, Bool.true_and]
  obtain ⟨R, hR⟩ : ∃ R, (if Q then lapseE l s else s) = R := ⟨_, rfl⟩
  have HR : Hid (R = if Q then lapseE l s else s) := hR.symm
  rw [hR]
  have CE : Hid (∀ W, Later W1 W → Calls Tryz.prog 65 #[s.val] W (Gives (lapseE l s).val W)) := fun W hW => lap_any (StepsAt.kept h (Kept.of_below (L1.out.trans hW) _)) hl8 hw p1 p8 p2 p3
  have COE : Hid (∀ W, Later W1 W → Calls Tryz.prog 55 #[(lapseE l s).val] W (Owns (lapseE l s) l W)) := fun W hW => own_any (s := lapseE l s) (by rw [lapseE_v]; exact StepsAt.kept h (Kept.of_below (L1.out.trans hW) _)) hl6
  have HW1 := hide hW1.symm
  have HG := hide hg.symm
  clear hW1 hg h hl6 hw h1 hq hQ ht CW0 hR hcs hct hcr hcb p1 p8 p2 p3 hl8
  have xe := X1.out
  rw [← HW1.out, ← HG.out] at xe
  have XE := hide xe
  clear xe
  go_enter Tryz.func60, Tryz.ntmps60
  go_wp2_with (refine wpList_load_saga (by rfl) _ (by rfl) (by rfl) XE.out ?_; simp only [HW1.out, HG.out])
  refine (CW.out _ (Later.refl _)).mono ?_
  rintro e w2 ⟨rfl, hl⟩
  have L12 := hide hl
  have L2 := hide (L1.out.trans hl)
  have X2 := hide (X1.out.below hl)
  have Y2 := hide (Y1.out.below hl)
  clear hl CW
  obtain ⟨w3, hw3⟩ : ∃ w3, w3 = w2.alloc (.cells #[.int .i64 0, .int .i64 cs, .int .i64 0, .int .i64 ct, .int .i64 cr, .bool cb] 62 (0, 0)) := ⟨_, rfl⟩
  obtain ⟨y, hy⟩ : ∃ y, y = w2.heap.size := ⟨_, rfl⟩
  have B3 : Hid (CBox y ⟨cs, ct, cr, cb⟩ w3) := by rw [hw3, hy]; exact heap_alloc_new w2 _
  have L23 : Hid (Later w2 w3) := by rw [hw3]; exact (Below.refl _ _).alloc (Nat.le_refl _) _
  have L13 := hide (L12.out.trans L23.out)
  have L3 := hide (L2.out.trans L23.out)
  have X3 := hide (X2.out.below L23.out)
  have Y3 := hide (Y2.out.below L23.out)
  obtain ⟨k0, k1, k2, k3, k4, k5, kf⟩ := B3.out.cells
  rw [hw3, hy] at k3 k4 k5
  have x3 := X3.out
  have y3 := Y3.out
  rw [hw3] at x3 y3
  have XR := hide x3
  have HW3 := hide hw3.symm
  have HY := hide hy.symm
  clear k0 k1 k2 kf hw3 hy x3 y3
  by_cases g1 : ct = step
  · subst g1
    by_cases g2 : cr = tr
    · subst g2
      cases hcmp : (cb == back) with
      | true =>
        obtain rfl : back = cb := (show cb = back by simpa using hcmp).symm
        obtain rfl : Q = true := by rw [HQ.out]; simp
        obtain rfl : R = lapseE l s := by rw [HR.out]; rfl
        clear HQ HR hcmp
        go_wp2_with (refine wpList_load_saga (by rfl) _ (by rfl) (by rfl) XR.out ?_; simp only [HW3.out, HY.out])
        refine (CE.out _ L13.out).mono ?_
        rintro e w5 ⟨rfl, hl⟩
        have L15 := hide (L13.out.trans hl)
        have L5 := hide (L3.out.trans hl)
        have Y5 := hide (Y3.out.below hl)
        clear hl
        go_wp2_with (fail)
        refine (COE.out _ L15.out).mono ?_
        rintro e w6 ⟨P, N, K, rfl, hs, hl⟩
        have HS9 := hide hs
        have HLT := hide (Y5.out.lt)
        have L6 := hide (L5.out.trans hl)
        have HSZ := hide (Below.size L5.out)
        have Y6 := hide (Y5.out.below hl)
        clear hl hs
        go_wp2_with (first | (refine wpList_load_saga (by rfl) _ (by rfl) (by rfl) X3.out ?_) | (refine wpList_store_saga (by rfl) _ _ (by rfl) (by rfl) Y6.out (by rfl) ?_; intro w7 Z7 G7))
        have S9 : Hid (StepsAt (w.heap.size ≤ ·) w7 (.slice P N K) l) := FlatAt.mono (own_kept HS9.out HLT.out G7) (fun i _ hf => Nat.le_trans HSZ.out hf)
        have HLF : Hid (Later w _) := L6.out.grown G7 (Below.size L6.out) (fun k hk => by have := Option.some.inj hk; have := HG0.out; omega)
        refine bodyPost_ret (results_box2 Tryz.results60 _ _ (g + 1) 36 _ _ (by rfl) Z7 Tryz.underlying36 (by rfl) (by kernel_rfl) (.bool true) (by rfl)) (by rfl) ?_
        exact ⟨P, N, K, rfl, S9.out, HLF.out⟩

      | false =>
        have hne : (cb != back) = true := by cases cb <;> cases back <;> simp_all
        obtain rfl : Q = false := by rw [HQ.out]; simp [hcmp]
        obtain rfl : R = s := by rw [HR.out]; rfl
        clear HQ HR
        go_wp2_with (refine wpList_load_saga (by rfl) _ (by rfl) (by rfl) XR.out ?_; simp only [HW3.out, HY.out])
        refine (CO.out _ L13.out).mono ?_
        rintro e w4 ⟨P, N, K, rfl, hs, hl⟩
        have HS9 := hide hs
        have HLT := hide (Y3.out.lt)
        have L4 := hide (L3.out.trans hl)
        have HSZ := hide (Below.size L3.out)
        have Y4 := hide (Y3.out.below hl)
        clear hl hs
        go_wp2_with (first | (refine wpList_load_saga (by rfl) _ (by rfl) (by rfl) X3.out ?_) | (refine wpList_store_saga (by rfl) _ _ (by rfl) (by rfl) Y4.out (by rfl) ?_; intro w5 Z5 G5))
        have S9 : Hid (StepsAt (w.heap.size ≤ ·) w5 (.slice P N K) l) := FlatAt.mono (own_kept HS9.out HLT.out G5) (fun i _ hf => Nat.le_trans HSZ.out hf)
        have HLF : Hid (Later w _) := L4.out.grown G5 (Below.size L4.out) (fun k hk => by have := Option.some.inj hk; have := HG0.out; omega)
        refine bodyPost_ret (results_box2 Tryz.results60 _ _ (g + 1) 36 _ _ (by rfl) Z5 Tryz.underlying36 (by rfl) (by kernel_rfl) (.bool false) (by rfl)) (by rfl) ?_
        exact ⟨P, N, K, rfl, S9.out, HLF.out⟩

    · have hne : (cr != tr) = true := by simpa using g2
      obtain rfl : Q = false := by rw [HQ.out]; simp [g2]
      obtain rfl : R = s := by rw [HR.out]; rfl
      clear HQ HR
      go_wp2_with (refine wpList_load_saga (by rfl) _ (by rfl) (by rfl) XR.out ?_; simp only [HW3.out, HY.out])
      refine (CO.out _ L13.out).mono ?_
      rintro e w4 ⟨P, N, K, rfl, hs, hl⟩
      have HS9 := hide hs
      have HLT := hide (Y3.out.lt)
      have L4 := hide (L3.out.trans hl)
      have HSZ := hide (Below.size L3.out)
      have Y4 := hide (Y3.out.below hl)
      clear hl hs
      go_wp2_with (first | (refine wpList_load_saga (by rfl) _ (by rfl) (by rfl) X3.out ?_) | (refine wpList_store_saga (by rfl) _ _ (by rfl) (by rfl) Y4.out (by rfl) ?_; intro w5 Z5 G5))
      have S9 : Hid (StepsAt (w.heap.size ≤ ·) w5 (.slice P N K) l) := FlatAt.mono (own_kept HS9.out HLT.out G5) (fun i _ hf => Nat.le_trans HSZ.out hf)
      have HLF : Hid (Later w _) := L4.out.grown G5 (Below.size L4.out) (fun k hk => by have := Option.some.inj hk; have := HG0.out; omega)
      refine bodyPost_ret (results_box2 Tryz.results60 _ _ (g + 1) 36 _ _ (by rfl) Z5 Tryz.underlying36 (by rfl) (by kernel_rfl) (.bool false) (by rfl)) (by rfl) ?_
      exact ⟨P, N, K, rfl, S9.out, HLF.out⟩

  · have hne : (ct != step) = true := by simpa using g1
    obtain rfl : Q = false := by rw [HQ.out]; simp [g1]
    obtain rfl : R = s := by rw [HR.out]; rfl
    clear HQ HR
    go_wp2_with (refine wpList_load_saga (by rfl) _ (by rfl) (by rfl) XR.out ?_; simp only [HW3.out, HY.out])
    refine (CO.out _ L13.out).mono ?_
    rintro e w4 ⟨P, N, K, rfl, hs, hl⟩
    have HS9 := hide hs
    have HLT := hide (Y3.out.lt)
    have L4 := hide (L3.out.trans hl)
    have HSZ := hide (Below.size L3.out)
    have Y4 := hide (Y3.out.below hl)
    clear hl hs
    go_wp2_with (first | (refine wpList_load_saga (by rfl) _ (by rfl) (by rfl) X3.out ?_) | (refine wpList_store_saga (by rfl) _ _ (by rfl) (by rfl) Y4.out (by rfl) ?_; intro w5 Z5 G5))
    have S9 : Hid (StepsAt (w.heap.size ≤ ·) w5 (.slice P N K) l) := FlatAt.mono (own_kept HS9.out HLT.out G5) (fun i _ hf => Nat.le_trans HSZ.out hf)
    have HLF : Hid (Later w _) := L4.out.grown G5 (Below.size L4.out) (fun k hk => by have := Option.some.inj hk; have := HG0.out; omega)
    refine bodyPost_ret (results_box2 Tryz.results60 _ _ (g + 1) 36 _ _ (by rfl) Z5 Tryz.underlying36 (by rfl) (by kernel_rfl) (.bool false) (by rfl)) (by rfl) ?_
    exact ⟨P, N, K, rfl, S9.out, HLF.out⟩

set_option maxHeartbeats 4000000 in
theorem br_none {F : Nat → Prop} {s : SagaD} {l : List StepD} {step tr : Int} {back : Bool} {pg pb : Nat}  (h : StepsAt F w s.v l) (hl6 : l.length ≤ 1000000) (hw : ∀ x ∈ l, x.wf) (h1 : I64 s.step) (hq : wantsB l s = false) : Calls Tryz.prog 60 #[s.val, .int .i64 step, .int .i64 tr, .bool back, .func (.func 61) #[] #[.pointer (some ⟨pg, 0, none⟩), .pointer (some ⟨pb, 0, none⟩)]] w (Told s false l w) := by
  obtain ⟨W1, hW1⟩ : ∃ W1, W1 = (w.alloc (.cells s.cells.toArray 36 (0, 0))).alloc (.cells #[.string ⟨#[]⟩, .slice none 0 0, .int .i64 0, .int .i64 0, .int .i64 0, .bool false, .bool false, .bool false, .bool false, .bool false, .bool false, .bool false, .bool false] 36 (0, 0)) := ⟨_, rfl⟩
  obtain ⟨g, hg⟩ : ∃ g, g = w.heap.size := ⟨_, rfl⟩
  have X1 : Hid (SBox 36 g s W1) := by rw [hW1, hg]; exact (heap_alloc_old _ _ (by simp)).trans (heap_alloc_new _ _)
  have Y1 : Hid (SBox 36 (g + 1) SagaD.zero W1) := by rw [hW1, hg]; exact heap_second _ _ _
  have L1 : Hid (Later w W1) := by rw [hW1]; exact ((Below.refl _ _).alloc (Nat.le_refl _) _).alloc (by simp) _
  have HG0 : Hid (w.heap.size ≤ g) := Nat.le_of_eq hg.symm
  have CW0 : Hid (∀ W, Later W1 W → Calls Tryz.prog 87 #[s.val] W (Wanted l s W)) := fun W hW => wants_any (StepsAt.kept h (Kept.of_below (L1.out.trans hW) _)) hw h1
  have CO : Hid (∀ W, Later W1 W → Calls Tryz.prog 55 #[s.val] W (Owns s l W)) := fun W hW => own_any (StepsAt.kept h (Kept.of_below (L1.out.trans hW) _)) hl6
  have CW : Hid (∀ W, Later W1 W → Calls Tryz.prog 87 #[s.val] W fun e w' => e = .returned (.tuple #[.agg #[.int .i64 0, .int .i64 0, .int .i64 0, .int .i64 0, .int .i64 0, .bool false], .int .i64 (wantsW l s), .bool false]) ∧ Later W w') := fun W hW => (CW0.out W hW).mono (fun e w' he => ⟨by rw [he.1]; unfold wantsC; rw [hq]; rfl, he.2⟩)
  obtain ⟨ticks, ht⟩ : ∃ t, wantsW l s = t := ⟨_, rfl⟩
  rw [ht] at CW
  have HW1 := hide hW1.symm
  have HG := hide hg.symm
  clear hW1 hg h hl6 hw h1 hq ht CW0
  have xe := X1.out
  rw [← HW1.out, ← HG.out] at xe
  have XE := hide xe
  clear xe
  go_enter Tryz.func60, Tryz.ntmps60
  go_wp2_with (refine wpList_load_saga (by rfl) _ (by rfl) (by rfl) XE.out ?_; simp only [HW1.out, HG.out])
  refine (CW.out _ (Later.refl _)).mono ?_
  rintro e w2 ⟨rfl, hl⟩
  have L12 := hide hl
  have L2 := hide (L1.out.trans hl)
  have X2 := hide (X1.out.below hl)
  have Y2 := hide (Y1.out.below hl)
  clear hl CW
  obtain ⟨w3, hw3⟩ : ∃ w3, w3 = w2.alloc (.cells #[.int .i64 0, .int .i64 0, .int .i64 0, .int .i64 0, .int .i64 0, .bool false] 62 (0, 0)) := ⟨_, rfl⟩
  obtain ⟨y, hy⟩ : ∃ y, y = w2.heap.size := ⟨_, rfl⟩
  have B3 : Hid (CBox y ⟨0, 0, 0, false⟩ w3) := by rw [hw3, hy]; exact heap_alloc_new w2 _
  have L23 : Hid (Later w2 w3) := by rw [hw3]; exact (Below.refl _ _).alloc (Nat.le_refl _) _
  have L13 := hide (L12.out.trans L23.out)
  have L3 := hide (L2.out.trans L23.out)
  have X3 := hide (X2.out.below L23.out)
  have Y3 := hide (Y2.out.below L23.out)
  obtain ⟨k0, k1, k2, k3, k4, k5, kf⟩ := B3.out.cells
  rw [hw3, hy] at k3 k4 k5
  have x3 := X3.out
  have y3 := Y3.out
  rw [hw3] at x3 y3
  have XR := hide x3
  have HW3 := hide hw3.symm
  have HY := hide hy.symm
  clear k0 k1 k2 kf hw3 hy x3 y3
  go_wp2_with (refine wpList_load_saga (by rfl) _ (by rfl) (by rfl) XR.out ?_; simp only [HW3.out, HY.out])
  refine (CO.out _ L13.out).mono ?_
  rintro e w4 ⟨P, N, K, rfl, hs, hl⟩
  have HS9 := hide hs
  have HLT := hide (Y3.out.lt)
  have L4 := hide (L3.out.trans hl)
  have HSZ := hide (Below.size L3.out)
  have Y4 := hide (Y3.out.below hl)
  clear hl hs
  go_wp2_with (first | (refine wpList_load_saga (by rfl) _ (by rfl) (by rfl) X3.out ?_) | (refine wpList_store_saga (by rfl) _ _ (by rfl) (by rfl) Y4.out (by rfl) ?_; intro w5 Z5 G5))
  have S9 : Hid (StepsAt (w.heap.size ≤ ·) w5 (.slice P N K) l) := FlatAt.mono (own_kept HS9.out HLT.out G5) (fun i _ hf => Nat.le_trans HSZ.out hf)
  have HLF : Hid (Later w _) := L4.out.grown G5 (Below.size L4.out) (fun k hk => by have := Option.some.inj hk; have := HG0.out; omega)
  refine bodyPost_ret (results_box2 Tryz.results60 _ _ (g + 1) 36 _ _ (by rfl) Z5 Tryz.underlying36 (by rfl) (by kernel_rfl) (.bool false) (by rfl)) (by rfl) ?_
  exact ⟨P, N, K, rfl, S9.out, HLF.out⟩
set_option maxHeartbeats 4000000 in
theorem br_some {F : Nat → Prop} {s : SagaD} {l : List StepD} {step tr : Int} {back : Bool} {pg pb : Nat} {good : Bool} (h : StepsAt F w s.v l) (hl6 : l.length ≤ 1000000) (hw : ∀ x ∈ l, x.wf) (h1 : I64 s.step) (hl8 : l.length ≤ 8) (p1 : 1 ≤ s.step) (p8 : s.step ≤ 8) (p2 : 0 ≤ s.tr) (p3 : s.tr ≤ 900) (hpg : pg < w.heap.size) (hpb : pb < w.heap.size) (hgd : w.cell? ⟨pg, 0, none⟩ = some (.bool good)) (hbk : w.cell? ⟨pb, 0, none⟩ = some (.bool back)) (hq : wantsB l s = true) (Q : Bool) (hQ : isIt l s step tr back = Q) : Calls Tryz.prog 60 #[s.val, .int .i64 step, .int .i64 tr, .bool back, .func (.func 61) #[] #[.pointer (some ⟨pg, 0, none⟩), .pointer (some ⟨pb, 0, none⟩)]] w (Told (if Q then reportE l s back good else s) Q l w) := by
  obtain ⟨W1, hW1⟩ : ∃ W1, W1 = (w.alloc (.cells s.cells.toArray 36 (0, 0))).alloc (.cells #[.string ⟨#[]⟩, .slice none 0 0, .int .i64 0, .int .i64 0, .int .i64 0, .bool false, .bool false, .bool false, .bool false, .bool false, .bool false, .bool false, .bool false] 36 (0, 0)) := ⟨_, rfl⟩
  obtain ⟨g, hg⟩ : ∃ g, g = w.heap.size := ⟨_, rfl⟩
  have X1 : Hid (SBox 36 g s W1) := by rw [hW1, hg]; exact (heap_alloc_old _ _ (by simp)).trans (heap_alloc_new _ _)
  have Y1 : Hid (SBox 36 (g + 1) SagaD.zero W1) := by rw [hW1, hg]; exact heap_second _ _ _
  have L1 : Hid (Later w W1) := by rw [hW1]; exact ((Below.refl _ _).alloc (Nat.le_refl _) _).alloc (by simp) _
  have HG0 : Hid (w.heap.size ≤ g) := Nat.le_of_eq hg.symm
  have CW0 : Hid (∀ W, Later W1 W → Calls Tryz.prog 87 #[s.val] W (Wanted l s W)) := fun W hW => wants_any (StepsAt.kept h (Kept.of_below (L1.out.trans hW) _)) hw h1
  have CO : Hid (∀ W, Later W1 W → Calls Tryz.prog 55 #[s.val] W (Owns s l W)) := fun W hW => own_any (StepsAt.kept h (Kept.of_below (L1.out.trans hW) _)) hl6
  obtain ⟨cs, hcs⟩ : ∃ c, (stepAt l s.step).stub = c := ⟨_, rfl⟩
  obtain ⟨ct, hct⟩ : ∃ c, s.step = c := ⟨_, rfl⟩
  obtain ⟨cr, hcr⟩ : ∃ c, s.tr = c := ⟨_, rfl⟩
  obtain ⟨cb, hcb⟩ : ∃ c, decide (s.st = 2) = c := ⟨_, rfl⟩
  have CW : Hid (∀ W, Later W1 W → Calls Tryz.prog 87 #[s.val] W fun e w' => e = .returned (.tuple #[.agg #[.int .i64 0, .int .i64 cs, .int .i64 0, .int .i64 ct, .int .i64 cr, .bool cb], .int .i64 (wantsW l s), .bool true]) ∧ Later W w') := fun W hW => (CW0.out W hW).mono (fun e w' he => ⟨by rw [he.1]; unfold wantsC; rw [hq, if_pos rfl, hcs, hct, hcr, hcb]; rfl, he.2⟩)
  obtain ⟨ticks, ht⟩ : ∃ t, wantsW l s = t := ⟨_, rfl⟩
  rw [ht] at CW
  have HQ : Hid (Q = (decide (ct = step) && (decide (cr = tr) && (cb == back)))) := by show _ = _; rw [← hQ]; unfold isIt; rw [hq, hct, hcr, hcb, Bool.true_and]
  obtain ⟨R, hR⟩ : ∃ R, (if Q then reportE l s back good else s) = R := ⟨_, rfl⟩
  have HR : Hid (R = if Q then reportE l s back good else s) := hR.symm
  rw [hR]
  have CE : Hid (∀ W, Later W1 W → Calls Tryz.prog 61 #[s.val, .pointer (some ⟨pg, 0, none⟩), .pointer (some ⟨pb, 0, none⟩)] W (Gives (reportE l s back good).val W)) := fun W hW => rep_any (StepsAt.kept h (Kept.of_below (L1.out.trans hW) _)) hl8 hw p1 p8 p2 p3 (Nat.lt_of_lt_of_le hpg (Below.size (L1.out.trans hW))) (Nat.lt_of_lt_of_le hpb (Below.size (L1.out.trans hW))) ((Below.cell (L1.out.trans hW) (p := ⟨pg, 0, none⟩) hpg).trans hgd) ((Below.cell (L1.out.trans hW) (p := ⟨pb, 0, none⟩) hpb).trans hbk)
  have COE : Hid (∀ W, Later W1 W → Calls Tryz.prog 55 #[(reportE l s back good).val] W (Owns (reportE l s back good) l W)) := fun W hW => own_any (s := reportE l s back good) (by rw [reportE_v]; exact StepsAt.kept h (Kept.of_below (L1.out.trans hW) _)) hl6
  have HW1 := hide hW1.symm
  have HG := hide hg.symm
  clear hW1 hg h hl6 hw h1 hq hQ ht CW0 hR hcs hct hcr hcb p1 p8 p2 p3 hl8 hpg hpb hgd hbk
  have xe := X1.out
  rw [← HW1.out, ← HG.out] at xe
  have XE := hide xe
  clear xe
  go_enter Tryz.func60, Tryz.ntmps60
  go_wp2_with (refine wpList_load_saga (by rfl) _ (by rfl) (by rfl) XE.out ?_; simp only [HW1.out, HG.out])
  refine (CW.out _ (Later.refl _)).mono ?_
  rintro e w2 ⟨rfl, hl⟩
  have L12 := hide hl
  have L2 := hide (L1.out.trans hl)
  have X2 := hide (X1.out.below hl)
  have Y2 := hide (Y1.out.below hl)
  clear hl CW
  obtain ⟨w3, hw3⟩ : ∃ w3, w3 = w2.alloc (.cells #[.int .i64 0, .int .i64 cs, .int .i64 0, .int .i64 ct, .int .i64 cr, .bool cb] 62 (0, 0)) := ⟨_, rfl⟩
  obtain ⟨y, hy⟩ : ∃ y, y = w2.heap.size := ⟨_, rfl⟩
  have B3 : Hid (CBox y ⟨cs, ct, cr, cb⟩ w3) := by rw [hw3, hy]; exact heap_alloc_new w2 _
  have L23 : Hid (Later w2 w3) := by rw [hw3]; exact (Below.refl _ _).alloc (Nat.le_refl _) _
  have L13 := hide (L12.out.trans L23.out)
  have L3 := hide (L2.out.trans L23.out)
  have X3 := hide (X2.out.below L23.out)
  have Y3 := hide (Y2.out.below L23.out)
  obtain ⟨k0, k1, k2, k3, k4, k5, kf⟩ := B3.out.cells
  rw [hw3, hy] at k3 k4 k5
  have x3 := X3.out
  have y3 := Y3.out
  rw [hw3] at x3 y3
  have XR := hide x3
  have HW3 := hide hw3.symm
  have HY := hide hy.symm
  clear k0 k1 k2 kf hw3 hy x3 y3
  by_cases g1 : ct = step
  · subst g1
    by_cases g2 : cr = tr
    · subst g2
      cases hcmp : (cb == back) with
      | true =>
        obtain rfl : back = cb := (show cb = back by simpa using hcmp).symm
        obtain rfl : Q = true := by rw [HQ.out]; simp
        obtain rfl : R = reportE l s back good := by rw [HR.out]; rfl
        clear HQ HR hcmp
        go_wp2_with (refine wpList_load_saga (by rfl) _ (by rfl) (by rfl) XR.out ?_; simp only [HW3.out, HY.out])
        refine (CE.out _ L13.out).mono ?_
        rintro e w5 ⟨rfl, hl⟩
        have L15 := hide (L13.out.trans hl)
        have L5 := hide (L3.out.trans hl)
        have Y5 := hide (Y3.out.below hl)
        clear hl
        go_wp2_with (fail)
        refine (COE.out _ L15.out).mono ?_
        rintro e w6 ⟨P, N, K, rfl, hs, hl⟩
        have HS9 := hide hs
        have HLT := hide (Y5.out.lt)
        have L6 := hide (L5.out.trans hl)
        have HSZ := hide (Below.size L5.out)
        have Y6 := hide (Y5.out.below hl)
        clear hl hs
        go_wp2_with (first | (refine wpList_load_saga (by rfl) _ (by rfl) (by rfl) X3.out ?_) | (refine wpList_store_saga (by rfl) _ _ (by rfl) (by rfl) Y6.out (by rfl) ?_; intro w7 Z7 G7))
        have S9 : Hid (StepsAt (w.heap.size ≤ ·) w7 (.slice P N K) l) := FlatAt.mono (own_kept HS9.out HLT.out G7) (fun i _ hf => Nat.le_trans HSZ.out hf)
        have HLF : Hid (Later w _) := L6.out.grown G7 (Below.size L6.out) (fun k hk => by have := Option.some.inj hk; have := HG0.out; omega)
        refine bodyPost_ret (results_box2 Tryz.results60 _ _ (g + 1) 36 _ _ (by rfl) Z7 Tryz.underlying36 (by rfl) (by kernel_rfl) (.bool true) (by rfl)) (by rfl) ?_
        exact ⟨P, N, K, rfl, S9.out, HLF.out⟩

      | false =>
        have hne : (cb != back) = true := by cases cb <;> cases back <;> simp_all
        obtain rfl : Q = false := by rw [HQ.out]; simp [hcmp]
        obtain rfl : R = s := by rw [HR.out]; rfl
        clear HQ HR
        go_wp2_with (refine wpList_load_saga (by rfl) _ (by rfl) (by rfl) XR.out ?_; simp only [HW3.out, HY.out])
        refine (CO.out _ L13.out).mono ?_
        rintro e w4 ⟨P, N, K, rfl, hs, hl⟩
        have HS9 := hide hs
        have HLT := hide (Y3.out.lt)
        have L4 := hide (L3.out.trans hl)
        have HSZ := hide (Below.size L3.out)
        have Y4 := hide (Y3.out.below hl)
        clear hl hs
        go_wp2_with (first | (refine wpList_load_saga (by rfl) _ (by rfl) (by rfl) X3.out ?_) | (refine wpList_store_saga (by rfl) _ _ (by rfl) (by rfl) Y4.out (by rfl) ?_; intro w5 Z5 G5))
        have S9 : Hid (StepsAt (w.heap.size ≤ ·) w5 (.slice P N K) l) := FlatAt.mono (own_kept HS9.out HLT.out G5) (fun i _ hf => Nat.le_trans HSZ.out hf)
        have HLF : Hid (Later w _) := L4.out.grown G5 (Below.size L4.out) (fun k hk => by have := Option.some.inj hk; have := HG0.out; omega)
        refine bodyPost_ret (results_box2 Tryz.results60 _ _ (g + 1) 36 _ _ (by rfl) Z5 Tryz.underlying36 (by rfl) (by kernel_rfl) (.bool false) (by rfl)) (by rfl) ?_
        exact ⟨P, N, K, rfl, S9.out, HLF.out⟩

    · have hne : (cr != tr) = true := by simpa using g2
      obtain rfl : Q = false := by rw [HQ.out]; simp [g2]
      obtain rfl : R = s := by rw [HR.out]; rfl
      clear HQ HR
      go_wp2_with (refine wpList_load_saga (by rfl) _ (by rfl) (by rfl) XR.out ?_; simp only [HW3.out, HY.out])
      refine (CO.out _ L13.out).mono ?_
      rintro e w4 ⟨P, N, K, rfl, hs, hl⟩
      have HS9 := hide hs
      have HLT := hide (Y3.out.lt)
      have L4 := hide (L3.out.trans hl)
      have HSZ := hide (Below.size L3.out)
      have Y4 := hide (Y3.out.below hl)
      clear hl hs
      go_wp2_with (first | (refine wpList_load_saga (by rfl) _ (by rfl) (by rfl) X3.out ?_) | (refine wpList_store_saga (by rfl) _ _ (by rfl) (by rfl) Y4.out (by rfl) ?_; intro w5 Z5 G5))
      have S9 : Hid (StepsAt (w.heap.size ≤ ·) w5 (.slice P N K) l) := FlatAt.mono (own_kept HS9.out HLT.out G5) (fun i _ hf => Nat.le_trans HSZ.out hf)
      have HLF : Hid (Later w _) := L4.out.grown G5 (Below.size L4.out) (fun k hk => by have := Option.some.inj hk; have := HG0.out; omega)
      refine bodyPost_ret (results_box2 Tryz.results60 _ _ (g + 1) 36 _ _ (by rfl) Z5 Tryz.underlying36 (by rfl) (by kernel_rfl) (.bool false) (by rfl)) (by rfl) ?_
      exact ⟨P, N, K, rfl, S9.out, HLF.out⟩

  · have hne : (ct != step) = true := by simpa using g1
    obtain rfl : Q = false := by rw [HQ.out]; simp [g1]
    obtain rfl : R = s := by rw [HR.out]; rfl
    clear HQ HR
    go_wp2_with (refine wpList_load_saga (by rfl) _ (by rfl) (by rfl) XR.out ?_; simp only [HW3.out, HY.out])
    refine (CO.out _ L13.out).mono ?_
    rintro e w4 ⟨P, N, K, rfl, hs, hl⟩
    have HS9 := hide hs
    have HLT := hide (Y3.out.lt)
    have L4 := hide (L3.out.trans hl)
    have HSZ := hide (Below.size L3.out)
    have Y4 := hide (Y3.out.below hl)
    clear hl hs
    go_wp2_with (first | (refine wpList_load_saga (by rfl) _ (by rfl) (by rfl) X3.out ?_) | (refine wpList_store_saga (by rfl) _ _ (by rfl) (by rfl) Y4.out (by rfl) ?_; intro w5 Z5 G5))
    have S9 : Hid (StepsAt (w.heap.size ≤ ·) w5 (.slice P N K) l) := FlatAt.mono (own_kept HS9.out HLT.out G5) (fun i _ hf => Nat.le_trans HSZ.out hf)
    have HLF : Hid (Later w _) := L4.out.grown G5 (Below.size L4.out) (fun k hk => by have := Option.some.inj hk; have := HG0.out; omega)
    refine bodyPost_ret (results_box2 Tryz.results60 _ _ (g + 1) 36 _ _ (by rfl) Z5 Tryz.underlying36 (by rfl) (by kernel_rfl) (.bool false) (by rfl)) (by rfl) ?_
    exact ⟨P, N, K, rfl, S9.out, HLF.out⟩

end
end Go.Proofs.YtpckdhjnhnonhaaGreat
/- A struct literal at an operation, its parts said as a list. -/
namespace Go.Proofs.YtpckdhjnhnonhaaGreat
open Go.RowKit

section
variable {P : Program} {w : World} {op : Oper} {a : Act}
theorem parts_list (xs : Array (Nat × Operand)) (ps : List (Nat × Value)) (hp : xs.toList.map (fun q => (q.1, a.eval q.2)) = ps) : (xs.map fun (i, x) => (i, a.eval x)).toList = ps := by
  rw [Array.toList_map]
  exact hp
theorem wpList_build_parts {ops : Array Oper} {rest : List Oper} {Q : Exit → Act → World → Prop} (hgd : op.guard = none) (t : TypeId) (xs : Array (Nat × Operand)) (ho : op.op = .build t xs) (ps : List (Nat × Value))
    (hp : xs.toList.map (fun q => (q.1, a.eval q.2)) = ps) (cells : Array Value) (hb : P.built t ps = some cells) (h : wpList P ops Q rest (a.put op.dst (.agg cells)) w) : wpList P ops Q (op :: rest) a w := by
  have e := parts_list xs ps hp
  refine wpList_build hgd t _ ho ?_ ?_
  · rw [e, hb]; rfl
  · rw [e, hb]; exact h
theorem exec_build_parts (t : TypeId) (xs : Array (Nat × Operand)) (ho : op.op = .build t xs) (ps : List (Nat × Value)) (hp : xs.toList.map (fun q => (q.1, a.eval q.2)) = ps) (cells : Array Value) (hb : P.built t ps = some cells) :
    (execOp a.eval op).run P w = .ok (.value (.agg cells)) w := by
  have e := parts_list xs ps hp
  unfold execOp
  simp only [ho, Sem.run_bind, run_build w t _ cells (by rw [e]; exact hb), Result.andThen_ok]
  rfl
end
end Go.Proofs.YtpckdhjnhnonhaaGreat
/- How a saga begins; a try that is told of, or of which nothing is told in time. -/
namespace Go.Proofs.YtpckdhjnhnonhaaGreat
open Go.RowKit
section
variable {w : World}
theorem bl_any {F : Nat → Prop} {s : SagaD} {l : List StepD} {step tr : Int} {back : Bool} (h : StepsAt F w s.v l) (hl6 : l.length ≤ 1000000) (hw : ∀ x ∈ l, x.wf) (h1 : I64 s.step) : Calls Tryz.prog 60 #[s.val, .int .i64 step, .int .i64 tr, .bool back, .func (.func 65) #[] #[]] w (Told (lapseF l s step tr back) (isIt l s step tr back) l w) := by
  cases hq : wantsB l s with
  | false =>
    have hi : isIt l s step tr back = false := by unfold isIt; rw [hq]; rfl
    unfold lapseF
    rw [hi]
    exact bl_none h hl6 hw h1 hq
  | true =>
    obtain ⟨he, p1, p2, p3, p4, p5, p6, p7⟩ := wants_parts hq
    have := tries_le (k := s.step) he
    exact bl_some h hl6 hw h1 (check_good he).1 p1 p3 (by omega) (by omega) hq _ rfl
theorem br_any {F : Nat → Prop} {s : SagaD} {l : List StepD} {step tr : Int} {back good : Bool} {pg pb : Nat} (h : StepsAt F w s.v l) (hl6 : l.length ≤ 1000000) (hw : ∀ x ∈ l, x.wf) (h1 : I64 s.step) (hpg : pg < w.heap.size) (hpb : pb < w.heap.size) (hgd : w.cell? ⟨pg, 0, none⟩ = some (.bool good)) (hbk : w.cell? ⟨pb, 0, none⟩ = some (.bool back)) : Calls Tryz.prog 60 #[s.val, .int .i64 step, .int .i64 tr, .bool back, .func (.func 61) #[] #[.pointer (some ⟨pg, 0, none⟩), .pointer (some ⟨pb, 0, none⟩)]] w (Told (reportF l s step tr back good) (isIt l s step tr back) l w) := by
  cases hq : wantsB l s with
  | false =>
    have hi : isIt l s step tr back = false := by unfold isIt; rw [hq]; rfl
    unfold reportF
    rw [hi]
    exact br_none h hl6 hw h1 hq
  | true =>
    obtain ⟨he, p1, p2, p3, p4, p5, p6, p7⟩ := wants_parts hq
    have := tries_le (k := s.step) he
    exact br_some h hl6 hw h1 (check_good he).1 p1 p3 (by omega) (by omega) hpg hpb hgd hbk hq _ rfl
set_option maxHeartbeats 4000000 in
theorem lapse_any {F : Nat → Prop} {s : SagaD} {l : List StepD} {step tr : Int} {back : Bool} (h : StepsAt F w s.v l) (hl6 : l.length ≤ 1000000) (hw : ∀ x ∈ l, x.wf) (h1 : I64 s.step) : Calls Tryz.prog 33 #[s.val, .int .i64 step, .int .i64 tr, .bool back] w (Told (lapseF l s step tr back) (isIt l s step tr back) l w) := by
  obtain ⟨W1, hW1⟩ : ∃ W1, W1 = (w.alloc (.cells s.cells.toArray 36 (0, 0))).alloc (.cells #[.string ⟨#[]⟩, .slice none 0 0, .int .i64 0, .int .i64 0, .int .i64 0, .bool false, .bool false, .bool false, .bool false, .bool false, .bool false, .bool false, .bool false] 36 (0, 0)) := ⟨_, rfl⟩
  obtain ⟨g, hg⟩ : ∃ g, g = w.heap.size := ⟨_, rfl⟩
  have X1 : Hid (SBox 36 g s W1) := by rw [hW1, hg]; exact (heap_alloc_old _ _ (by simp)).trans (heap_alloc_new _ _)
  have Y1 : Hid (SBox 36 (g + 1) SagaD.zero W1) := by rw [hW1, hg]; exact heap_second _ _ _
  have L1 : Hid (Later w W1) := by rw [hW1]; exact ((Below.refl _ _).alloc (Nat.le_refl _) _).alloc (by simp) _
  have HG0 : Hid (w.heap.size ≤ g) := Nat.le_of_eq hg.symm
  have C : Hid (∀ W, Later W1 W → Calls Tryz.prog 60 #[s.val, .int .i64 step, .int .i64 tr, .bool back, .func (.func 65) #[] #[]] W (Told (lapseF l s step tr back) (isIt l s step tr back) l W)) := fun W hW => bl_any (StepsAt.kept h (Kept.of_below (L1.out.trans hW) _)) hl6 hw h1
  obtain ⟨s2, hs2⟩ : ∃ x, lapseF l s step tr back = x := ⟨_, rfl⟩
  obtain ⟨Q, hQ⟩ : ∃ x, isIt l s step tr back = x := ⟨_, rfl⟩
  rw [hs2, hQ] at C ⊢
  have HW1 := hide hW1.symm
  have HG := hide hg.symm
  clear hW1 hg h hl6 hw h1 hs2 hQ
  have xe := X1.out
  rw [← HW1.out, ← HG.out] at xe
  have XE := hide xe
  clear xe
  go_enter Tryz.func33, Tryz.ntmps33
  go_wp2_with (refine wpList_load_saga (by rfl) _ (by rfl) (by rfl) XE.out ?_; simp only [HW1.out, HG.out])
  refine (C.out _ (Later.refl _)).mono ?_
  rintro e w2 ⟨P, N, K, rfl, hs, hl⟩
  have HLT := hide (Y1.out.lt)
  have HSZ := hide (Below.size L1.out)
  have HS9 := hide hs
  have L2 := hide (L1.out.trans hl)
  have Y2 := hide (Y1.out.below hl)
  clear hl hs
  go_wp2_with (first | (refine wpList_load_saga (by rfl) _ (by rfl) (by rfl) X1.out ?_) | (refine wpList_store_saga (by rfl) _ _ (by rfl) (by rfl) Y2.out (by rfl) ?_; intro w3 Z3 G3))
  have S9 : Hid (StepsAt (w.heap.size ≤ ·) w3 (.slice P N K) l) := FlatAt.mono (own_kept HS9.out HLT.out G3) (fun i _ hf => Nat.le_trans HSZ.out hf)
  have HLF : Hid (Later w _) := L2.out.grown G3 (Below.size L2.out) (fun k hk => by have := Option.some.inj hk; have := HG0.out; omega)
  refine bodyPost_ret (results_box2 Tryz.results33 _ _ (g + 1) 36 _ _ (by rfl) Z3 Tryz.underlying36 (by rfl) (by kernel_rfl) (.bool Q) (by rfl)) (by rfl) ?_
  exact ⟨P, N, K, rfl, S9.out, HLF.out⟩
set_option maxHeartbeats 4000000 in
theorem report_any {F : Nat → Prop} {s : SagaD} {l : List StepD} {step tr : Int} {back good : Bool} (h : StepsAt F w s.v l) (hl6 : l.length ≤ 1000000) (hw : ∀ x ∈ l, x.wf) (h1 : I64 s.step) : Calls Tryz.prog 31 #[s.val, .int .i64 step, .int .i64 tr, .bool back, .bool good] w (Told (reportF l s step tr back good) (isIt l s step tr back) l w) := by
  obtain ⟨W1, hW1⟩ : ∃ W1, W1 = (((w.alloc (.cells s.cells.toArray 36 (0, 0))).alloc (.cells #[.bool back] 4 (0, 0))).alloc (.cells #[.bool good] 4 (0, 0))).alloc (.cells #[.string ⟨#[]⟩, .slice none 0 0, .int .i64 0, .int .i64 0, .int .i64 0, .bool false, .bool false, .bool false, .bool false, .bool false, .bool false, .bool false, .bool false] 36 (0, 0)) := ⟨_, rfl⟩
  obtain ⟨g, hg⟩ : ∃ g, g = w.heap.size := ⟨_, rfl⟩
  have hz : W1.heap.size = g + 4 := by rw [hW1, hg]; simp
  have X1 : Hid (SBox 36 g s W1) := by rw [hW1, hg]; exact (heap_alloc_old _ _ (by simp <;> omega)).trans ((heap_alloc_old _ _ (by simp <;> omega)).trans ((heap_alloc_old _ _ (by simp)).trans (heap_alloc_new _ _)))
  have K1 : Hid (W1.heap[g + 1]? = some (.cells #[.bool back] 4 (0, 0))) := by rw [hW1, hg]; exact (heap_alloc_old _ _ (by simp <;> omega)).trans ((heap_alloc_old _ _ (by simp)).trans (heap_second _ _ _))
  have K2 : Hid (W1.heap[g + 1 + 1]? = some (.cells #[.bool good] 4 (0, 0))) := by
    rw [hW1, hg]
    refine (heap_alloc_old _ _ (by simp)).trans ?_
    have hh := heap_second (w.alloc (.cells s.cells.toArray 36 (0, 0))) (.cells #[.bool back] 4 (0, 0)) (.cells #[.bool good] 4 (0, 0))
    rwa [show (w.alloc (.cells s.cells.toArray 36 (0, 0))).heap.size = w.heap.size + 1 from by simp] at hh
  have Y1 : Hid (SBox 36 (g + 1 + 1 + 1) SagaD.zero W1) := by
    rw [hW1, hg]
    have hh := heap_alloc_new (((w.alloc (.cells s.cells.toArray 36 (0, 0))).alloc (.cells #[.bool back] 4 (0, 0))).alloc (.cells #[.bool good] 4 (0, 0))) (.cells #[.string ⟨#[]⟩, .slice none 0 0, .int .i64 0, .int .i64 0, .int .i64 0, .bool false, .bool false, .bool false, .bool false, .bool false, .bool false, .bool false, .bool false] 36 (0, 0))
    rwa [show (((w.alloc (.cells s.cells.toArray 36 (0, 0))).alloc (.cells #[.bool back] 4 (0, 0))).alloc (.cells #[.bool good] 4 (0, 0))).heap.size = w.heap.size + 1 + 1 + 1 from by simp] at hh
  have L1 : Hid (Later w W1) := by rw [hW1]; exact ((((Below.refl _ _).alloc (Nat.le_refl _) _).alloc (by simp) _).alloc (by simp <;> omega) _).alloc (by simp; omega) _
  have HG0 : Hid (w.heap.size ≤ g) := Nat.le_of_eq hg.symm
  have cb := (cell_of_row W1 (g + 1) 0 _ _ _ K1.out).trans (show _ = some (Value.bool back) from rfl)
  have cg := (cell_of_row W1 (g + 1 + 1) 0 _ _ _ K2.out).trans (show _ = some (Value.bool good) from rfl)
  have C : Hid (∀ W, Later W1 W → Calls Tryz.prog 60 #[s.val, .int .i64 step, .int .i64 tr, .bool back, .func (.func 61) #[] #[.pointer (some ⟨g + 1 + 1, 0, none⟩), .pointer (some ⟨g + 1, 0, none⟩)]] W (Told (reportF l s step tr back good) (isIt l s step tr back) l W)) := fun W hW => br_any (StepsAt.kept h (Kept.of_below (L1.out.trans hW) _)) hl6 hw h1 (by have := Below.size hW; omega) (by have := Below.size hW; omega) ((Below.cell hW (p := ⟨g + 1 + 1, 0, none⟩) (by show g + 1 + 1 < _; omega)).trans cg) ((Below.cell hW (p := ⟨g + 1, 0, none⟩) (by show g + 1 < _; omega)).trans cb)
  obtain ⟨s2, hs2⟩ : ∃ x, reportF l s step tr back good = x := ⟨_, rfl⟩
  obtain ⟨Q, hQ⟩ : ∃ x, isIt l s step tr back = x := ⟨_, rfl⟩
  rw [hs2, hQ] at C ⊢
  have HW1 := hide hW1.symm
  have HG := hide hg.symm
  have xe := X1.out
  rw [hW1, hg] at xe
  have XE := hide xe
  clear hW1 hg h hl6 hw h1 hs2 hQ xe cg hz
  go_enter Tryz.func31, Tryz.ntmps31
  go_wp2_with (refine wpList_load_saga (by rfl) _ (by rfl) (by rfl) XE.out ?_; simp only [HW1.out, HG.out])
  refine (C.out _ (Later.refl _)).mono ?_
  rintro e w2 ⟨P, N, K, rfl, hs, hl⟩
  have HLT := hide (Y1.out.lt)
  have HSZ := hide (Below.size L1.out)
  have HS9 := hide hs
  have L2 := hide (L1.out.trans hl)
  have Y2 := hide (Y1.out.below hl)
  clear hl hs
  go_wp2_with (first | (refine wpList_load_saga (by rfl) _ (by rfl) (by rfl) X1.out ?_) | (refine wpList_store_saga (by rfl) _ _ (by rfl) (by rfl) Y2.out (by rfl) ?_; intro w3 Z3 G3))
  have S9 : Hid (StepsAt (w.heap.size ≤ ·) w3 (.slice P N K) l) := FlatAt.mono (own_kept HS9.out HLT.out G3) (fun i _ hf => Nat.le_trans HSZ.out hf)
  have HLF : Hid (Later w _) := L2.out.grown G3 (Below.size L2.out) (fun k hk => by have := Option.some.inj hk; have := HG0.out; omega)
  refine bodyPost_ret (results_box2 Tryz.results31 _ _ (g + 1 + 1 + 1) 36 _ _ (by rfl) Z3 Tryz.underlying36 (by rfl) (by kernel_rfl) (.bool Q) (by rfl)) (by rfl) ?_
  exact ⟨P, N, K, rfl, S9.out, HLF.out⟩
def Begun (name : ByteArray) (l : List StepD) (w : World) (e : Ending) (w' : World) : Prop := ∃ p n c, e = .returned (.tuple #[(SagaD.mk name p n c 1 1 1 (upH 0)).val, .int .i64 0]) ∧ StepsAt (w.heap.size ≤ ·) w' (.slice p n c) l ∧ Later w w'
set_option maxHeartbeats 4000000 in
theorem begin_err {F : Nat → Prop} {name : ByteArray} {A : Option Addr} {n c : Nat} {l : List StepD} (h : StepsAt F w (.slice A n c) l) (he : (checkF name l).2 ≠ 0) : Calls Tryz.prog 53 #[.agg #[.string name, .slice A n c]] w fun e w' => e = .returned (.tuple #[SagaD.zero.val, .int .i64 (((checkF name l).2 : Nat) : Int)]) ∧ Later w w' := by
  obtain ⟨W1, hW1⟩ : ∃ W1, W1 = (w.alloc (.cells #[.string name, .slice A n c] 31 (0, 0))).alloc (.cells #[.string ⟨#[]⟩, .slice none 0 0, .int .i64 0, .int .i64 0, .int .i64 0, .bool false, .bool false, .bool false, .bool false, .bool false, .bool false, .bool false, .bool false] 36 (0, 0)) := ⟨_, rfl⟩
  obtain ⟨g, hg⟩ : ∃ g, g = w.heap.size := ⟨_, rfl⟩
  have X1 : Hid (DefBox g name (.slice A n c) W1) := by rw [hW1, hg]; exact (heap_alloc_old _ _ (by simp)).trans (heap_alloc_new _ _)
  have Y1 : Hid (SBox 36 (g + 1) SagaD.zero W1) := by rw [hW1, hg]; exact heap_second _ _ _
  have L1 : Hid (Later w W1) := by rw [hW1]; exact ((Below.refl _ _).alloc (Nat.le_refl _) _).alloc (by simp) _
  have HG0 : Hid (w.heap.size ≤ g) := Nat.le_of_eq hg.symm
  have CC : Hid (Calls Tryz.prog 75 #[.agg #[.string name, .slice A n c]] W1 fun e w' => e = .returned (.tuple #[.int .i64 (((checkF name l).1 : Nat) : Int), .int .i64 (((checkF name l).2 : Nat) : Int)]) ∧ Later W1 w') := check_any (StepsAt.kept h (Kept.of_below L1.out _))
  obtain ⟨k1, hk1⟩ : ∃ k1, (checkF name l).1 = k1 := ⟨_, rfl⟩
  obtain ⟨k2, hk2⟩ : ∃ k2, (checkF name l).2 = k2 := ⟨_, rfl⟩
  rw [hk1, hk2] at CC
  have e0 := X1.out.name_
  have e1 := X1.out.steps
  rw [hW1, hg] at e0 e1
  rw [hk2]
  have hb : ((k2 : Int) != 0) = true := by simpa using (show ¬ (k2 : Int) = 0 by omega)
  have HW1 := hide hW1.symm
  have HG := hide hg.symm
  clear hW1 hg h he hk1 hk2
  go_enter Tryz.func53, Tryz.ntmps53
  go_wp2_with (fail)
  simp only [HW1.out, HG.out]
  refine CC.out.mono ?_
  rintro e w2 ⟨rfl, hl⟩
  have L12 := hide hl
  have L2 := hide (L1.out.trans hl)
  have X2 := hide (X1.out.below hl)
  have Y2 := hide (Y1.out.below hl)
  clear hl CC e0 e1
  go_wp2_with (refine wpList_store_saga (s := SagaD.zero) (by rfl) _ _ (by rfl) (by rfl) Y2.out (by rfl) ?_; intro w3 Z3 G3)
  have HLF : Hid (Later w _) := L2.out.grown G3 (Below.size L2.out) (fun k hk => by have := Option.some.inj hk; have := HG0.out; omega)
  refine bodyPost_ret (results_box2 Tryz.results53 _ _ (g + 1) 36 _ _ (by rfl) Z3 Tryz.underlying36 (by rfl) (by kernel_rfl) (.int .i64 (k2 : Int)) (by rfl)) (by rfl) ?_
  exact ⟨rfl, HLF.out⟩
set_option maxHeartbeats 4000000 in
theorem begin_ok {F : Nat → Prop} {name : ByteArray} {A : Option Addr} {n c : Nat} {l : List StepD} (h : StepsAt F w (.slice A n c) l) (he : (checkF name l).2 = 0) : Calls Tryz.prog 53 #[.agg #[.string name, .slice A n c]] w (Begun name l w) := by
  obtain ⟨W1, hW1⟩ : ∃ W1, W1 = (w.alloc (.cells #[.string name, .slice A n c] 31 (0, 0))).alloc (.cells #[.string ⟨#[]⟩, .slice none 0 0, .int .i64 0, .int .i64 0, .int .i64 0, .bool false, .bool false, .bool false, .bool false, .bool false, .bool false, .bool false, .bool false] 36 (0, 0)) := ⟨_, rfl⟩
  obtain ⟨g, hg⟩ : ∃ g, g = w.heap.size := ⟨_, rfl⟩
  have X1 : Hid (DefBox g name (.slice A n c) W1) := by rw [hW1, hg]; exact (heap_alloc_old _ _ (by simp)).trans (heap_alloc_new _ _)
  have Y1 : Hid (SBox 36 (g + 1) SagaD.zero W1) := by rw [hW1, hg]; exact heap_second _ _ _
  have L1 : Hid (Later w W1) := by rw [hW1]; exact ((Below.refl _ _).alloc (Nat.le_refl _) _).alloc (by simp) _
  have HG0 : Hid (w.heap.size ≤ g) := Nat.le_of_eq hg.symm
  have CC : Hid (Calls Tryz.prog 75 #[.agg #[.string name, .slice A n c]] W1 fun e w' => e = .returned (.tuple #[.int .i64 (((checkF name l).1 : Nat) : Int), .int .i64 (((checkF name l).2 : Nat) : Int)]) ∧ Later W1 w') := check_any (StepsAt.kept h (Kept.of_below L1.out _))
  obtain ⟨k1, hk1⟩ : ∃ k1, (checkF name l).1 = k1 := ⟨_, rfl⟩
  obtain ⟨k2, hk2⟩ : ∃ k2, (checkF name l).2 = k2 := ⟨_, rfl⟩
  rw [hk1, hk2] at CC
  have e0 := X1.out.name_
  have e1 := X1.out.steps
  rw [hW1, hg] at e0 e1
  obtain rfl : k2 = 0 := by rw [← hk2]; exact he
  have CA := hide (fun W => at_any (w := W) ⟨name, A, n, c, 0, 0, 0, upH 0⟩ 1 1)
  have CO : Hid (∀ W, Later W1 W → Calls Tryz.prog 55 #[(SagaD.mk name A n c 1 1 1 (upH 0)).val] W (Owns ⟨name, A, n, c, 1, 1, 1, upH 0⟩ l W)) := fun W hW => own_any (s := ⟨name, A, n, c, 1, 1, 1, upH 0⟩) (StepsAt.kept h (Kept.of_below (L1.out.trans hW) _)) (by have := (check_good he).1; omega)
  have HW1 := hide hW1.symm
  have HG := hide hg.symm
  clear hW1 hg h he hk1 hk2
  go_enter Tryz.func53, Tryz.ntmps53
  go_wp2_with (fail)
  simp only [HW1.out, HG.out]
  refine CC.out.mono ?_
  rintro e w2 ⟨rfl, hl⟩
  have L12 := hide hl
  have L2 := hide (L1.out.trans hl)
  have X2 := hide (X1.out.below hl)
  have Y2 := hide (Y1.out.below hl)
  clear hl CC e0 e1
  have d0 := X2.out.name_
  have d1 := X2.out.steps
  go_wp2_with (refine wpList_build_parts (by rfl) 36 _ (by rfl) [(0, .agg #[.string name, .slice A n c])] (by rfl) (SagaD.mk name A n c 0 0 0 (upH 0)).cells.toArray (by kernel_rfl) ?_)
  refine (CA.out _).mono ?_
  rintro e w3 ⟨rfl, hl⟩
  have L13 := hide (L12.out.trans hl)
  have L3 := hide (L2.out.trans hl)
  have Y3 := hide (Y2.out.below hl)
  clear hl CA d0 d1
  go_wp2_with (fail)
  refine (CO.out _ L13.out).mono ?_
  rintro e w4 ⟨P, N, K, rfl, hs, hl⟩
  have HLT := hide (Y3.out.lt)
  have HSZ := hide (Below.size L3.out)
  have HS9 := hide hs
  have L4 := hide (L3.out.trans hl)
  have Y4 := hide (Y3.out.below hl)
  clear hl hs CO
  go_wp2_with (refine wpList_store_saga (s := SagaD.mk name P N K 1 1 1 (upH 0)) (by rfl) _ _ (by rfl) (by rfl) Y4.out (by rfl) ?_; intro w5 Z5 G5)
  have S9 : Hid (StepsAt (w.heap.size ≤ ·) w5 (.slice P N K) l) := FlatAt.mono (own_kept HS9.out HLT.out G5) (fun i _ hf => Nat.le_trans HSZ.out hf)
  have HLF : Hid (Later w _) := L4.out.grown G5 (Below.size L4.out) (fun k hk => by have := Option.some.inj hk; have := HG0.out; omega)
  refine bodyPost_ret (results_box2 Tryz.results53 _ _ (g + 1) 36 _ _ (by rfl) Z5 Tryz.underlying36 (by rfl) (by kernel_rfl) (.int .i64 0) (by rfl)) (by rfl) ?_
  exact ⟨P, N, K, rfl, S9.out, HLF.out⟩
end
end Go.Proofs.YtpckdhjnhnonhaaGreat
