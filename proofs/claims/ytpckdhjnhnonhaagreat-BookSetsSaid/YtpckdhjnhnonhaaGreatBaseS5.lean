/- Texts merged: SagV, SagX, BkRA, BkRB, BkRC, BkS, BkT, BkL, WeighN, BkV, BkX, BkRD. -/
import Derived.Test.YtpckdhjnhnonhaaGreatBaseS1
import Derived.Test.YtpckdhjnhnonhaaGreatBaseS2
import Derived.Test.YtpckdhjnhnonhaaGreatBaseS3
import Derived.Test.YtpckdhjnhnonhaaGreatBaseS4
import Derived.Deep.CutBlock
import Derived.Deep.DeepCutAuto
import Derived.Test.YtpckdhjnhnonhaaGreatProg
/- The document's answer: may there be such a saga? -/
namespace Go.Proofs.YtpckdhjnhnonhaaGreat
open Go.RowKit
section
variable {w : World}
set_option maxRecDepth 100000 in
set_option maxHeartbeats 16000000 in
theorem rgood_err {F : Nat → Prop} {s : SagaD} {l : List StepD} (h : StepsAt F w s.v l) (hw : ∀ x ∈ l, x.wf) (h1 : I64 s.step) (he : (checkF s.name l).2 ≠ 0) : Calls Tryz.prog 48 #[s.val] w (Gives (.bool (rgoodF l s)) w) := by
  have hf : rgoodF l s = false := by unfold rgoodF; rw [if_pos he]
  rw [hf]
  obtain ⟨W1, hW1⟩ : ∃ W1, W1 = (w.alloc (.cells s.cells.toArray 39 (0, 0))) := ⟨_, rfl⟩
  obtain ⟨g, hg⟩ : ∃ g, g = w.heap.size := ⟨_, rfl⟩
  have X1 : Hid (SBox 39 g s W1) := by rw [hW1, hg]; exact heap_alloc_new _ _
  have L1 : Hid (Later w W1) := by rw [hW1]; exact (Below.refl _ _).alloc (Nat.le_refl _) _
  have HG0 : Hid (w.heap.size ≤ g) := Nat.le_of_eq hg.symm
  have CC : Hid (Calls Tryz.prog 80 #[.agg #[.string s.name, .slice s.p s.n s.c]] W1 fun e w' => e = .returned (.tuple #[.int .i64 (((checkF s.name l).1 : Nat) : Int), .int .i64 (((checkF s.name l).2 : Nat) : Int)]) ∧ Later W1 w') := rcheck_any (StepsAt.kept h (Kept.of_below L1.out _))
  have C : Hid (∀ W, Later W1 W → Calls Tryz.prog 81 #[.agg #[.string s.name, .slice s.p s.n s.c], .int .i64 s.step] W fun e w' => e = .returned (.int .i64 (triesN l s.step)) ∧ Later W w') := fun W hW => rTries_any (StepsAt.kept h (Kept.of_below (L1.out.trans hW) _)) h1 hw
  have HS : Hid (∀ W, Later W1 W → StepsAt F W s.v l) := fun W hW => StepsAt.kept h (Kept.of_below (L1.out.trans hW) _)
  obtain ⟨k1, hk1⟩ : ∃ k1, (checkF s.name l).1 = k1 := ⟨_, rfl⟩
  obtain ⟨k2, hk2⟩ : ∃ k2, (checkF s.name l).2 = k2 := ⟨_, rfl⟩
  rw [hk1, hk2] at CC
  have HN := hide (steps_n h)
  have HI := hide h1
  have HW1 := hide hW1.symm
  have HG := hide hg.symm
  clear hW1 hg h hk1 h1 hw
  have e0 := X1.out.c0
  have e1 := X1.out.c1
  rw [← HW1.out, ← HG.out] at e0 e1
  have hb : ((k2 : Int) != 0) = true := by simpa using (show ¬ (k2 : Int) = 0 by omega)
  clear he hk2 C HS HN HI hf
  go_enter Tryz.func48, Tryz.ntmps48
  go_wp2_with (fail)
  simp only [HW1.out, HG.out]
  refine CC.out.mono ?_
  rintro e w2 ⟨rfl, hl⟩
  have L12 := hide hl
  have L2 := hide (L1.out.trans hl)
  have X2 := hide (X1.out.below hl)
  clear hl CC e0 e1
  go_wp2
  go_ret
  exact ⟨rfl, L2.out⟩
set_option maxRecDepth 100000 in
set_option maxHeartbeats 16000000 in
theorem rgood_ok {F : Nat → Prop} {s : SagaD} {l : List StepD} (h : StepsAt F w s.v l) (hw : ∀ x ∈ l, x.wf) (h1 : I64 s.step) (he : (checkF s.name l).2 = 0) : Calls Tryz.prog 48 #[s.val] w (Gives (.bool (rgoodF l s)) w) := by
  obtain ⟨W1, hW1⟩ : ∃ W1, W1 = (w.alloc (.cells s.cells.toArray 39 (0, 0))) := ⟨_, rfl⟩
  obtain ⟨g, hg⟩ : ∃ g, g = w.heap.size := ⟨_, rfl⟩
  have X1 : Hid (SBox 39 g s W1) := by rw [hW1, hg]; exact heap_alloc_new _ _
  have L1 : Hid (Later w W1) := by rw [hW1]; exact (Below.refl _ _).alloc (Nat.le_refl _) _
  have HG0 : Hid (w.heap.size ≤ g) := Nat.le_of_eq hg.symm
  have CC : Hid (Calls Tryz.prog 80 #[.agg #[.string s.name, .slice s.p s.n s.c]] W1 fun e w' => e = .returned (.tuple #[.int .i64 (((checkF s.name l).1 : Nat) : Int), .int .i64 (((checkF s.name l).2 : Nat) : Int)]) ∧ Later W1 w') := rcheck_any (StepsAt.kept h (Kept.of_below L1.out _))
  have C : Hid (∀ W, Later W1 W → Calls Tryz.prog 81 #[.agg #[.string s.name, .slice s.p s.n s.c], .int .i64 s.step] W fun e w' => e = .returned (.int .i64 (triesN l s.step)) ∧ Later W w') := fun W hW => rTries_any (StepsAt.kept h (Kept.of_below (L1.out.trans hW) _)) h1 hw
  have HS : Hid (∀ W, Later W1 W → StepsAt F W s.v l) := fun W hW => StepsAt.kept h (Kept.of_below (L1.out.trans hW) _)
  obtain ⟨k1, hk1⟩ : ∃ k1, (checkF s.name l).1 = k1 := ⟨_, rfl⟩
  obtain ⟨k2, hk2⟩ : ∃ k2, (checkF s.name l).2 = k2 := ⟨_, rfl⟩
  rw [hk1, hk2] at CC
  have HN := hide (steps_n h)
  have HI := hide h1
  have HW1 := hide hW1.symm
  have HG := hide hg.symm
  clear hW1 hg h hk1 h1 hw
  have e0 := X1.out.c0
  have e1 := X1.out.c1
  rw [← HW1.out, ← HG.out] at e0 e1
  obtain rfl : k2 = 0 := by rw [← hk2]; exact he
  obtain ⟨R, hR⟩ : ∃ R, rgoodF l s = R := ⟨_, rfl⟩
  rw [hR]
  have HE := hide he
  have HR := hide hR
  clear he hk2 hR
  go_enter Tryz.func48, Tryz.ntmps48
  go_wp2_with (fail)
  simp only [HW1.out, HG.out]
  refine CC.out.mono ?_
  rintro e w2 ⟨rfl, hl⟩
  have L12 := hide hl
  have L2 := hide (L1.out.trans hl)
  have X2 := hide (X1.out.below hl)
  clear hl CC e0 e1
  have d1 := X2.out.c1
  obtain ⟨T, hT⟩ : ∃ T, IntKind.i64.wrap (s.step - 1) = T := ⟨_, rfl⟩
  have HT := hide hT
  have c3 := X2.out.c3
  go_wp2_with (refine wpList_val rfl (by rfl) (exec_load_hits _ (by rfl) (by rfl) X2.out) ?_)
  go_loopw [29, 6, 7, 8] (fun ti a b c wr => ∃ q : Nat, ti = .int .i64 (q : Int) ∧ q ≤ 8 ∧ a = .bool (aheadF T s.n s.hit q) ∧ b = .bool (behindF T s.hit q) ∧ c = .bool (anyF s.hit q) ∧ outF s.n s.hit q = false ∧ wr = w2) (fun ti _ _ _ _ => 8 - (Go.RowKit.intOf ti).toNat)
  case atStart => exact ⟨0, rfl, by omega, rfl, rfl, rfl, rfl, rfl⟩
  case round =>
    obtain ⟨q, rfl, hq, rfl, rfl, rfl, ho, hwr⟩ := hrel
    obtain rfl := hwr.symm
    have HO := hide ho
    obtain ⟨A0, hA⟩ : ∃ a, aheadF T s.n s.hit q = a := ⟨_, rfl⟩
    obtain ⟨B0, hB⟩ : ∃ a, behindF T s.hit q = a := ⟨_, rfl⟩
    obtain ⟨C0, hC⟩ : ∃ a, anyF s.hit q = a := ⟨_, rfl⟩
    rw [hA, hB, hC]
    have HA := hide hA
    have HB := hide hB
    have HC := hide hC
    clear hwr ho hA hB hC
    by_cases hq8 : q < 8
    · have hq8' : (q : Int) < 8 := by omega
      have EX0 : Hid (∀ (op : Oper) (a : Act) (W : World) (p z : Operand), op.op = .index 34 p z → a.eval p = s.hit.val → a.eval z = .int .i64 (q : Int) → (execOp a.eval op).run Tryz.prog W = .ok (.value (.bool (s.hit.get q))) W) := fun op a W p z e1 e2 e3 => exec_index_hits s.hit hq8 p z e1 e2 e3
      cases hg : s.hit.get q with
      | true =>
        have EX : Hid (∀ {op : Oper} {a : Act} {W : World} (p z : Operand), op.op = .index 34 p z → a.eval p = s.hit.val → a.eval z = .int .i64 (q : Int) → (execOp a.eval op).run Tryz.prog W = .ok (.value (.bool true)) W) := fun {op a W} p z e1 e2 e3 => by have := EX0.out op a W p z e1 e2 e3; rwa [hg] at this
        clear EX0
        by_cases hqn : q < s.n
        · have b1 : ¬ (s.n : Int) ≤ (q : Int) := by omega
          have b2 : (q : Int) < (s.n : Int) := by omega
          by_cases hqt : (q : Int) < T
          · have b3 : ¬ T < (q : Int) := by omega
            cases C0 with
            | true =>
              have HA2 : Hid (aheadF T s.n s.hit (q + 1) = A0) := by show _ = _; unfold aheadF; rw [HA.out, hg]; simp [hqn]
              have HB2 : Hid (behindF T s.hit (q + 1) = B0) := by show _ = _; unfold behindF; rw [HB.out, hg]; simp [b3]
              have HC2 : Hid (anyF s.hit (q + 1) = true) := by show _ = _; unfold anyF; rw [HC.out, hg]; rfl
              have HO2 : Hid (outF s.n s.hit (q + 1) = false) := by show _ = _; unfold outF; rw [HO.out, hg]; simp [hqn]
              have HQ := hide hq8
              clear hg HA HB HC HO hq
              go_wp2_with (refine wpList_val rfl (by rfl) (EX.out _ _ (by rfl) (by rfl) (by rfl)) ?_)
              go_roundw
              case rel => exact ⟨q + 1, by go_num, by have := HQ.out; omega, by rw [HA2.out], by rw [HB2.out], by rw [HC2.out], HO2.out, trivial⟩
              case measure => have := HQ.out; simp [Go.RowKit.intOf]; omega
            | false =>
              have HA2 : Hid (aheadF T s.n s.hit (q + 1) = A0) := by show _ = _; unfold aheadF; rw [HA.out, hg]; simp [hqn]
              have HB2 : Hid (behindF T s.hit (q + 1) = B0) := by show _ = _; unfold behindF; rw [HB.out, hg]; simp [b3]
              have HC2 : Hid (anyF s.hit (q + 1) = true) := by show _ = _; unfold anyF; rw [HC.out, hg]; rfl
              have HO2 : Hid (outF s.n s.hit (q + 1) = false) := by show _ = _; unfold outF; rw [HO.out, hg]; simp [hqn]
              have HQ := hide hq8
              clear hg HA HB HC HO hq
              go_wp2_with (refine wpList_val rfl (by rfl) (EX.out _ _ (by rfl) (by rfl) (by rfl)) ?_)
              go_roundw
              case rel => exact ⟨q + 1, by go_num, by have := HQ.out; omega, by rw [HA2.out], by rw [HB2.out], by rw [HC2.out], HO2.out, trivial⟩
              case measure => have := HQ.out; simp [Go.RowKit.intOf]; omega
          · by_cases htq : T < (q : Int)
            · have _b := htq
              cases C0 with
              | true =>
                have HA2 : Hid (aheadF T s.n s.hit (q + 1) = A0) := by show _ = _; unfold aheadF; rw [HA.out, hg]; simp [hqn, hqt]
                have HB2 : Hid (behindF T s.hit (q + 1) = true) := by show _ = _; unfold behindF; rw [HB.out, hg]; simp [htq]
                have HC2 : Hid (anyF s.hit (q + 1) = true) := by show _ = _; unfold anyF; rw [HC.out, hg]; rfl
                have HO2 : Hid (outF s.n s.hit (q + 1) = false) := by show _ = _; unfold outF; rw [HO.out, hg]; simp [hqn]
                have HQ := hide hq8
                clear hg HA HB HC HO hq
                go_wp2_with (refine wpList_val rfl (by rfl) (EX.out _ _ (by rfl) (by rfl) (by rfl)) ?_)
                go_roundw
                case rel => exact ⟨q + 1, by go_num, by have := HQ.out; omega, by rw [HA2.out], by rw [HB2.out], by rw [HC2.out], HO2.out, trivial⟩
                case measure => have := HQ.out; simp [Go.RowKit.intOf]; omega
              | false =>
                have HA2 : Hid (aheadF T s.n s.hit (q + 1) = A0) := by show _ = _; unfold aheadF; rw [HA.out, hg]; simp [hqn, hqt]
                have HB2 : Hid (behindF T s.hit (q + 1) = true) := by show _ = _; unfold behindF; rw [HB.out, hg]; simp [htq]
                have HC2 : Hid (anyF s.hit (q + 1) = true) := by show _ = _; unfold anyF; rw [HC.out, hg]; rfl
                have HO2 : Hid (outF s.n s.hit (q + 1) = false) := by show _ = _; unfold outF; rw [HO.out, hg]; simp [hqn]
                have HQ := hide hq8
                clear hg HA HB HC HO hq
                go_wp2_with (refine wpList_val rfl (by rfl) (EX.out _ _ (by rfl) (by rfl) (by rfl)) ?_)
                go_roundw
                case rel => exact ⟨q + 1, by go_num, by have := HQ.out; omega, by rw [HA2.out], by rw [HB2.out], by rw [HC2.out], HO2.out, trivial⟩
                case measure => have := HQ.out; simp [Go.RowKit.intOf]; omega
            · have _b := htq
              cases C0 with
              | true =>
                have HA2 : Hid (aheadF T s.n s.hit (q + 1) = A0) := by show _ = _; unfold aheadF; rw [HA.out, hg]; simp [hqn, hqt]
                have HB2 : Hid (behindF T s.hit (q + 1) = B0) := by show _ = _; unfold behindF; rw [HB.out, hg]; simp [htq]
                have HC2 : Hid (anyF s.hit (q + 1) = true) := by show _ = _; unfold anyF; rw [HC.out, hg]; rfl
                have HO2 : Hid (outF s.n s.hit (q + 1) = false) := by show _ = _; unfold outF; rw [HO.out, hg]; simp [hqn]
                have HQ := hide hq8
                clear hg HA HB HC HO hq
                go_wp2_with (refine wpList_val rfl (by rfl) (EX.out _ _ (by rfl) (by rfl) (by rfl)) ?_)
                go_roundw
                case rel => exact ⟨q + 1, by go_num, by have := HQ.out; omega, by rw [HA2.out], by rw [HB2.out], by rw [HC2.out], HO2.out, trivial⟩
                case measure => have := HQ.out; simp [Go.RowKit.intOf]; omega
              | false =>
                have HA2 : Hid (aheadF T s.n s.hit (q + 1) = A0) := by show _ = _; unfold aheadF; rw [HA.out, hg]; simp [hqn, hqt]
                have HB2 : Hid (behindF T s.hit (q + 1) = B0) := by show _ = _; unfold behindF; rw [HB.out, hg]; simp [htq]
                have HC2 : Hid (anyF s.hit (q + 1) = true) := by show _ = _; unfold anyF; rw [HC.out, hg]; rfl
                have HO2 : Hid (outF s.n s.hit (q + 1) = false) := by show _ = _; unfold outF; rw [HO.out, hg]; simp [hqn]
                have HQ := hide hq8
                clear hg HA HB HC HO hq
                go_wp2_with (refine wpList_val rfl (by rfl) (EX.out _ _ (by rfl) (by rfl) (by rfl)) ?_)
                go_roundw
                case rel => exact ⟨q + 1, by go_num, by have := HQ.out; omega, by rw [HA2.out], by rw [HB2.out], by rw [HC2.out], HO2.out, trivial⟩
                case measure => have := HQ.out; simp [Go.RowKit.intOf]; omega
        · have b1 : (s.n : Int) ≤ (q : Int) := by omega
          have hbad : outF s.n s.hit 8 = true := by
            cases ho8 : outF s.n s.hit 8 with
            | true => rfl
            | false =>
              have := out_iff.1 ho8 q hq8 (by omega)
              rw [hg] at this
              cases this
          have hR0 : R = false := by
            rw [← HR.out]
            unfold rgoodF
            rw [if_neg (fun h => h HE.out), ← HN.out, if_pos hbad]
          clear hbad hg HA HB HC HO hq
          subst hR0
          go_wp2_with (refine wpList_val rfl (by rfl) (EX.out _ _ (by rfl) (by rfl) (by rfl)) ?_)
          go_ret
          exact ⟨rfl, L2.out⟩
      | false =>
        have EX : Hid (∀ {op : Oper} {a : Act} {W : World} (p z : Operand), op.op = .index 34 p z → a.eval p = s.hit.val → a.eval z = .int .i64 (q : Int) → (execOp a.eval op).run Tryz.prog W = .ok (.value (.bool false)) W) := fun {op a W} p z e1 e2 e3 => by have := EX0.out op a W p z e1 e2 e3; rwa [hg] at this
        clear EX0
        by_cases hqt : (q : Int) < T
        · have b3 : ¬ T < (q : Int) := by omega
          by_cases hqn : q < s.n
          · have b2 : (q : Int) < (s.n : Int) := by omega
            cases C0 with
            | true =>
              have HA2 : Hid (aheadF T s.n s.hit (q + 1) = false) := by show _ = _; unfold aheadF; rw [HA.out, hg]; simp [hqn, hqt]
              have HB2 : Hid (behindF T s.hit (q + 1) = B0) := by show _ = _; unfold behindF; rw [HB.out, hg]; simp [b3]
              have HC2 : Hid (anyF s.hit (q + 1) = true) := by show _ = _; unfold anyF; rw [HC.out, hg]; rfl
              have HO2 : Hid (outF s.n s.hit (q + 1) = false) := by show _ = _; unfold outF; rw [HO.out, hg]; simp
              have HQ := hide hq8
              clear hg HA HB HC HO hq
              go_wp2_with (refine wpList_val rfl (by rfl) (EX.out _ _ (by rfl) (by rfl) (by rfl)) ?_)
              go_roundw
              case rel => exact ⟨q + 1, by go_num, by have := HQ.out; omega, by rw [HA2.out], by rw [HB2.out], by rw [HC2.out], HO2.out, trivial⟩
              case measure => have := HQ.out; simp [Go.RowKit.intOf]; omega
            | false =>
              have HA2 : Hid (aheadF T s.n s.hit (q + 1) = false) := by show _ = _; unfold aheadF; rw [HA.out, hg]; simp [hqn, hqt]
              have HB2 : Hid (behindF T s.hit (q + 1) = B0) := by show _ = _; unfold behindF; rw [HB.out, hg]; simp [b3]
              have HC2 : Hid (anyF s.hit (q + 1) = false) := by show _ = _; unfold anyF; rw [HC.out, hg]; rfl
              have HO2 : Hid (outF s.n s.hit (q + 1) = false) := by show _ = _; unfold outF; rw [HO.out, hg]; simp
              have HQ := hide hq8
              clear hg HA HB HC HO hq
              go_wp2_with (refine wpList_val rfl (by rfl) (EX.out _ _ (by rfl) (by rfl) (by rfl)) ?_)
              go_roundw
              case rel => exact ⟨q + 1, by go_num, by have := HQ.out; omega, by rw [HA2.out], by rw [HB2.out], by rw [HC2.out], HO2.out, trivial⟩
              case measure => have := HQ.out; simp [Go.RowKit.intOf]; omega
          · have b2 : ¬ (q : Int) < (s.n : Int) := by omega
            cases C0 with
            | true =>
              have HA2 : Hid (aheadF T s.n s.hit (q + 1) = A0) := by show _ = _; unfold aheadF; rw [HA.out, hg]; simp [hqn, hqt]
              have HB2 : Hid (behindF T s.hit (q + 1) = B0) := by show _ = _; unfold behindF; rw [HB.out, hg]; simp [b3]
              have HC2 : Hid (anyF s.hit (q + 1) = true) := by show _ = _; unfold anyF; rw [HC.out, hg]; rfl
              have HO2 : Hid (outF s.n s.hit (q + 1) = false) := by show _ = _; unfold outF; rw [HO.out, hg]; simp
              have HQ := hide hq8
              clear hg HA HB HC HO hq
              go_wp2_with (refine wpList_val rfl (by rfl) (EX.out _ _ (by rfl) (by rfl) (by rfl)) ?_)
              go_roundw
              case rel => exact ⟨q + 1, by go_num, by have := HQ.out; omega, by rw [HA2.out], by rw [HB2.out], by rw [HC2.out], HO2.out, trivial⟩
              case measure => have := HQ.out; simp [Go.RowKit.intOf]; omega
            | false =>
              have HA2 : Hid (aheadF T s.n s.hit (q + 1) = A0) := by show _ = _; unfold aheadF; rw [HA.out, hg]; simp [hqn, hqt]
              have HB2 : Hid (behindF T s.hit (q + 1) = B0) := by show _ = _; unfold behindF; rw [HB.out, hg]; simp [b3]
              have HC2 : Hid (anyF s.hit (q + 1) = false) := by show _ = _; unfold anyF; rw [HC.out, hg]; rfl
              have HO2 : Hid (outF s.n s.hit (q + 1) = false) := by show _ = _; unfold outF; rw [HO.out, hg]; simp
              have HQ := hide hq8
              clear hg HA HB HC HO hq
              go_wp2_with (refine wpList_val rfl (by rfl) (EX.out _ _ (by rfl) (by rfl) (by rfl)) ?_)
              go_roundw
              case rel => exact ⟨q + 1, by go_num, by have := HQ.out; omega, by rw [HA2.out], by rw [HB2.out], by rw [HC2.out], HO2.out, trivial⟩
              case measure => have := HQ.out; simp [Go.RowKit.intOf]; omega
        · by_cases htq : T < (q : Int)
          · have _b := htq
            cases C0 with
            | true =>
              have HA2 : Hid (aheadF T s.n s.hit (q + 1) = A0) := by show _ = _; unfold aheadF; rw [HA.out, hg]; simp [hqt]
              have HB2 : Hid (behindF T s.hit (q + 1) = B0) := by show _ = _; unfold behindF; rw [HB.out, hg]; simp [htq]
              have HC2 : Hid (anyF s.hit (q + 1) = true) := by show _ = _; unfold anyF; rw [HC.out, hg]; rfl
              have HO2 : Hid (outF s.n s.hit (q + 1) = false) := by show _ = _; unfold outF; rw [HO.out, hg]; simp
              have HQ := hide hq8
              clear hg HA HB HC HO hq
              go_wp2_with (refine wpList_val rfl (by rfl) (EX.out _ _ (by rfl) (by rfl) (by rfl)) ?_)
              go_roundw
              case rel => exact ⟨q + 1, by go_num, by have := HQ.out; omega, by rw [HA2.out], by rw [HB2.out], by rw [HC2.out], HO2.out, trivial⟩
              case measure => have := HQ.out; simp [Go.RowKit.intOf]; omega
            | false =>
              have HA2 : Hid (aheadF T s.n s.hit (q + 1) = A0) := by show _ = _; unfold aheadF; rw [HA.out, hg]; simp [hqt]
              have HB2 : Hid (behindF T s.hit (q + 1) = B0) := by show _ = _; unfold behindF; rw [HB.out, hg]; simp [htq]
              have HC2 : Hid (anyF s.hit (q + 1) = false) := by show _ = _; unfold anyF; rw [HC.out, hg]; rfl
              have HO2 : Hid (outF s.n s.hit (q + 1) = false) := by show _ = _; unfold outF; rw [HO.out, hg]; simp
              have HQ := hide hq8
              clear hg HA HB HC HO hq
              go_wp2_with (refine wpList_val rfl (by rfl) (EX.out _ _ (by rfl) (by rfl) (by rfl)) ?_)
              go_roundw
              case rel => exact ⟨q + 1, by go_num, by have := HQ.out; omega, by rw [HA2.out], by rw [HB2.out], by rw [HC2.out], HO2.out, trivial⟩
              case measure => have := HQ.out; simp [Go.RowKit.intOf]; omega
          · have _b := htq
            cases C0 with
            | true =>
              have HA2 : Hid (aheadF T s.n s.hit (q + 1) = A0) := by show _ = _; unfold aheadF; rw [HA.out, hg]; simp [hqt]
              have HB2 : Hid (behindF T s.hit (q + 1) = B0) := by show _ = _; unfold behindF; rw [HB.out, hg]; simp [htq]
              have HC2 : Hid (anyF s.hit (q + 1) = true) := by show _ = _; unfold anyF; rw [HC.out, hg]; rfl
              have HO2 : Hid (outF s.n s.hit (q + 1) = false) := by show _ = _; unfold outF; rw [HO.out, hg]; simp
              have HQ := hide hq8
              clear hg HA HB HC HO hq
              go_wp2_with (refine wpList_val rfl (by rfl) (EX.out _ _ (by rfl) (by rfl) (by rfl)) ?_)
              go_roundw
              case rel => exact ⟨q + 1, by go_num, by have := HQ.out; omega, by rw [HA2.out], by rw [HB2.out], by rw [HC2.out], HO2.out, trivial⟩
              case measure => have := HQ.out; simp [Go.RowKit.intOf]; omega
            | false =>
              have HA2 : Hid (aheadF T s.n s.hit (q + 1) = A0) := by show _ = _; unfold aheadF; rw [HA.out, hg]; simp [hqt]
              have HB2 : Hid (behindF T s.hit (q + 1) = B0) := by show _ = _; unfold behindF; rw [HB.out, hg]; simp [htq]
              have HC2 : Hid (anyF s.hit (q + 1) = false) := by show _ = _; unfold anyF; rw [HC.out, hg]; rfl
              have HO2 : Hid (outF s.n s.hit (q + 1) = false) := by show _ = _; unfold outF; rw [HO.out, hg]; simp
              have HQ := hide hq8
              clear hg HA HB HC HO hq
              go_wp2_with (refine wpList_val rfl (by rfl) (EX.out _ _ (by rfl) (by rfl) (by rfl)) ?_)
              go_roundw
              case rel => exact ⟨q + 1, by go_num, by have := HQ.out; omega, by rw [HA2.out], by rw [HB2.out], by rw [HC2.out], HO2.out, trivial⟩
              case measure => have := HQ.out; simp [Go.RowKit.intOf]; omega
    · obtain rfl : q = 8 := by omega
      have HT1 : Hid (1 ≤ s.step → T = s.step - 1) := fun g => by
        have h1 := HI.out
        unfold I64 at h1
        rw [← HT.out]
        exact IntWalk.i64_in _ (by omega)
      clear hq8 hq
      go_upto_region 17 with (fail)
      go_cut [11] (fun s11 wx => s11 = .bool (withinF s.n s) ∧ wx = w2)
      case first =>
        by_cases g1 : 1 ≤ s.step
        · have HW : Hid (withinF s.n s = (decide (s.step ≤ (s.n : Int)) && (A0 && !B0))) := by
            show _ = _
            unfold withinF
            rw [decide_eq_true g1, ← HT1.out g1, HA.out, HB.out, Bool.true_and]
          by_cases g2 : s.step ≤ (s.n : Int)
          · have HW2 : Hid (withinF s.n s = (A0 && !B0)) := by show _ = _; rw [HW.out, decide_eq_true g2, Bool.true_and]
            clear HA HB
            cases A0 with
            | true =>
              cases B0 with
              | true =>
                go_wp2_with (fail)
                go_meet
                exact ⟨by rw [HW2.out]; rfl, rfl⟩
              | false =>
                go_wp2_with (fail)
                go_meet
                exact ⟨by rw [HW2.out]; rfl, rfl⟩
            | false =>
              go_wp2_with (fail)
              go_meet
              exact ⟨by rw [HW2.out]; rfl, rfl⟩
          · have HW2 : Hid (withinF s.n s = false) := by show _ = _; rw [HW.out, decide_eq_false g2]; rfl
            go_wp2_with (fail)
            go_meet
            exact ⟨by rw [HW2.out], rfl⟩
        · have HW2 : Hid (withinF s.n s = false) := by show _ = _; unfold withinF; rw [decide_eq_false g1]; rfl
          go_wp2_with (fail)
          go_meet
          exact ⟨by rw [HW2.out], rfl⟩
      case rest =>
        obtain ⟨rfl, hwc⟩ := hcut
        obtain rfl := hwc.symm
        obtain ⟨Wn, hWn⟩ : ∃ a, withinF s.n s = a := ⟨_, rfl⟩
        rw [hWn]
        have HWN := hide hWn
        obtain ⟨TN, hTN⟩ : ∃ a, triesN l s.step = a := ⟨_, rfl⟩
        rw [hTN] at C
        have HTN := hide hTN
        clear hWn hwc hTN HA HB HT HT1 c3 d1
        have XD := hide (show SBox 39 g s w2.drew from X2.out)
        have LD := hide (L2.out.trans (Later.drew w2))
        have LD1 := hide (L12.out.trans (Later.drew w2))
        have LDD := hide (Later.drew w2)
        go_upto_region 18 with (fail)
        go_cut [12] (fun s12 wx => s12 = .bool (decide (1 ≤ s.tr) && decide (s.tr ≤ TN)) ∧ Later w2 wx)
        case first =>
          by_cases g1 : 1 ≤ s.tr
          · have HD1 := hide (decide_eq_true g1)
            refine wp_region_L (by kernel_rfl) ?_
            refine wpAnyL_take (i := 0) (d := some 82) (v := ?vaa0) rfl rfl (by kernel_rfl) (by kernel_rfl) (by kernel_rfl) (fun _ _ _ h => h) (by rfl) ?yaa0 ?_
            case yaa0 => (intro w' hw'; go_simp; try (with_reducible rfl))
            simp only [Act.put]; try simp only [sA_, sZ_, sS_]
            refine wpAnyL_take (i := 1) (d := some 83) (v := ?vaa1) rfl rfl (by kernel_rfl) (by kernel_rfl) (by kernel_rfl) (fun _ _ _ h => h) (by rfl) ?yaa1 ?_
            case yaa1 => (intro w' hw'; have c4 := (XD.out.below hw').c4; go_simp; try (with_reducible rfl))
            simp only [Act.put]; try simp only [sA_, sZ_, sS_]
            refine wpAnyL_take (i := 2) (d := some 84) (v := .bool true) rfl rfl (by kernel_rfl) (by kernel_rfl) (by kernel_rfl) (fun _ _ _ h => h) (by rfl) ?yaa2 ?_
            case yaa2 => (intro w' hw'; go_simp <;> omega)
            simp only [Act.put]; try simp only [sA_, sZ_, sS_]
            refine wpAnyL_take (i := 3) (d := some 85) (v := ?vaa3) rfl rfl (by kernel_rfl) (by kernel_rfl) (by kernel_rfl) (fun _ _ _ h => h) (by rfl) ?yaa3 ?_
            case yaa3 => (intro w' hw'; go_simp; try (with_reducible rfl))
            simp only [Act.put]; try simp only [sA_, sZ_, sS_]
            refine wpAnyL_take (i := 4) (d := some 86) (v := ?vaa4) rfl rfl (by kernel_rfl) (by kernel_rfl) (by kernel_rfl) (fun _ _ _ h => h) (by rfl) ?yaa4 ?_
            case yaa4 => (intro w' hw'; go_simp; try (with_reducible rfl))
            simp only [Act.put]; try simp only [sA_, sZ_, sS_]
            refine wpAnyL_take (i := 5) (d := some 87) (v := ?vaa5) rfl rfl (by kernel_rfl) (by kernel_rfl) (by kernel_rfl) (fun _ _ _ h => h) (by rfl) ?yaa5 ?_
            case yaa5 => (intro w' hw'; have c4 := (XD.out.below hw').c4; go_simp; try (with_reducible rfl))
            simp only [Act.put]; try simp only [sA_, sZ_, sS_]
            refine wpAnyL_take (i := 6) (d := some 88) (v := ?vaa6) rfl rfl (by kernel_rfl) (by kernel_rfl) (by kernel_rfl) (fun _ _ _ h => h) (by rfl) ?yaa6 ?_
            case yaa6 => (intro w' hw'; go_simp; try (with_reducible rfl))
            simp only [Act.put]; try simp only [sA_, sZ_, sS_]
            refine wpAnyL_take (i := 7) (d := some 89) (v := .agg #[.string s.name, .slice s.p s.n s.c]) rfl rfl (by kernel_rfl) (by kernel_rfl) (by kernel_rfl) (fun _ _ _ h => h) (by rfl) ?yaa7 ?_
            case yaa7 => (intro w' hw'; exact exec_load_sdef _ (by rfl) (by rfl) (XD.out.below hw'))
            simp only [Act.put]; try simp only [sA_, sZ_, sS_]
            refine wpAnyL_take (i := 8) (d := some 90) (v := ?vaa8) rfl rfl (by kernel_rfl) (by kernel_rfl) (by kernel_rfl) (fun _ _ _ h => h) (by rfl) ?yaa8 ?_
            case yaa8 => (intro w' hw'; go_simp; try (with_reducible rfl))
            simp only [Act.put]; try simp only [sA_, sZ_, sS_]
            refine wpAnyL_take (i := 9) (d := some 91) (v := ?vaa9) rfl rfl (by kernel_rfl) (by kernel_rfl) (by kernel_rfl) (fun _ _ _ h => h) (by rfl) ?yaa9 ?_
            case yaa9 => (intro w' hw'; have c3 := (XD.out.below hw').c3; go_simp; try (with_reducible rfl))
            simp only [Act.put]; try simp only [sA_, sZ_, sS_]
            refine wpAnyL_only (i := 10) rfl (by kernel_rfl) (by rfl) fun K hK => ?_
            go_simp
            refine (C.out _ LD1.out).mono ?_
            rintro e w_10 ⟨rfl, hl_⟩
            have L2x := hide (LDD.out.trans hl_)
            have X10 := hide (XD.out.below hl_)
            refine hK.out _ _ hl_ ?_
            clear hl_
            clear hK K
            try (simp only [Act.put]; try simp only [sA_, sZ_, sS_])
            refine wpAnyL_take (i := 11) (d := some 93) (v := ?vaa11) rfl rfl (by kernel_rfl) (by kernel_rfl) (by kernel_rfl) (fun _ _ _ h => h) (by rfl) ?yaa11 ?_
            case yaa11 => (intro w' hw'; go_simp; try (with_reducible rfl))
            simp only [Act.put]; try simp only [sA_, sZ_, sS_]
            refine wpAnyL_take (i := 12) (d := some 94) (v := ?vaa12) rfl rfl (by kernel_rfl) (by kernel_rfl) (by kernel_rfl) (fun _ _ _ h => h) (by rfl) ?yaa12 ?_
            case yaa12 => (intro w' hw'; go_simp; try (with_reducible rfl))
            simp only [Act.put]; try simp only [sA_, sZ_, sS_]
            refine wpAnyL_take (i := 13) (d := some 12) (v := ?vaa13) rfl rfl (by kernel_rfl) (by kernel_rfl) (by kernel_rfl) (fun _ _ _ h => h) (by rfl) ?yaa13 ?_
            case yaa13 => (intro w' hw'; go_simp; try (with_reducible rfl))
            simp only [Act.put]; try simp only [sA_, sZ_, sS_]
            refine wpAnyL_done (by kernel_rfl) ?_ _
            go_wp2_with (fail)
            go_meet
            exact ⟨by rw [HD1.out, Bool.true_and], L2x.out⟩
          · have HD1 := hide (decide_eq_false g1)
            refine wp_region_L (by kernel_rfl) ?_
            refine wpAnyL_take (i := 0) (d := some 82) (v := ?vab0) rfl rfl (by kernel_rfl) (by kernel_rfl) (by kernel_rfl) (fun _ _ _ h => h) (by rfl) ?yab0 ?_
            case yab0 => (intro w' hw'; go_simp; try (with_reducible rfl))
            simp only [Act.put]; try simp only [sA_, sZ_, sS_]
            refine wpAnyL_take (i := 1) (d := some 83) (v := ?vab1) rfl rfl (by kernel_rfl) (by kernel_rfl) (by kernel_rfl) (fun _ _ _ h => h) (by rfl) ?yab1 ?_
            case yab1 => (intro w' hw'; have c4 := (XD.out.below hw').c4; go_simp; try (with_reducible rfl))
            simp only [Act.put]; try simp only [sA_, sZ_, sS_]
            refine wpAnyL_take (i := 2) (d := some 84) (v := .bool false) rfl rfl (by kernel_rfl) (by kernel_rfl) (by kernel_rfl) (fun _ _ _ h => h) (by rfl) ?yab2 ?_
            case yab2 => (intro w' hw'; go_simp <;> omega)
            simp only [Act.put]; try simp only [sA_, sZ_, sS_]
            refine wpAnyL_take (i := 3) (d := some 85) (v := ?vab3) rfl rfl (by kernel_rfl) (by kernel_rfl) (by kernel_rfl) (fun _ _ _ h => h) (by rfl) ?yab3 ?_
            case yab3 => (intro w' hw'; go_simp; try (with_reducible rfl))
            simp only [Act.put]; try simp only [sA_, sZ_, sS_]
            refine wpAnyL_pass (i := 4) (d := some 86) rfl rfl (by kernel_rfl) (by kernel_rfl) (by kernel_rfl) (fun _ _ _ h => h) (by rfl) ?_
            try (simp only [Act.put]; try simp only [sA_, sZ_, sS_])
            refine wpAnyL_pass (i := 5) (d := some 87) rfl rfl (by kernel_rfl) (by kernel_rfl) (by kernel_rfl) (fun _ _ _ h => h) (by rfl) ?_
            try (simp only [Act.put]; try simp only [sA_, sZ_, sS_])
            refine wpAnyL_pass (i := 6) (d := some 88) rfl rfl (by kernel_rfl) (by kernel_rfl) (by kernel_rfl) (fun _ _ _ h => h) (by rfl) ?_
            try (simp only [Act.put]; try simp only [sA_, sZ_, sS_])
            refine wpAnyL_pass (i := 7) (d := some 89) rfl rfl (by kernel_rfl) (by kernel_rfl) (by kernel_rfl) (fun _ _ _ h => h) (by rfl) ?_
            try (simp only [Act.put]; try simp only [sA_, sZ_, sS_])
            refine wpAnyL_pass (i := 8) (d := some 90) rfl rfl (by kernel_rfl) (by kernel_rfl) (by kernel_rfl) (fun _ _ _ h => h) (by rfl) ?_
            try (simp only [Act.put]; try simp only [sA_, sZ_, sS_])
            refine wpAnyL_pass (i := 9) (d := some 91) rfl rfl (by kernel_rfl) (by kernel_rfl) (by kernel_rfl) (fun _ _ _ h => h) (by rfl) ?_
            try (simp only [Act.put]; try simp only [sA_, sZ_, sS_])
            refine wpAnyL_pass (i := 10) (d := some 92) rfl rfl (by kernel_rfl) (by kernel_rfl) (by kernel_rfl) (fun _ _ _ h => h) (by rfl) ?_
            try (simp only [Act.put]; try simp only [sA_, sZ_, sS_])
            refine wpAnyL_pass (i := 11) (d := some 93) rfl rfl (by kernel_rfl) (by kernel_rfl) (by kernel_rfl) (fun _ _ _ h => h) (by rfl) ?_
            try (simp only [Act.put]; try simp only [sA_, sZ_, sS_])
            refine wpAnyL_take (i := 12) (d := some 94) (v := ?vab12) rfl rfl (by kernel_rfl) (by kernel_rfl) (by kernel_rfl) (fun _ _ _ h => h) (by rfl) ?yab12 ?_
            case yab12 => (intro w' hw'; go_simp; try (with_reducible rfl))
            simp only [Act.put]; try simp only [sA_, sZ_, sS_]
            refine wpAnyL_take (i := 13) (d := some 12) (v := ?vab13) rfl rfl (by kernel_rfl) (by kernel_rfl) (by kernel_rfl) (fun _ _ _ h => h) (by rfl) ?yab13 ?_
            case yab13 => (intro w' hw'; go_simp; try (with_reducible rfl))
            simp only [Act.put]; try simp only [sA_, sZ_, sS_]
            refine wpAnyL_done (by kernel_rfl) ?_ _
            go_wp2_with (fail)
            go_meet
            exact ⟨by rw [HD1.out]; rfl, LDD.out⟩
        case rest =>
          obtain ⟨rfl, hlw⟩ := hcut
          obtain ⟨w5, rfl⟩ : ∃ w5, w5 = wc := ⟨wc, rfl⟩
          have L5 := hide (L2.out.trans hlw)
          have L15 := hide (L12.out.trans hlw)
          have X5 := hide (X2.out.below hlw)
          obtain ⟨Td, hTd⟩ : ∃ a, (decide (1 ≤ s.tr) && decide (s.tr ≤ TN)) = a := ⟨_, rfl⟩
          rw [hTd]
          have HTD := hide hTd
          have HR2 : Hid (R = (if s.st = 1 then Wn && Td else if s.st = 2 then Wn && (Td && (s.hit.get (s.step - 1).toNat && undoAt l s.step)) else if s.st = 5 then Wn && decide (s.tr = 0) else if s.st = 3 then decide (s.step = 0) && (decide (s.tr = 0) && allF s.hit s.n) else if s.st = 4 then decide (s.step = 0) && (decide (s.tr = 0) && !C0) else false)) := by
            show _ = _
            have ho := HO.out
            rw [← HR.out]
            unfold rgoodF
            rw [if_neg (fun h => h HE.out), ← HN.out, if_neg (by rw [ho]; simp), HTN.out, HTD.out, HWN.out, HC.out]
          have c2 := X5.out.c2
          have c3 := X5.out.c3
          have c4 := X5.out.c4
          clear hlw hTd LD LD1 LDD XD
          by_cases n1 : s.st = 1
          · have HV : Hid (R = (Wn && Td)) := by show _ = _; rw [HR2.out, if_pos n1]
            rw [n1] at c2
            clear HR2 HR n1
            cases Wn with
            | true =>
              go_wp2_with (fail)
              go_ret
              exact ⟨ret_bool (by rw [HV.out]; rfl), L5.out⟩
            | false =>
              go_wp2_with (fail)
              go_ret
              exact ⟨ret_bool (by rw [HV.out]; rfl), L5.out⟩
          · have b1 : (s.st == 1) = false := by rw [beq_eq_false_iff_ne]; exact n1
            by_cases n2 : s.st = 2
            · have HV : Hid (R = (Wn && (Td && (s.hit.get (s.step - 1).toNat && undoAt l s.step)))) := by show _ = _; rw [HR2.out, if_neg n1, if_pos n2]
              rw [n2] at c2
              clear HR2 HR n1 n2 b1
              cases Wn with
              | true =>
                cases Td with
                | true =>
                  have hin := HWN.out
                  unfold withinF at hin
                  simp only [Bool.and_eq_true, decide_eq_true_eq] at hin
                  obtain ⟨q, hq⟩ : ∃ q : Nat, s.step = (q : Int) + 1 := ⟨(s.step - 1).toNat, by omega⟩
                  have hql : q < l.length := by rw [← HN.out]; omega
                  have hq8 : q < 8 := by have := (check_good HE.out).1; omega
                  obtain ⟨x, b, off, c', hx, hvv, _, _, hb, hr⟩ := StepsAt.at_ (HS.out w5 L15.out) (i := q) hql
                  rw [← HN.out] at hvv
                  have hv1 : s.p = some ⟨b, off, none⟩ := by
                    unfold SagaD.v at hvv
                    injection hvv
                  obtain ⟨r0, r1, r2, r3, r4, r5⟩ := range_step hr
                  have hu : undoAt l s.step = x.undo := by unfold undoAt; rw [hq, show ((q : Int) + 1 - 1).toNat = q from by omega, hx]; rfl
                  have c1 := X5.out.c1
                  rw [hv1] at c1
                  rw [hq] at c3
                  have hh := X5.out.hitAt hq8
                  obtain ⟨hb0, hhb⟩ : ∃ a, s.hit.get q = a := ⟨_, rfl⟩
                  have HV2 : Hid (R = (hb0 && x.undo)) := by show _ = _; rw [HV.out, hu, hq, show ((q : Int) + 1 - 1).toNat = q from by omega, hhb]; rfl
                  rw [hhb] at hh
                  have hqn : q < s.n := by rw [HN.out]; exact hql
                  have hwr : IntKind.i64.wrap (q : Int) = (q : Int) := wrap_fits (by omega)
                  clear hin hx hvv hr r0 r1 r2 r3 r5 hu HV hv1 hhb hq hql hb
                  cases hb0 with
                  | true =>
                    go_wp2_with (fail)
                    go_ret
                    exact ⟨ret_bool (by rw [HV2.out]; rfl), L5.out⟩
                  | false =>
                    go_wp2_with (fail)
                    go_ret
                    exact ⟨ret_bool (by rw [HV2.out]; rfl), L5.out⟩
                | false =>
                  go_wp2_with (fail)
                  go_ret
                  exact ⟨ret_bool (by rw [HV.out]; rfl), L5.out⟩
              | false =>
                go_wp2_with (fail)
                go_ret
                exact ⟨ret_bool (by rw [HV.out]; rfl), L5.out⟩
            · have b2 : (s.st == 2) = false := by rw [beq_eq_false_iff_ne]; exact n2
              by_cases n5 : s.st = 5
              · have HV : Hid (R = (Wn && decide (s.tr = 0))) := by show _ = _; rw [HR2.out, if_neg n1, if_neg n2, if_pos n5]
                rw [n5] at c2 b1 b2
                clear HR2 HR n1 n2 n5
                cases Wn with
                | true =>
                  by_cases t0 : s.tr = 0
                  · have HV2 : Hid (R = true) := by show _ = _; rw [HV.out, decide_eq_true t0]; rfl
                    rw [t0] at c4
                    clear t0
                    go_wp2_with (fail)
                    go_ret
                    exact ⟨ret_bool (by rw [HV2.out]), L5.out⟩
                  · have HV2 : Hid (R = false) := by show _ = _; rw [HV.out, decide_eq_false t0]; rfl
                    have b4 : (s.tr == 0) = false := by rw [beq_eq_false_iff_ne]; exact t0
                    clear t0
                    go_wp2_with (fail)
                    go_ret
                    exact ⟨ret_bool (by rw [HV2.out]), L5.out⟩
                | false =>
                  go_wp2_with (fail)
                  go_ret
                  exact ⟨ret_bool (by rw [HV.out]; rfl), L5.out⟩
              · have b5 : (s.st == 5) = false := by rw [beq_eq_false_iff_ne]; exact n5
                by_cases n3 : s.st = 3
                · have HV : Hid (R = (decide (s.step = 0) && (decide (s.tr = 0) && allF s.hit s.n))) := by show _ = _; rw [HR2.out, if_neg n1, if_neg n2, if_neg n5, if_pos n3]
                  rw [n3] at c2 b1 b2 b5
                  have hn8 : s.n ≤ 8 := by rw [HN.out]; exact (check_good HE.out).1
                  clear HR2 HR n1 n2 n5 n3
                  go_wp2_with (fail)
                  go_loopw [14, 13] (fun ti a wr => ∃ q : Nat, ti = .int .i64 (q : Int) ∧ q ≤ s.n ∧ a = .bool (allF s.hit q) ∧ wr = w5) (fun ti _ _ => s.n - (Go.RowKit.intOf ti).toNat)
                  case atStart => exact ⟨0, rfl, by omega, rfl, rfl⟩
                  case round =>
                    obtain ⟨q, rfl, hq, rfl, hwr⟩ := hrel
                    obtain rfl := hwr.symm
                    obtain ⟨A1, hA1⟩ : ∃ a, allF s.hit q = a := ⟨_, rfl⟩
                    rw [hA1]
                    have HA1 := hide hA1
                    clear hwr hA1
                    by_cases hqn : q < s.n
                    · have hh := X5.out.hitAt (i := q) (by omega)
                      have HNX : Hid (allF s.hit (q + 1) = (A1 && s.hit.get q)) := by show _ = _; unfold allF; rw [HA1.out]
                      obtain ⟨hb0, hhb⟩ : ∃ a, s.hit.get q = a := ⟨_, rfl⟩
                      rw [hhb] at hh HNX
                      have hqn' : (q : Int) < (s.n : Int) := by omega
                      have hq8 : q < 8 := by omega
                      have HQN := hide hqn
                      clear hhb hqn hn8 hq
                      cases A1 with
                      | true =>
                        go_wp2_with (fail)
                        go_roundw
                        case rel => exact ⟨q + 1, by go_num, HQN.out, by rw [HNX.out]; rfl, trivial⟩
                        case measure => have := HQN.out; simp [Go.RowKit.intOf]; omega
                      | false =>
                        go_wp2_with (fail)
                        go_roundw
                        case rel => exact ⟨q + 1, by go_num, HQN.out, by rw [HNX.out]; rfl, trivial⟩
                        case measure => have := HQN.out; simp [Go.RowKit.intOf]; omega
                    · have hqn' : ¬ (q : Int) < (s.n : Int) := by omega
                      have hqe : q = s.n := by omega
                      rw [hqe] at HA1
                      clear hqe hqn hq hn8
                      by_cases s0 : s.step = 0
                      · by_cases t0 : s.tr = 0
                        · have HV2 : Hid (R = A1) := by show _ = _; rw [HV.out, decide_eq_true s0, decide_eq_true t0, HA1.out]; rfl
                          rw [s0] at c3
                          rw [t0] at c4
                          clear s0 t0
                          go_wp2_with (fail)
                          go_ret
                          exact ⟨ret_bool (by rw [HV2.out]), L5.out⟩
                        · have HV2 : Hid (R = false) := by show _ = _; rw [HV.out, decide_eq_false t0]; simp
                          have b4 : (s.tr == 0) = false := by rw [beq_eq_false_iff_ne]; exact t0
                          rw [s0] at c3
                          clear s0 t0
                          go_wp2_with (fail)
                          go_ret
                          exact ⟨ret_bool (by rw [HV2.out]), L5.out⟩
                      · have HV2 : Hid (R = false) := by show _ = _; rw [HV.out, decide_eq_false s0]; rfl
                        have b4 : (s.step == 0) = false := by rw [beq_eq_false_iff_ne]; exact s0
                        clear s0
                        go_wp2_with (fail)
                        go_ret
                        exact ⟨ret_bool (by rw [HV2.out]), L5.out⟩
                · have b3 : (s.st == 3) = false := by rw [beq_eq_false_iff_ne]; exact n3
                  by_cases n4 : s.st = 4
                  · have HV : Hid (R = (decide (s.step = 0) && (decide (s.tr = 0) && !C0))) := by show _ = _; rw [HR2.out, if_neg n1, if_neg n2, if_neg n5, if_neg n3, if_pos n4]
                    rw [n4] at c2 b1 b2 b5 b3
                    clear HR2 HR n1 n2 n5 n3 n4
                    by_cases s0 : s.step = 0
                    · by_cases t0 : s.tr = 0
                      · have HV2 : Hid (R = !C0) := by show _ = _; rw [HV.out, decide_eq_true s0, decide_eq_true t0]; rfl
                        rw [s0] at c3
                        rw [t0] at c4
                        clear s0 t0
                        go_wp2_with (fail)
                        go_ret
                        exact ⟨ret_bool (by rw [HV2.out]), L5.out⟩
                      · have HV2 : Hid (R = false) := by show _ = _; rw [HV.out, decide_eq_false t0]; simp
                        have b4 : (s.tr == 0) = false := by rw [beq_eq_false_iff_ne]; exact t0
                        rw [s0] at c3
                        clear s0 t0
                        go_wp2_with (fail)
                        go_ret
                        exact ⟨ret_bool (by rw [HV2.out]), L5.out⟩
                    · have HV2 : Hid (R = false) := by show _ = _; rw [HV.out, decide_eq_false s0]; rfl
                      have b4 : (s.step == 0) = false := by rw [beq_eq_false_iff_ne]; exact s0
                      clear s0
                      go_wp2_with (fail)
                      go_ret
                      exact ⟨ret_bool (by rw [HV2.out]), L5.out⟩
                  · have b4 : (s.st == 4) = false := by rw [beq_eq_false_iff_ne]; exact n4
                    have HV : Hid (R = false) := by show _ = _; rw [HR2.out, if_neg n1, if_neg n2, if_neg n5, if_neg n3, if_neg n4]
                    clear HR2 HR n1 n2 n5 n3 n4
                    go_wp2_with (fail)
                    go_ret
                    exact ⟨ret_bool (by rw [HV.out]), L5.out⟩
theorem rgood_any {F : Nat → Prop} {s : SagaD} {l : List StepD} (h : StepsAt F w s.v l) (hw : ∀ x ∈ l, x.wf) (h1 : I64 s.step) : Calls Tryz.prog 48 #[s.val] w (Gives (.bool (goodF l s)) w) := by
  rw [← good_same]
  by_cases he : (checkF s.name l).2 = 0
  · exact rgood_ok h hw h1 he
  · exact rgood_err h hw h1 he
end
end Go.Proofs.YtpckdhjnhnonhaaGreat
/- What a saga wants, by the document. -/
namespace Go.Proofs.YtpckdhjnhnonhaaGreat
open Go.RowKit
section
variable {w : World}
set_option maxHeartbeats 4000000 in
theorem rwants_no {F : Nat → Prop} {s : SagaD} {l : List StepD} (h : StepsAt F w s.v l) (hw : ∀ x ∈ l, x.wf) (h1 : I64 s.step) (hq : wantsB l s = false) : Calls Tryz.prog 91 #[s.val] w (Wanted l s w) := by
  obtain ⟨W1, hW1⟩ : ∃ W1, W1 = (w.alloc (.cells s.cells.toArray 39 (0, 0))).alloc (.cells #[.int .i64 0, .int .i64 0, .int .i64 0, .int .i64 0, .int .i64 0, .bool false] 62 (0, 0)) := ⟨_, rfl⟩
  obtain ⟨g, hg⟩ : ∃ g, g = w.heap.size := ⟨_, rfl⟩
  have X1 : Hid (SBox 39 g s W1) := by rw [hW1, hg]; exact (heap_alloc_old _ _ (by simp)).trans (heap_alloc_new _ _)
  have Y1 : Hid (CBox (g + 1) CmdD.zero W1) := by rw [hW1, hg]; exact heap_second _ _ _
  have L1 : Hid (Later w W1) := by rw [hW1]; exact ((Below.refl _ _).alloc (Nat.le_refl _) _).alloc (by simp) _
  have HG0 : Hid (w.heap.size ≤ g) := Nat.le_of_eq hg.symm
  have C : Hid (∀ W, Later W1 W → Calls Tryz.prog 48 #[s.val] W (Gives (.bool (goodF l s)) W)) := fun W hW => rgood_any (StepsAt.kept h (Kept.of_below (L1.out.trans hW) _)) hw h1
  have HR : Hid (Value.tuple #[(wantsC l s).val, .int .i64 (wantsW l s), .bool (wantsB l s)] = .tuple #[CmdD.zero.val, .int .i64 0, .bool false]) := by
    show _ = _
    unfold wantsC wantsW
    rw [hq]
    rfl
  have HB : Hid (goodF l s = false ∨ (s.st ≠ 1 ∧ s.st ≠ 2)) := by
    unfold wantsB at hq
    cases hg : goodF l s with
    | false => exact .inl rfl
    | true => rw [hg] at hq; exact .inr (by simpa using hq)
  obtain ⟨q, hq2⟩ : ∃ q, goodF l s = q := ⟨_, rfl⟩
  rw [hq2] at C HB
  have HW1 := hide hW1.symm
  have HG := hide hg.symm
  clear hW1 hg h hw h1 hq hq2
  have xe := X1.out
  rw [← HW1.out, ← HG.out] at xe
  have XE := hide xe
  clear xe
  go_enter Tryz.func91, Tryz.ntmps91
  go_wp2_with (refine wpList_rload_saga (by rfl) _ (by rfl) (by rfl) XE.out ?_; simp only [HW1.out, HG.out])
  refine (C.out _ (Later.refl _)).mono ?_
  rintro e w2 ⟨rfl, hl⟩
  have L12 := hide hl
  have L2 := hide (L1.out.trans hl)
  have X2 := hide (X1.out.below hl)
  have Y2 := hide (Y1.out.below hl)
  clear hl C
  cases q with
  | false =>
    go_wp2_with (refine wpList_store_cmd (c := CmdD.zero) (by rfl) _ _ (by rfl) (by rfl) Y2.out (by rfl) ?_; intro w3 Z3 G3)
    have HLF : Hid (Later w _) := L2.out.grown G3 (Below.size L2.out) (fun k hk => by have := Option.some.inj hk; have := HG0.out; omega)
    refine bodyPost_ret (results_box3 Tryz.results91 _ _ (g + 1) 62 _ _ (by rfl) Z3 Tryz.underlying62 (by rfl) (by kernel_rfl) (.int .i64 0) (by rfl) (.bool false) (by rfl)) (by rfl) ?_
    exact ⟨congrArg _ HR.out.symm, HLF.out⟩
  | true =>
    obtain ⟨n1, n2⟩ : s.st ≠ 1 ∧ s.st ≠ 2 := HB.out.resolve_left (by simp)
    have b1 : (s.st != 1) = true := by simpa using n1
    have b2 : (s.st != 2) = true := by simpa using n2
    have c2 := X2.out.c2
    clear n1 n2
    go_wp2_with (refine wpList_store_cmd (c := CmdD.zero) (by rfl) _ _ (by rfl) (by rfl) Y2.out (by rfl) ?_; intro w3 Z3 G3)
    have HLF : Hid (Later w _) := L2.out.grown G3 (Below.size L2.out) (fun k hk => by have := Option.some.inj hk; have := HG0.out; omega)
    refine bodyPost_ret (results_box3 Tryz.results91 _ _ (g + 1) 62 _ _ (by rfl) Z3 Tryz.underlying62 (by rfl) (by kernel_rfl) (.int .i64 0) (by rfl) (.bool false) (by rfl)) (by rfl) ?_
    exact ⟨congrArg _ HR.out.symm, HLF.out⟩
set_option maxHeartbeats 4000000 in
theorem rwants_yes {F : Nat → Prop} {s : SagaD} {l : List StepD} (st : Int) (h : StepsAt F w s.v l) (hw : ∀ x ∈ l, x.wf) (h1 : I64 s.step) (hq : wantsB l s = true) (hs : s.st = st) (hst : st = 1 ∨ st = 2) : Calls Tryz.prog 91 #[s.val] w (Wanted l s w) := by
  obtain ⟨W1, hW1⟩ : ∃ W1, W1 = (w.alloc (.cells s.cells.toArray 39 (0, 0))).alloc (.cells #[.int .i64 0, .int .i64 0, .int .i64 0, .int .i64 0, .int .i64 0, .bool false] 62 (0, 0)) := ⟨_, rfl⟩
  obtain ⟨g, hg⟩ : ∃ g, g = w.heap.size := ⟨_, rfl⟩
  have X1 : Hid (SBox 39 g s W1) := by rw [hW1, hg]; exact (heap_alloc_old _ _ (by simp)).trans (heap_alloc_new _ _)
  have Y1 : Hid (CBox (g + 1) CmdD.zero W1) := by rw [hW1, hg]; exact heap_second _ _ _
  have L1 : Hid (Later w W1) := by rw [hW1]; exact ((Below.refl _ _).alloc (Nat.le_refl _) _).alloc (by simp) _
  have HG0 : Hid (w.heap.size ≤ g) := Nat.le_of_eq hg.symm
  have C : Hid (∀ W, Later W1 W → Calls Tryz.prog 48 #[s.val] W (Gives (.bool (goodF l s)) W)) := fun W hW => rgood_any (StepsAt.kept h (Kept.of_below (L1.out.trans hW) _)) hw h1
  obtain ⟨he, p1, p2, p3, p4, p5, p6, p7⟩ := wants_parts hq
  rw [p7] at C
  obtain ⟨q, hqk⟩ : ∃ q : Nat, s.step = (q : Int) + 1 := ⟨(s.step - 1).toNat, by omega⟩
  have hql : q < l.length := by omega
  obtain ⟨x, b, off, c', hx, hvv, _, _, hb, hr⟩ := StepsAt.at_ h (i := q) hql
  have hn := steps_n h
  rw [← hn] at hvv
  have hv1 : s.p = some ⟨b, off, none⟩ := by
    unfold SagaD.v at hvv
    injection hvv
  have HV := hide hv1
  have HK := hide hqk
  have hqn : q < s.n := by omega
  have hq8 : q < 8 := by omega
  have HX : Hid (stepAt l s.step = x) := by show _ = _; unfold stepAt; rw [hqk, show ((q : Int) + 1 - 1).toNat = q from by omega, hx]; rfl
  have HR : Hid (Value.tuple #[(wantsC l s).val, .int .i64 (wantsW l s), .bool (wantsB l s)] = .tuple #[.agg #[.int .i64 0, .int .i64 x.stub, .int .i64 0, .int .i64 ((q : Int) + 1), .int .i64 s.tr, .bool (decide (st = 2))], .int .i64 x.wait, .bool true]) := by
    show _ = _
    unfold wantsC wantsW
    rw [hq, if_pos rfl, if_pos rfl, HX.out, hqk, hs]
    rfl
  have HRB : Hid (∀ W, Later W1 W → W.rangeAt b (off + q * 6) x.cells) := fun W hW j u hj => (Below.cell (L1.out.trans hW) (p := ⟨b, off + q * 6 + j, none⟩) hb).trans (hr j u hj)
  have HS := hide hs
  have HW1 := hide hW1.symm
  have HG := hide hg.symm
  clear hW1 hg h hw h1 hq he p1 p2 p3 p4 p5 p6 p7 hx hvv hr hb hql hqk hv1 hs hn
  have xe := X1.out
  rw [← HW1.out, ← HG.out] at xe
  have XE := hide xe
  clear xe
  go_enter Tryz.func91, Tryz.ntmps91
  go_wp2_with (refine wpList_rload_saga (by rfl) _ (by rfl) (by rfl) XE.out ?_; simp only [HW1.out, HG.out])
  refine (C.out _ (Later.refl _)).mono ?_
  rintro e w2 ⟨rfl, hl⟩
  have L12 := hide hl
  have L2 := hide (L1.out.trans hl)
  have X2 := hide (X1.out.below hl)
  have Y2 := hide (Y1.out.below hl)
  clear hl C
  have c1 := X2.out.c1
  have c2 := X2.out.c2
  have c3 := X2.out.c3
  have c4 := X2.out.c4
  rw [HV.out] at c1
  rw [HS.out] at c2
  rw [HK.out] at c3
  obtain ⟨r0, r1, r2, r3, r4, r5⟩ := range_step (HRB.out _ L12.out)
  have hwr : IntKind.i64.wrap ((q : Int) + 1 - 1) = (q : Int) := by rw [show (q : Int) + 1 - 1 = (q : Int) from by omega]; exact wrap_fits (by omega)
  obtain ⟨W5, hW5⟩ : ∃ W5, W5 = w2.alloc (.cells #[.string x.name, .int .i64 x.stub, .int .i64 x.retry, .int .i64 x.wait, .bool x.undo, .bool x.pivot] 67 (0, 0)) := ⟨_, rfl⟩
  obtain ⟨y, hy⟩ : ∃ y, y = w2.heap.size := ⟨_, rfl⟩
  have B5 : Hid (StepBox y x W5) := by rw [hW5, hy]; exact heap_alloc_new w2 _
  have L25 : Hid (Later w2 W5) := by rw [hW5]; exact (Below.refl _ _).alloc (Nat.le_refl _) _
  have HW5 := hide hW5.symm
  have HY := hide hy.symm
  clear hW5 hy
  rcases hst with rfl | rfl
  · go_wp2_with (fail)
    simp only [HW5.out, HY.out]
    have X5 := hide (X2.out.below L25.out)
    have Y5 := hide (Y2.out.below L25.out)
    have d2 := X5.out.c2
    have d3 := X5.out.c3
    have d4 := X5.out.c4
    rw [HS.out] at d2
    rw [HK.out] at d3
    obtain ⟨s0, s1, s2, s3, s4, s5, sf⟩ := B5.out.cells
    obtain ⟨k0, k1, k2, k3, k4, k5, kf⟩ := Y5.out.cells
    have L5 := hide (L2.out.trans L25.out)
    have hne1 : ¬ (g + 1 = y) := by have := Y2.out.lt; rw [HY.out] at this; omega
    have hne2 : ¬ (y = g + 1) := fun e => hne1 e.symm
    clear c1 c2 c3 c4 r0 r1 r2 r3 r4 r5
    go_region
    obtain ⟨h6, g6⟩ := cmd_wrote x.stub ((q : Int) + 1) s.tr false Y5.out
    have HLF0 := hide (Below.grown L5.out g6 (Below.size L5.out) (fun k hk => by have := Option.some.inj hk; have := HG0.out; omega))
    have Z6 := hide (h6.below (Later.drew _))
    have HLF := hide (Later.trans (b := ((((((W5.setCell ⟨g + 1, 0, none⟩ (.int .i64 0)).setCell ⟨g + 1, 1, none⟩ (.int .i64 x.stub)).setCell ⟨g + 1, 2, none⟩ (.int .i64 0)).setCell ⟨g + 1, 3, none⟩ (.int .i64 ((q : Int) + 1))).setCell ⟨g + 1, 4, none⟩ (.int .i64 s.tr)).setCell ⟨g + 1, 5, none⟩ (.bool false))) HLF0.out (Later.drew _))
    clear h6 g6
    go_wp2
    refine bodyPost_ret (results_box3 Tryz.results91 _ _ (g + 1) 62 _ _ (by rfl) Z6.out Tryz.underlying62 (by rfl) (by kernel_rfl) (.int .i64 x.wait) (by rfl) (.bool true) (by rfl)) (by rfl) ?_
    exact ⟨congrArg _ HR.out.symm, HLF.out⟩
  · go_wp2_with (fail)
    simp only [HW5.out, HY.out]
    have X5 := hide (X2.out.below L25.out)
    have Y5 := hide (Y2.out.below L25.out)
    have d2 := X5.out.c2
    have d3 := X5.out.c3
    have d4 := X5.out.c4
    rw [HS.out] at d2
    rw [HK.out] at d3
    obtain ⟨s0, s1, s2, s3, s4, s5, sf⟩ := B5.out.cells
    obtain ⟨k0, k1, k2, k3, k4, k5, kf⟩ := Y5.out.cells
    have L5 := hide (L2.out.trans L25.out)
    have hne1 : ¬ (g + 1 = y) := by have := Y2.out.lt; rw [HY.out] at this; omega
    have hne2 : ¬ (y = g + 1) := fun e => hne1 e.symm
    clear c1 c2 c3 c4 r0 r1 r2 r3 r4 r5
    go_region
    obtain ⟨h6, g6⟩ := cmd_wrote x.stub ((q : Int) + 1) s.tr true Y5.out
    have HLF0 := hide (Below.grown L5.out g6 (Below.size L5.out) (fun k hk => by have := Option.some.inj hk; have := HG0.out; omega))
    have Z6 := hide (h6.below (Later.drew _))
    have HLF := hide (Later.trans (b := ((((((W5.setCell ⟨g + 1, 0, none⟩ (.int .i64 0)).setCell ⟨g + 1, 1, none⟩ (.int .i64 x.stub)).setCell ⟨g + 1, 2, none⟩ (.int .i64 0)).setCell ⟨g + 1, 3, none⟩ (.int .i64 ((q : Int) + 1))).setCell ⟨g + 1, 4, none⟩ (.int .i64 s.tr)).setCell ⟨g + 1, 5, none⟩ (.bool true))) HLF0.out (Later.drew _))
    clear h6 g6
    go_wp2
    refine bodyPost_ret (results_box3 Tryz.results91 _ _ (g + 1) 62 _ _ (by rfl) Z6.out Tryz.underlying62 (by rfl) (by kernel_rfl) (.int .i64 x.wait) (by rfl) (.bool true) (by rfl)) (by rfl) ?_
    exact ⟨congrArg _ HR.out.symm, HLF.out⟩
theorem rwants_any {F : Nat → Prop} {s : SagaD} {l : List StepD} (h : StepsAt F w s.v l) (hw : ∀ x ∈ l, x.wf) (h1 : I64 s.step) : Calls Tryz.prog 91 #[s.val] w (Wanted l s w) := by
  cases hq : wantsB l s with
  | false => exact rwants_no h hw h1 hq
  | true => exact rwants_yes s.st h hw h1 hq rfl (wants_parts hq).2.2.2.2.2.2.1
end
end Go.Proofs.YtpckdhjnhnonhaaGreat
/- The document's saga behind an event. -/
namespace Go.Proofs.YtpckdhjnhnonhaaGreat
open Go.RowKit
section
variable {w : World} {T : TypeId} {g : Nat} {s : SagaD}
theorem SBox.st_ (h : SBox T g s w) (v : Int) : SBox T g ⟨s.name, s.p, s.n, s.c, v, s.step, s.tr, s.hit⟩ (w.setCell ⟨g, 2, none⟩ (.int .i64 v)) := heap_setCell_same w g 2 _ _ _ h
theorem SBox.step_ (h : SBox T g s w) (v : Int) : SBox T g ⟨s.name, s.p, s.n, s.c, s.st, v, s.tr, s.hit⟩ (w.setCell ⟨g, 3, none⟩ (.int .i64 v)) := heap_setCell_same w g 3 _ _ _ h
theorem SBox.tr_ (h : SBox T g s w) (v : Int) : SBox T g ⟨s.name, s.p, s.n, s.c, s.st, s.step, v, s.hit⟩ (w.setCell ⟨g, 4, none⟩ (.int .i64 v)) := heap_setCell_same w g 4 _ _ _ h
theorem SBox.setOther {w : World} {T : TypeId} {g : Nat} {s : SagaD} (h : SBox T g s w) {a : Addr} (v : Value) (hne : g ≠ a.block) : SBox T g s (w.setCell a v) := (heap_setCell_other _ _ _ _ hne).trans h
end
section
variable {w : World}
set_option maxHeartbeats 8000000 in
set_option maxRecDepth 100000 in
theorem rdownS_any {F : Nat → Prop} {s : SagaD} {l : List StepD} (h : StepsAt F w s.v l) (hl : l.length ≤ 1000) (h1 : I64 s.step) : Calls Tryz.prog 71 #[s.val, .int .i64 s.step] w (Gives (downS l s).val w) := by
  obtain ⟨W1, hW1⟩ : ∃ W1, W1 = (w.alloc (.cells s.cells.toArray 39 (0, 0))).alloc (.cells #[.string ⟨#[]⟩, .slice none 0 0, .int .i64 0, .int .i64 0, .int .i64 0, .bool false, .bool false, .bool false, .bool false, .bool false, .bool false, .bool false, .bool false] 39 (0, 0)) := ⟨_, rfl⟩
  obtain ⟨g, hg⟩ : ∃ g, g = w.heap.size := ⟨_, rfl⟩
  have X1 : Hid (SBox 39 g s W1) := by rw [hW1, hg]; exact (heap_alloc_old _ _ (by simp)).trans (heap_alloc_new _ _)
  have Y1 : Hid (SBox 39 (g + 1) SagaD.zero W1) := by rw [hW1, hg]; exact heap_second _ _ _
  have L1 : Hid (Later w W1) := by rw [hW1]; exact ((Below.refl _ _).alloc (Nat.le_refl _) _).alloc (by simp) _
  have HG0 : Hid (w.heap.size ≤ g) := Nat.le_of_eq hg.symm
  have C : Hid (∀ W, Later W1 W → Calls Tryz.prog 92 #[.agg #[.string s.name, .slice s.p s.n s.c], .slice (some ⟨g, 5, none⟩) 8 8, .int .i64 s.step] W fun e w' => e = .returned (.int .i64 ((downF l s.hit.l s.step : Nat) : Int)) ∧ Later W w') := fun W hW => by
    have ha : Later w W1 := L1.out
    have hb : Later w W := Later.trans ha hW
    exact rDown_any (StepsAt.kept h (Kept.of_below hb _)) hl (X1.out.below hW).bools h1
  obtain ⟨K, hK⟩ : ∃ K, downF l s.hit.l s.step = K := ⟨_, rfl⟩
  obtain ⟨R, hR⟩ : ∃ R, downS l s = R := ⟨_, rfl⟩
  have HD : Hid (R = if K = 0 then s.ended 4 0 else s.at_ 2 (K : Int)) := by show _ = _; rw [← hR, ← hK]; rfl
  rw [hK] at C
  rw [hR]
  have HW1 := hide hW1.symm
  have HG := hide hg.symm
  clear hW1 hg h hl hK h1 hR
  go_enter Tryz.func71, Tryz.ntmps71
  go_wp2_with (fail)
  simp only [HW1.out, HG.out]
  refine wp_region_L (by kernel_rfl) ?_
  refine wpAnyL_take (i := 0) (d := some 6) (v := ?vaa0) rfl rfl (by kernel_rfl) (by kernel_rfl) (by kernel_rfl) (fun _ _ _ h => h) (by rfl) ?yaa0 ?_
  case yaa0 => (intro w' hw'; go_simp; try (with_reducible rfl))
  simp only [Act.put]; try simp only [sA_, sZ_, sS_]
  refine wpAnyL_take (i := 1) (d := some 7) (v := .agg #[.string s.name, .slice s.p s.n s.c]) rfl rfl (by kernel_rfl) (by kernel_rfl) (by kernel_rfl) (fun _ _ _ h => h) (by rfl) ?yaa1 ?_
  case yaa1 => (intro w' hw'; exact exec_load_box 31 _ (by rfl) g 0 (by rfl) _ _ (show SBox 39 g s w' from ((X1.out.below (Later.drew _)).below hw')) 2 _ Tryz.underlying31 (by rfl) (by kernel_rfl) [.string s.name, .slice s.p s.n s.c] (by rfl) (by rfl))
  simp only [Act.put]; try simp only [sA_, sZ_, sS_]
  refine wpAnyL_take (i := 2) (d := some 8) (v := ?vaa2) rfl rfl (by kernel_rfl) (by kernel_rfl) (by kernel_rfl) (fun _ _ _ h => h) (by rfl) ?yaa2 ?_
  case yaa2 => (intro w' hw'; go_simp; try (with_reducible rfl))
  simp only [Act.put]; try simp only [sA_, sZ_, sS_]
  refine wpAnyL_take (i := 3) (d := some 9) (v := .slice (some ⟨g, 5, none⟩) 8 8) rfl rfl (by kernel_rfl) (by kernel_rfl) (by kernel_rfl) (fun _ _ _ h => h) (by rfl) ?yaa3 ?_
  case yaa3 => (intro w' hw'; go_simp; try (with_reducible rfl))
  simp only [Act.put]; try simp only [sA_, sZ_, sS_]
  refine wpAnyL_take (i := 4) (d := some 10) (v := ?vaa4) rfl rfl (by kernel_rfl) (by kernel_rfl) (by kernel_rfl) (fun _ _ _ h => h) (by rfl) ?yaa4 ?_
  case yaa4 => (intro w' hw'; go_simp; try (with_reducible rfl))
  simp only [Act.put]; try simp only [sA_, sZ_, sS_]
  refine wpAnyL_only (i := 5) rfl (by kernel_rfl) (by rfl) fun K hK => ?_
  go_simp
  refine (C.out _ (Later.drew _)).mono ?_
  rintro e w_4 ⟨rfl, hl_⟩
  have hd1 : Later W1 W1.drew := Later.drew _
  have hd2 : Later W1 w_4 := Later.trans hd1 hl_
  have L14 : Hid (Later W1 w_4) := hd2
  have hd0 : Later w W1 := L1.out
  have L4 : Hid (Later w w_4) := Later.trans hd0 hd2
  refine hK.out _ _ hl_ ?_
  clear hl_ hd1 hd2 hd0
  clear hK K
  try (simp only [Act.put]; try simp only [sA_, sZ_, sS_])
  refine wpAnyL_take (i := 6) (d := some 5) (v := ?vaa6) rfl rfl (by kernel_rfl) (by kernel_rfl) (by kernel_rfl) (fun _ _ _ h => h) (by rfl) ?yaa6 ?_
  case yaa6 => (intro w' hw'; go_simp; try (with_reducible rfl))
  simp only [Act.put]; try simp only [sA_, sZ_, sS_]
  refine wpAnyL_done (by kernel_rfl) ?_ _
  have X4 := hide (X1.out.below L14.out)
  have Y4 := hide (Y1.out.below L14.out)
  have c2 := X4.out.c2
  have c3 := X4.out.c3
  have c4 := X4.out.c4
  have f2 := X4.out.thaw 2
  have f3 := X4.out.thaw 3
  have f4 := X4.out.thaw 4
  by_cases hk : K = 0
  · subst hk
    have hd := HD.out
    rw [if_pos rfl] at hd
    subst hd
    have XF : Hid (SBox 39 g (s.ended 4 0) (((w_4.setCell ⟨g, 2, none⟩ (.int .i64 4)).setCell ⟨g, 3, none⟩ (.int .i64 0)).setCell ⟨g, 4, none⟩ (.int .i64 0))) := ((X4.out.st_ 4).step_ 0).tr_ 0
    have YF : Hid (SBox 39 (g + 1) SagaD.zero (((w_4.setCell ⟨g, 2, none⟩ (.int .i64 4)).setCell ⟨g, 3, none⟩ (.int .i64 0)).setCell ⟨g, 4, none⟩ (.int .i64 0))) := ((Y4.out.setOther _ (by simp)).setOther _ (by simp)).setOther _ (by simp)
    have LF : Hid (Later w (((w_4.setCell ⟨g, 2, none⟩ (.int .i64 4)).setCell ⟨g, 3, none⟩ (.int .i64 0)).setCell ⟨g, 4, none⟩ (.int .i64 0))) := ((L4.out.setCell (p := ⟨g, 2, none⟩) HG0.out _).setCell (p := ⟨g, 3, none⟩) HG0.out _).setCell (p := ⟨g, 4, none⟩) HG0.out _
    go_upto_region 4 with (fail)
    go_wp2_with (first | (refine wpList_rload_saga (by rfl) _ (by rfl) (by rfl) XF.out ?_) | (refine wpList_rstore_saga (by rfl) _ _ (by rfl) (by rfl) YF.out (by rfl) ?_; intro w5 Z5 G5))
    have HLF : Hid (Later w _) := Below.grown LF.out G5 (Below.size LF.out) (fun k hk => by have b1 := Option.some.inj hk; have b2 := HG0.out; omega)
    refine bodyPost_ret (results_cell_row Tryz.results71 _ _ (g + 1) 39 _ (0, 0) _ (by rfl) Z5 Tryz.underlying39 (by rfl) (by kernel_rfl)) (by rfl) ?_
    exact ⟨rfl, HLF.out⟩
  · have hd := HD.out
    rw [if_neg hk] at hd
    subst hd
    have e0 : ((K : Int) == 0) = false := by simp; omega
    have XF : Hid (SBox 39 g (s.at_ 2 (K : Int)) (((w_4.setCell ⟨g, 2, none⟩ (.int .i64 2)).setCell ⟨g, 3, none⟩ (.int .i64 (K : Int))).setCell ⟨g, 4, none⟩ (.int .i64 1))) := ((X4.out.st_ 2).step_ (K : Int)).tr_ 1
    have YF : Hid (SBox 39 (g + 1) SagaD.zero (((w_4.setCell ⟨g, 2, none⟩ (.int .i64 2)).setCell ⟨g, 3, none⟩ (.int .i64 (K : Int))).setCell ⟨g, 4, none⟩ (.int .i64 1))) := ((Y4.out.setOther _ (by simp)).setOther _ (by simp)).setOther _ (by simp)
    have LF : Hid (Later w (((w_4.setCell ⟨g, 2, none⟩ (.int .i64 2)).setCell ⟨g, 3, none⟩ (.int .i64 (K : Int))).setCell ⟨g, 4, none⟩ (.int .i64 1))) := ((L4.out.setCell (p := ⟨g, 2, none⟩) HG0.out _).setCell (p := ⟨g, 3, none⟩) HG0.out _).setCell (p := ⟨g, 4, none⟩) HG0.out _
    clear hk
    go_upto_region 6 with (fail)
    go_wp2_with (first | (refine wpList_rload_saga (by rfl) _ (by rfl) (by rfl) XF.out ?_) | (refine wpList_rstore_saga (by rfl) _ _ (by rfl) (by rfl) YF.out (by rfl) ?_; intro w5 Z5 G5))
    have HLF : Hid (Later w _) := Below.grown LF.out G5 (Below.size LF.out) (fun k hk => by have b1 := Option.some.inj hk; have b2 := HG0.out; omega)
    refine bodyPost_ret (results_cell_row Tryz.results71 _ _ (g + 1) 39 _ (0, 0) _ (by rfl) Z5 Tryz.underlying39 (by rfl) (by kernel_rfl)) (by rfl) ?_
    exact ⟨rfl, HLF.out⟩
set_option maxHeartbeats 8000000 in
set_option maxRecDepth 100000 in
theorem rfailsS_any {F : Nat → Prop} {s : SagaD} {l : List StepD} (h : StepsAt F w s.v l) (hl : l.length ≤ 1000) (h1 : I64 s.step) : Calls Tryz.prog 68 #[s.val] w (Gives (failsS l s).val w) := by
  obtain ⟨W1, hW1⟩ : ∃ W1, W1 = (w.alloc (.cells s.cells.toArray 39 (0, 0))).alloc (.cells #[.string ⟨#[]⟩, .slice none 0 0, .int .i64 0, .int .i64 0, .int .i64 0, .bool false, .bool false, .bool false, .bool false, .bool false, .bool false, .bool false, .bool false] 39 (0, 0)) := ⟨_, rfl⟩
  obtain ⟨g, hg⟩ : ∃ g, g = w.heap.size := ⟨_, rfl⟩
  have X1 : Hid (SBox 39 g s W1) := by rw [hW1, hg]; exact (heap_alloc_old _ _ (by simp)).trans (heap_alloc_new _ _)
  have Y1 : Hid (SBox 39 (g + 1) SagaD.zero W1) := by rw [hW1, hg]; exact heap_second _ _ _
  have L1 : Hid (Later w W1) := by rw [hW1]; exact ((Below.refl _ _).alloc (Nat.le_refl _) _).alloc (by simp) _
  have HG0 : Hid (w.heap.size ≤ g) := Nat.le_of_eq hg.symm
  have C : Hid (∀ W, Later W1 W → Calls Tryz.prog 67 #[.agg #[.string s.name, .slice s.p s.n s.c], .slice (some ⟨g, 5, none⟩) 8 8] W fun e w' => e = .returned (.bool (sealedF l s.hit.l)) ∧ Later W w') := fun W hW => by
    have ha : Later w W1 := L1.out
    have hb : Later w W := Later.trans ha hW
    exact rsealed_any (StepsAt.kept h (Kept.of_below hb _)) hl (X1.out.below hW).bools
  have CD : Hid (∀ W, Later W1 W → Calls Tryz.prog 71 #[s.val, .int .i64 s.step] W (Gives (downS l s).val W)) := fun W hW => by
    have ha : Later w W1 := L1.out
    have hb : Later w W := Later.trans ha hW
    exact rdownS_any (StepsAt.kept h (Kept.of_below hb _)) hl h1
  obtain ⟨q, hq⟩ : ∃ q, sealedF l s.hit.l = q := ⟨_, rfl⟩
  obtain ⟨D, hD⟩ : ∃ D, downS l s = D := ⟨_, rfl⟩
  obtain ⟨R, hR⟩ : ∃ R, failsS l s = R := ⟨_, rfl⟩
  have HD : Hid (R = if q then s.ended 5 s.step else D) := by show _ = _; rw [← hR, ← hq, ← hD]; rfl
  rw [hq] at C
  rw [hD] at CD
  rw [hR]
  have HW1 := hide hW1.symm
  have HG := hide hg.symm
  clear hW1 hg h hl hq hD h1 hR
  go_enter Tryz.func68, Tryz.ntmps68
  go_wp2_with (fail)
  simp only [HW1.out, HG.out]
  refine wp_region_L (by kernel_rfl) ?_
  refine wpAnyL_take (i := 0) (d := some 3) (v := ?vaa0) rfl rfl (by kernel_rfl) (by kernel_rfl) (by kernel_rfl) (fun _ _ _ h => h) (by rfl) ?yaa0 ?_
  case yaa0 => (intro w' hw'; go_simp; try (with_reducible rfl))
  simp only [Act.put]; try simp only [sA_, sZ_, sS_]
  refine wpAnyL_take (i := 1) (d := some 4) (v := .agg #[.string s.name, .slice s.p s.n s.c]) rfl rfl (by kernel_rfl) (by kernel_rfl) (by kernel_rfl) (fun _ _ _ h => h) (by rfl) ?yaa1 ?_
  case yaa1 => (intro w' hw'; exact exec_load_box 31 _ (by rfl) g 0 (by rfl) _ _ (show SBox 39 g s w' from ((X1.out.below (Later.drew _)).below hw')) 2 _ Tryz.underlying31 (by rfl) (by kernel_rfl) [.string s.name, .slice s.p s.n s.c] (by rfl) (by rfl))
  simp only [Act.put]; try simp only [sA_, sZ_, sS_]
  refine wpAnyL_take (i := 2) (d := some 5) (v := ?vaa2) rfl rfl (by kernel_rfl) (by kernel_rfl) (by kernel_rfl) (fun _ _ _ h => h) (by rfl) ?yaa2 ?_
  case yaa2 => (intro w' hw'; go_simp; try (with_reducible rfl))
  simp only [Act.put]; try simp only [sA_, sZ_, sS_]
  refine wpAnyL_take (i := 3) (d := some 6) (v := .slice (some ⟨g, 5, none⟩) 8 8) rfl rfl (by kernel_rfl) (by kernel_rfl) (by kernel_rfl) (fun _ _ _ h => h) (by rfl) ?yaa3 ?_
  case yaa3 => (intro w' hw'; go_simp; try (with_reducible rfl))
  simp only [Act.put]; try simp only [sA_, sZ_, sS_]
  refine wpAnyL_only (i := 4) rfl (by kernel_rfl) (by rfl) fun K hK => ?_
  go_simp
  refine (C.out _ (Later.drew _)).mono ?_
  rintro e w_4 ⟨rfl, hl_⟩
  have hd1 : Later W1 W1.drew := Later.drew _
  have hd2 : Later W1 w_4 := Later.trans hd1 hl_
  have L14 : Hid (Later W1 w_4) := hd2
  have hd0 : Later w W1 := L1.out
  have L4 : Hid (Later w w_4) := Later.trans hd0 hd2
  refine hK.out _ _ hl_ ?_
  clear hl_ hd1 hd2 hd0
  clear hK K
  try (simp only [Act.put]; try simp only [sA_, sZ_, sS_])
  refine wpAnyL_done (by kernel_rfl) ?_ _
  have X4 := hide (X1.out.below L14.out)
  have Y4 := hide (Y1.out.below L14.out)
  have c2 := X4.out.c2
  have c3 := X4.out.c3
  have c4 := X4.out.c4
  have f2 := X4.out.thaw 2
  have f4 := X4.out.thaw 4
  cases q with
  | true =>
    have hd := HD.out
    rw [if_pos rfl] at hd
    subst hd
    have XF : Hid (SBox 39 g (s.ended 5 s.step) ((w_4.setCell ⟨g, 2, none⟩ (.int .i64 5)).setCell ⟨g, 4, none⟩ (.int .i64 0))) := (X4.out.st_ 5).tr_ 0
    have YF : Hid (SBox 39 (g + 1) SagaD.zero ((w_4.setCell ⟨g, 2, none⟩ (.int .i64 5)).setCell ⟨g, 4, none⟩ (.int .i64 0))) := (Y4.out.setOther _ (by simp)).setOther _ (by simp)
    have LF : Hid (Later w ((w_4.setCell ⟨g, 2, none⟩ (.int .i64 5)).setCell ⟨g, 4, none⟩ (.int .i64 0))) := (L4.out.setCell (p := ⟨g, 2, none⟩) HG0.out _).setCell (p := ⟨g, 4, none⟩) HG0.out _
    go_wp2_with (first | (refine wpList_rload_saga (by rfl) _ (by rfl) (by rfl) XF.out ?_) | (refine wpList_rstore_saga (by rfl) _ _ (by rfl) (by rfl) YF.out (by rfl) ?_; intro w5 Z5 G5))
    have HLF : Hid (Later w _) := Below.grown LF.out G5 (Below.size LF.out) (fun k hk => by have b1 := Option.some.inj hk; have b2 := HG0.out; omega)
    refine bodyPost_ret (results_cell_row Tryz.results68 _ _ (g + 1) 39 _ (0, 0) _ (by rfl) Z5 Tryz.underlying39 (by rfl) (by kernel_rfl)) (by rfl) ?_
    exact ⟨rfl, HLF.out⟩
  | false =>
    have hd := HD.out
    rw [if_neg (by simp)] at hd
    subst hd
    go_wp2_with (refine wpList_rload_saga (by rfl) _ (by rfl) (by rfl) X4.out ?_)
    refine (CD.out _ L14.out).mono ?_
    rintro e w6 ⟨rfl, hl6⟩
    have La : Later w w_4 := L4.out
    have LF : Hid (Later w w6) := Later.trans La hl6
    have YF := hide (Y4.out.below hl6)
    clear hl6 La
    go_wp2_with (refine wpList_rstore_saga (by rfl) _ _ (by rfl) (by rfl) YF.out (by rfl) ?_; intro w5 Z5 G5)
    have HLF : Hid (Later w _) := Below.grown LF.out G5 (Below.size LF.out) (fun k hk => by have b1 := Option.some.inj hk; have b2 := HG0.out; omega)
    refine bodyPost_ret (results_cell_row Tryz.results68 _ _ (g + 1) 39 _ (0, 0) _ (by rfl) Z5 Tryz.underlying39 (by rfl) (by kernel_rfl)) (by rfl) ?_
    exact ⟨rfl, HLF.out⟩
set_option maxHeartbeats 8000000 in
set_option maxRecDepth 100000 in
theorem rmissed_any {F : Nat → Prop} {s : SagaD} {l : List StepD} (h : StepsAt F w s.v l) (hl : l.length ≤ 1000) (hw : ∀ x ∈ l, x.wf) (h1 : I64 s.step) (h2 : 0 ≤ s.tr) (h3 : s.tr ≤ 900) : Calls Tryz.prog 70 #[s.val] w (Gives (missedS l s).val w) := by
  obtain ⟨W1, hW1⟩ : ∃ W1, W1 = (w.alloc (.cells s.cells.toArray 39 (0, 0))).alloc (.cells #[.string ⟨#[]⟩, .slice none 0 0, .int .i64 0, .int .i64 0, .int .i64 0, .bool false, .bool false, .bool false, .bool false, .bool false, .bool false, .bool false, .bool false] 39 (0, 0)) := ⟨_, rfl⟩
  obtain ⟨g, hg⟩ : ∃ g, g = w.heap.size := ⟨_, rfl⟩
  have X1 : Hid (SBox 39 g s W1) := by rw [hW1, hg]; exact (heap_alloc_old _ _ (by simp)).trans (heap_alloc_new _ _)
  have Y1 : Hid (SBox 39 (g + 1) SagaD.zero W1) := by rw [hW1, hg]; exact heap_second _ _ _
  have L1 : Hid (Later w W1) := by rw [hW1]; exact ((Below.refl _ _).alloc (Nat.le_refl _) _).alloc (by simp) _
  have HG0 : Hid (w.heap.size ≤ g) := Nat.le_of_eq hg.symm
  have C : Hid (∀ W, Later W1 W → Calls Tryz.prog 81 #[.agg #[.string s.name, .slice s.p s.n s.c], .int .i64 s.step] W fun e w' => e = .returned (.int .i64 (triesN l s.step)) ∧ Later W w') := fun W hW => by
    have ha : Later w W1 := L1.out
    have hb : Later w W := Later.trans ha hW
    exact rTries_any (StepsAt.kept h (Kept.of_below hb _)) h1 hw
  have CD : Hid (∀ W, Later W1 W → Calls Tryz.prog 68 #[s.val] W (Gives (failsS l s).val W)) := fun W hW => by
    have ha : Later w W1 := L1.out
    have hb : Later w W := Later.trans ha hW
    exact rfailsS_any (StepsAt.kept h (Kept.of_below hb _)) hl h1
  obtain ⟨K, hK⟩ : ∃ K, triesN l s.step = K := ⟨_, rfl⟩
  obtain ⟨D, hD⟩ : ∃ D, failsS l s = D := ⟨_, rfl⟩
  obtain ⟨R, hR⟩ : ∃ R, missedS l s = R := ⟨_, rfl⟩
  have HD : Hid (R = if s.tr < K then ⟨s.name, s.p, s.n, s.c, s.st, s.step, s.tr + 1, s.hit⟩ else if s.st = 2 then s.ended 5 s.step else D) := by show _ = _; rw [← hR, ← hK, ← hD]; rfl
  rw [hK] at C
  rw [hD] at CD
  rw [hR]
  have HW1 := hide hW1.symm
  have HG := hide hg.symm
  clear hW1 hg h hl hw hK hD h1 hR
  go_enter Tryz.func70, Tryz.ntmps70
  go_wp2_with (fail)
  simp only [HW1.out, HG.out]
  refine wp_region_L (by kernel_rfl) ?_
  refine wpAnyL_take (i := 0) (d := some 3) (v := ?vaa0) rfl rfl (by kernel_rfl) (by kernel_rfl) (by kernel_rfl) (fun _ _ _ h => h) (by rfl) ?yaa0 ?_
  case yaa0 => (intro w' hw'; go_simp; try (with_reducible rfl))
  simp only [Act.put]; try simp only [sA_, sZ_, sS_]
  refine wpAnyL_take (i := 1) (d := some 4) (v := ?vaa1) rfl rfl (by kernel_rfl) (by kernel_rfl) (by kernel_rfl) (fun _ _ _ h => h) (by rfl) ?yaa1 ?_
  case yaa1 => (intro w' hw'; have k4 := SBox.c4 ((X1.out.below (Later.drew _)).below hw'); go_simp; try (with_reducible rfl))
  simp only [Act.put]; try simp only [sA_, sZ_, sS_]
  refine wpAnyL_take (i := 2) (d := some 5) (v := ?vaa2) rfl rfl (by kernel_rfl) (by kernel_rfl) (by kernel_rfl) (fun _ _ _ h => h) (by rfl) ?yaa2 ?_
  case yaa2 => (intro w' hw'; go_simp; try (with_reducible rfl))
  simp only [Act.put]; try simp only [sA_, sZ_, sS_]
  refine wpAnyL_take (i := 3) (d := some 6) (v := .agg #[.string s.name, .slice s.p s.n s.c]) rfl rfl (by kernel_rfl) (by kernel_rfl) (by kernel_rfl) (fun _ _ _ h => h) (by rfl) ?yaa3 ?_
  case yaa3 => (intro w' hw'; exact exec_load_box 31 _ (by rfl) g 0 (by rfl) _ _ (show SBox 39 g s w' from ((X1.out.below (Later.drew _)).below hw')) 2 _ Tryz.underlying31 (by rfl) (by kernel_rfl) [.string s.name, .slice s.p s.n s.c] (by rfl) (by rfl))
  simp only [Act.put]; try simp only [sA_, sZ_, sS_]
  refine wpAnyL_take (i := 4) (d := some 7) (v := ?vaa4) rfl rfl (by kernel_rfl) (by kernel_rfl) (by kernel_rfl) (fun _ _ _ h => h) (by rfl) ?yaa4 ?_
  case yaa4 => (intro w' hw'; go_simp; try (with_reducible rfl))
  simp only [Act.put]; try simp only [sA_, sZ_, sS_]
  refine wpAnyL_take (i := 5) (d := some 8) (v := ?vaa5) rfl rfl (by kernel_rfl) (by kernel_rfl) (by kernel_rfl) (fun _ _ _ h => h) (by rfl) ?yaa5 ?_
  case yaa5 => (intro w' hw'; have k3 := SBox.c3 ((X1.out.below (Later.drew _)).below hw'); go_simp; try (with_reducible rfl))
  simp only [Act.put]; try simp only [sA_, sZ_, sS_]
  refine wpAnyL_only (i := 6) rfl (by kernel_rfl) (by rfl) fun K hK => ?_
  go_simp
  refine (C.out _ (Later.drew _)).mono ?_
  rintro e w_4 ⟨rfl, hl_⟩
  have hd1 : Later W1 W1.drew := Later.drew _
  have hd2 : Later W1 w_4 := Later.trans hd1 hl_
  have L14 : Hid (Later W1 w_4) := hd2
  have hd0 : Later w W1 := L1.out
  have L4 : Hid (Later w w_4) := Later.trans hd0 hd2
  refine hK.out _ _ hl_ ?_
  clear hl_ hd1 hd2 hd0
  clear hK K
  try (simp only [Act.put]; try simp only [sA_, sZ_, sS_])
  refine wpAnyL_take (i := 7) (d := some 10) (v := ?vaa7) rfl rfl (by kernel_rfl) (by kernel_rfl) (by kernel_rfl) (fun _ _ _ h => h) (by rfl) ?yaa7 ?_
  case yaa7 => (intro w' hw'; go_simp; try (with_reducible rfl))
  simp only [Act.put]; try simp only [sA_, sZ_, sS_]
  refine wpAnyL_done (by kernel_rfl) ?_ _
  have X4 := hide (X1.out.below L14.out)
  have Y4 := hide (Y1.out.below L14.out)
  have c2 := X4.out.c2
  have c3 := X4.out.c3
  have c4 := X4.out.c4
  have f2 := X4.out.thaw 2
  have f4 := X4.out.thaw 4
  by_cases hk : s.tr < K
  · have hd := HD.out
    rw [if_pos hk] at hd
    subst hd
    have dk : decide (s.tr < K) = true := by simpa using hk
    have XF : Hid (SBox 39 g ⟨s.name, s.p, s.n, s.c, s.st, s.step, s.tr + 1, s.hit⟩ (w_4.setCell ⟨g, 4, none⟩ (.int .i64 (s.tr + 1)))) := X4.out.tr_ (s.tr + 1)
    have YF : Hid (SBox 39 (g + 1) SagaD.zero (w_4.setCell ⟨g, 4, none⟩ (.int .i64 (s.tr + 1)))) := Y4.out.setOther _ (by simp)
    have LF : Hid (Later w (w_4.setCell ⟨g, 4, none⟩ (.int .i64 (s.tr + 1)))) := L4.out.setCell (p := ⟨g, 4, none⟩) HG0.out _
    go_wp2_with (first | (refine wpList_rload_saga (by rfl) _ (by rfl) (by rfl) XF.out ?_) | (refine wpList_rstore_saga (by rfl) _ _ (by rfl) (by rfl) YF.out (by rfl) ?_; intro w5 Z5 G5))
    have HLF : Hid (Later w _) := Below.grown LF.out G5 (Below.size LF.out) (fun k hk => by have b1 := Option.some.inj hk; have b2 := HG0.out; omega)
    refine bodyPost_ret (results_cell_row Tryz.results70 _ _ (g + 1) 39 _ (0, 0) _ (by rfl) Z5 Tryz.underlying39 (by rfl) (by kernel_rfl)) (by rfl) ?_
    exact ⟨rfl, HLF.out⟩
  · have hd := HD.out
    rw [if_neg hk] at hd
    have dk : decide (s.tr < K) = false := by simpa using hk
    by_cases h2s : s.st = 2
    · rw [if_pos h2s] at hd
      subst hd
      have XF : Hid (SBox 39 g (s.ended 5 s.step) ((w_4.setCell ⟨g, 2, none⟩ (.int .i64 5)).setCell ⟨g, 4, none⟩ (.int .i64 0))) := (X4.out.st_ 5).tr_ 0
      have YF : Hid (SBox 39 (g + 1) SagaD.zero ((w_4.setCell ⟨g, 2, none⟩ (.int .i64 5)).setCell ⟨g, 4, none⟩ (.int .i64 0))) := (Y4.out.setOther _ (by simp)).setOther _ (by simp)
      have LF : Hid (Later w ((w_4.setCell ⟨g, 2, none⟩ (.int .i64 5)).setCell ⟨g, 4, none⟩ (.int .i64 0))) := (L4.out.setCell (p := ⟨g, 2, none⟩) HG0.out _).setCell (p := ⟨g, 4, none⟩) HG0.out _
      rw [h2s] at c2
      clear h2s
      go_wp2_with (first | (refine wpList_rload_saga (by rfl) _ (by rfl) (by rfl) XF.out ?_) | (refine wpList_rstore_saga (by rfl) _ _ (by rfl) (by rfl) YF.out (by rfl) ?_; intro w5 Z5 G5))
      have HLF : Hid (Later w _) := Below.grown LF.out G5 (Below.size LF.out) (fun k hk => by have b1 := Option.some.inj hk; have b2 := HG0.out; omega)
      refine bodyPost_ret (results_cell_row Tryz.results70 _ _ (g + 1) 39 _ (0, 0) _ (by rfl) Z5 Tryz.underlying39 (by rfl) (by kernel_rfl)) (by rfl) ?_
      exact ⟨rfl, HLF.out⟩
    · rw [if_neg h2s] at hd
      subst hd
      have e2 : (s.st == 2) = false := by simpa using h2s
      obtain ⟨u2, hu2⟩ : ∃ u, s.st = u := ⟨_, rfl⟩
      rw [hu2] at c2 e2
      clear h2s hu2
      go_wp2_with (refine wpList_rload_saga (by rfl) _ (by rfl) (by rfl) X4.out ?_)
      refine (CD.out _ L14.out).mono ?_
      rintro e w6 ⟨rfl, hl6⟩
      have La : Later w w_4 := L4.out
      have LF : Hid (Later w w6) := Later.trans La hl6
      have YF := hide (Y4.out.below hl6)
      clear hl6 La
      go_wp2_with (refine wpList_rstore_saga (by rfl) _ _ (by rfl) (by rfl) YF.out (by rfl) ?_; intro w5 Z5 G5)
      have HLF : Hid (Later w _) := Below.grown LF.out G5 (Below.size LF.out) (fun k hk => by have b1 := Option.some.inj hk; have b2 := HG0.out; omega)
      refine bodyPost_ret (results_cell_row Tryz.results70 _ _ (g + 1) 39 _ (0, 0) _ (by rfl) Z5 Tryz.underlying39 (by rfl) (by kernel_rfl)) (by rfl) ?_
      exact ⟨rfl, HLF.out⟩
end
end Go.Proofs.YtpckdhjnhnonhaaGreat
/- The document's saga: what is told of it. -/
namespace Go.Proofs.YtpckdhjnhnonhaaGreat
open Go.RowKit
section
variable {w : World}
theorem wants_st2 {l : List StepD} {s : SagaD} (h : wantsB l s = true) : s.st = 1 ∨ s.st = 2 := by
  unfold wantsB at h
  simp only [Bool.and_eq_true, Bool.or_eq_true, decide_eq_true_eq] at h
  exact h.2
theorem hitN_cells (s : SagaD) (b : Bool) {k : Nat} (hk : k < 8) (hs : s.step = (k : Int) + 1) : s.cells.toArray.setIfInBounds (5 + k) (.bool b) = (s.hitN b).cells.toArray := by
  have e : (s.step - 1).toNat = k := by omega
  unfold SagaD.hitN
  rw [e]
  match k, hk with
  | 0, _ => rfl
  | 1, _ => rfl
  | 2, _ => rfl
  | 3, _ => rfl
  | 4, _ => rfl
  | 5, _ => rfl
  | 6, _ => rfl
  | 7, _ => rfl
theorem SBox.hit_ {w : World} {T : TypeId} {g : Nat} {s : SagaD} (h : SBox T g s w) (b : Bool) {k : Nat} (hk : k < 8) (hs : s.step = (k : Int) + 1) : SBox T g (s.hitN b) (w.setCell ⟨g, 5 + k, none⟩ (.bool b)) := by
  have h1 := heap_setCell_same w g (5 + k) _ _ (.bool b) h
  rw [hitN_cells s b hk hs] at h1
  exact h1
theorem SBox.hitCell {w : World} {T : TypeId} {g : Nat} {s : SagaD} (h : SBox T g s w) {k : Nat} (hk : k < 8) : ∃ b, w.cell? ⟨g, 5 + k, none⟩ = some (.bool b) := by
  obtain ⟨h0, h1, h2, h3, h4, h5, h6, h7⟩ := h.hit
  match k, hk with
  | 0, _ => exact ⟨_, h0⟩
  | 1, _ => exact ⟨_, h1⟩
  | 2, _ => exact ⟨_, h2⟩
  | 3, _ => exact ⟨_, h3⟩
  | 4, _ => exact ⟨_, h4⟩
  | 5, _ => exact ⟨_, h5⟩
  | 6, _ => exact ⟨_, h6⟩
  | 7, _ => exact ⟨_, h7⟩
set_option maxHeartbeats 8000000 in
set_option maxRecDepth 100000 in
theorem rasked_any {F : Nat → Prop} {s : SagaD} {l : List StepD} {step tr : Int} {back : Bool} (h : StepsAt F w s.v l) (hw : ∀ x ∈ l, x.wf) (h1 : I64 s.step) : Calls Tryz.prog 69 #[s.val, .int .i64 step, .int .i64 tr, .bool back] w (Gives (.bool (isIt l s step tr back)) w) := by
  obtain ⟨W1, hW1⟩ : ∃ W1, W1 = w.alloc (.cells s.cells.toArray 39 (0, 0)) := ⟨_, rfl⟩
  obtain ⟨g, hg⟩ : ∃ g, g = w.heap.size := ⟨_, rfl⟩
  have X1 : Hid (SBox 39 g s W1) := by rw [hW1, hg]; exact heap_alloc_new _ _
  have L1 : Hid (Later w W1) := by rw [hW1]; exact (Below.refl _ _).alloc (Nat.le_refl _) _
  have C := hide (rwants_any (StepsAt.kept h (Kept.of_below L1.out _)) hw h1)
  obtain ⟨cmd, hcmd⟩ : ∃ c, wantsC l s = c := ⟨_, rfl⟩
  obtain ⟨wt, hwt⟩ : ∃ c, wantsW l s = c := ⟨_, rfl⟩
  unfold Wanted at C
  rw [hcmd, hwt] at C
  have xe := X1.out
  rw [hW1, hg] at xe
  have XE := hide xe
  cases hq : wantsB l s with
  | false =>
    have hi : isIt l s step tr back = false := by unfold isIt; rw [hq]; rfl
    rw [hi]
    rw [hq] at C
    obtain ⟨c1, c2, c3, c4⟩ := cmd
    unfold CmdD.val CmdD.cells at C
    have HW1 := hide hW1.symm
    have HG := hide hg.symm
    clear hW1 hg h hw h1 hq hi xe hcmd hwt
    go_enter Tryz.func69, Tryz.ntmps69
    go_wp2_with (refine wpList_rload_saga (by rfl) _ (by rfl) (by rfl) XE.out ?_; simp only [HW1.out, HG.out])
    refine C.out.mono ?_
    rintro e w2 ⟨rfl, hl⟩
    have La : Later w W1 := L1.out
    have L2 : Hid (Later w w2) := Later.trans La hl
    clear hl La C
    go_wp2
    go_ret
    exact ⟨rfl, L2.out.alloc (Below.size L2.out) _⟩
  | true =>
    obtain ⟨e1, e2, e3⟩ := wants_fields hq
    rw [hcmd] at e1 e2 e3
    obtain ⟨c1, c2, c3, c4⟩ := cmd
    simp only at e1 e2 e3
    subst e1 e2
    have hi : isIt l s step tr back = ((s.step == step) && ((s.tr == tr) && (c4 == back))) := by
      unfold isIt
      rw [hq, e3]
      rfl
    rw [hi]
    rw [hq] at C
    unfold CmdD.val CmdD.cells at C
    have HW1 := hide hW1.symm
    have HG := hide hg.symm
    obtain ⟨q1, hq1⟩ : ∃ q, (s.step == step) = q := ⟨_, rfl⟩
    obtain ⟨q2, hq2⟩ : ∃ q, (s.tr == tr) = q := ⟨_, rfl⟩
    rw [hq1, hq2]
    have HQ1 := hide hq1
    have HQ2 := hide hq2
    clear hW1 hg h hw h1 hq hi xe hcmd hwt e3 hq1 hq2
    go_enter Tryz.func69, Tryz.ntmps69
    go_wp2_with (refine wpList_rload_saga (by rfl) _ (by rfl) (by rfl) XE.out ?_; simp only [HW1.out, HG.out])
    refine C.out.mono ?_
    rintro e w2 ⟨rfl, hl⟩
    have La : Later w W1 := L1.out
    have L2 : Hid (Later w w2) := Later.trans La hl
    have t1 := HQ1.out
    have t2 := HQ2.out
    generalize s.step = u1 at t1 ⊢
    generalize s.tr = u2 at t2 ⊢
    clear hl La C
    cases q1 with
    | false =>
      go_wp2
      go_ret
      exact ⟨rfl, L2.out.alloc (Below.size L2.out) _⟩
    | true =>
      cases q2 with
      | false =>
        go_wp2
        go_ret
        exact ⟨rfl, L2.out.alloc (Below.size L2.out) _⟩
      | true =>
        cases c4 <;> cases back
        all_goals
          go_wp2
          go_ret
          exact ⟨rfl, L2.out.alloc (Below.size L2.out) _⟩
set_option maxHeartbeats 8000000 in
set_option maxRecDepth 100000 in
theorem rreport_not {F : Nat → Prop} {s : SagaD} {l : List StepD} {step tr : Int} {back good : Bool} (h : StepsAt F w s.v l) (hw : ∀ x ∈ l, x.wf) (h1 : I64 s.step) (hi : isIt l s step tr back = false) : Calls Tryz.prog 37 #[s.val, .int .i64 step, .int .i64 tr, .bool back, .bool good] w (Gives (.tuple #[s.val, .bool false]) w) := by
  obtain ⟨W1, hW1⟩ : ∃ W1, W1 = (w.alloc (.cells s.cells.toArray 39 (0, 0))).alloc (.cells #[.string ⟨#[]⟩, .slice none 0 0, .int .i64 0, .int .i64 0, .int .i64 0, .bool false, .bool false, .bool false, .bool false, .bool false, .bool false, .bool false, .bool false] 39 (0, 0)) := ⟨_, rfl⟩
  obtain ⟨g, hg⟩ : ∃ g, g = w.heap.size := ⟨_, rfl⟩
  have X1 : Hid (SBox 39 g s W1) := by rw [hW1, hg]; exact (heap_alloc_old _ _ (by simp)).trans (heap_alloc_new _ _)
  have Y1 : Hid (SBox 39 (g + 1) SagaD.zero W1) := by rw [hW1, hg]; exact heap_second _ _ _
  have L1 : Hid (Later w W1) := by rw [hW1]; exact ((Below.refl _ _).alloc (Nat.le_refl _) _).alloc (by simp) _
  have HG0 : Hid (w.heap.size ≤ g) := Nat.le_of_eq hg.symm
  have CA : Hid (Calls Tryz.prog 69 #[s.val, .int .i64 step, .int .i64 tr, .bool back] W1 (Gives (.bool (isIt l s step tr back)) W1)) := rasked_any (StepsAt.kept h (Kept.of_below L1.out _)) hw h1
  rw [hi] at CA
  have xe := X1.out
  rw [hW1, hg] at xe
  have XE := hide xe
  have HW1 := hide hW1.symm
  have HG := hide hg.symm
  clear hW1 hg xe h hw h1 hi
  go_enter Tryz.func37, Tryz.ntmps37
  go_wp2_with (refine wpList_rload_saga (by rfl) _ (by rfl) (by rfl) XE.out ?_; simp only [HW1.out, HG.out])
  refine CA.out.mono ?_
  rintro e w2 ⟨rfl, hl⟩
  have La : Later w W1 := L1.out
  have L12 : Hid (Later W1 w2) := hl
  have L2 : Hid (Later w w2) := Later.trans La hl
  have X2 := hide (X1.out.below hl)
  have Y2 := hide (Y1.out.below hl)
  clear hl La CA
  go_wp2_with (first | (refine wpList_rload_saga (by rfl) _ (by rfl) (by rfl) X2.out ?_) | (refine wpList_rstore_saga (by rfl) _ _ (by rfl) (by rfl) Y2.out (by rfl) ?_; intro w5 Z5 G5))
  have HLF : Hid (Later w _) := Below.grown L2.out G5 (Below.size L2.out) (fun k hk => by have b1 := Option.some.inj hk; have b2 := HG0.out; omega)
  refine bodyPost_ret (results_box2 Tryz.results37 _ _ (g + 1) 39 _ _ (by rfl) Z5 Tryz.underlying39 (by rfl) (by kernel_rfl) (.bool false) (by rfl)) (by rfl) ?_
  exact ⟨rfl, HLF.out⟩
set_option maxHeartbeats 8000000 in
set_option maxRecDepth 100000 in
theorem rlapse_not {F : Nat → Prop} {s : SagaD} {l : List StepD} {step tr : Int} {back : Bool} (h : StepsAt F w s.v l) (hw : ∀ x ∈ l, x.wf) (h1 : I64 s.step) (hi : isIt l s step tr back = false) : Calls Tryz.prog 38 #[s.val, .int .i64 step, .int .i64 tr, .bool back] w (Gives (.tuple #[s.val, .bool false]) w) := by
  obtain ⟨W1, hW1⟩ : ∃ W1, W1 = (w.alloc (.cells s.cells.toArray 39 (0, 0))).alloc (.cells #[.string ⟨#[]⟩, .slice none 0 0, .int .i64 0, .int .i64 0, .int .i64 0, .bool false, .bool false, .bool false, .bool false, .bool false, .bool false, .bool false, .bool false] 39 (0, 0)) := ⟨_, rfl⟩
  obtain ⟨g, hg⟩ : ∃ g, g = w.heap.size := ⟨_, rfl⟩
  have X1 : Hid (SBox 39 g s W1) := by rw [hW1, hg]; exact (heap_alloc_old _ _ (by simp)).trans (heap_alloc_new _ _)
  have Y1 : Hid (SBox 39 (g + 1) SagaD.zero W1) := by rw [hW1, hg]; exact heap_second _ _ _
  have L1 : Hid (Later w W1) := by rw [hW1]; exact ((Below.refl _ _).alloc (Nat.le_refl _) _).alloc (by simp) _
  have HG0 : Hid (w.heap.size ≤ g) := Nat.le_of_eq hg.symm
  have CA : Hid (Calls Tryz.prog 69 #[s.val, .int .i64 step, .int .i64 tr, .bool back] W1 (Gives (.bool (isIt l s step tr back)) W1)) := rasked_any (StepsAt.kept h (Kept.of_below L1.out _)) hw h1
  rw [hi] at CA
  have xe := X1.out
  rw [hW1, hg] at xe
  have XE := hide xe
  have HW1 := hide hW1.symm
  have HG := hide hg.symm
  clear hW1 hg xe h hw h1 hi
  go_enter Tryz.func38, Tryz.ntmps38
  go_wp2_with (refine wpList_rload_saga (by rfl) _ (by rfl) (by rfl) XE.out ?_; simp only [HW1.out, HG.out])
  refine CA.out.mono ?_
  rintro e w2 ⟨rfl, hl⟩
  have La : Later w W1 := L1.out
  have L12 : Hid (Later W1 w2) := hl
  have L2 : Hid (Later w w2) := Later.trans La hl
  have X2 := hide (X1.out.below hl)
  have Y2 := hide (Y1.out.below hl)
  clear hl La CA
  go_wp2_with (first | (refine wpList_rload_saga (by rfl) _ (by rfl) (by rfl) X2.out ?_) | (refine wpList_rstore_saga (by rfl) _ _ (by rfl) (by rfl) Y2.out (by rfl) ?_; intro w5 Z5 G5))
  have HLF : Hid (Later w _) := Below.grown L2.out G5 (Below.size L2.out) (fun k hk => by have b1 := Option.some.inj hk; have b2 := HG0.out; omega)
  refine bodyPost_ret (results_box2 Tryz.results38 _ _ (g + 1) 39 _ _ (by rfl) Z5 Tryz.underlying39 (by rfl) (by kernel_rfl) (.bool false) (by rfl)) (by rfl) ?_
  exact ⟨rfl, HLF.out⟩
set_option maxHeartbeats 8000000 in
set_option maxRecDepth 100000 in
theorem rreport_miss {F : Nat → Prop} {s : SagaD} {l : List StepD} {back : Bool} (h : StepsAt F w s.v l) (hl : l.length ≤ 1000) (hw : ∀ x ∈ l, x.wf) (h1 : I64 s.step) (hi : isIt l s s.step s.tr back = true) (h2 : 0 ≤ s.tr) (h3 : s.tr ≤ 900) : Calls Tryz.prog 37 #[s.val, .int .i64 s.step, .int .i64 s.tr, .bool back, .bool false] w (Gives (.tuple #[(missedS l s).val, .bool true]) w) := by
  obtain ⟨W1, hW1⟩ : ∃ W1, W1 = (w.alloc (.cells s.cells.toArray 39 (0, 0))).alloc (.cells #[.string ⟨#[]⟩, .slice none 0 0, .int .i64 0, .int .i64 0, .int .i64 0, .bool false, .bool false, .bool false, .bool false, .bool false, .bool false, .bool false, .bool false] 39 (0, 0)) := ⟨_, rfl⟩
  obtain ⟨g, hg⟩ : ∃ g, g = w.heap.size := ⟨_, rfl⟩
  have X1 : Hid (SBox 39 g s W1) := by rw [hW1, hg]; exact (heap_alloc_old _ _ (by simp)).trans (heap_alloc_new _ _)
  have Y1 : Hid (SBox 39 (g + 1) SagaD.zero W1) := by rw [hW1, hg]; exact heap_second _ _ _
  have L1 : Hid (Later w W1) := by rw [hW1]; exact ((Below.refl _ _).alloc (Nat.le_refl _) _).alloc (by simp) _
  have HG0 : Hid (w.heap.size ≤ g) := Nat.le_of_eq hg.symm
  have CA : Hid (Calls Tryz.prog 69 #[s.val, .int .i64 s.step, .int .i64 s.tr, .bool back] W1 (Gives (.bool (isIt l s s.step s.tr back)) W1)) := rasked_any (StepsAt.kept h (Kept.of_below L1.out _)) hw h1
  rw [hi] at CA
  have xe := X1.out
  rw [hW1, hg] at xe
  have XE := hide xe
  have CM : Hid (∀ W, Later W1 W → Calls Tryz.prog 70 #[s.val] W (Gives (missedS l s).val W)) := fun W hW => by
    have ha : Later w W1 := L1.out
    have hb : Later w W := Later.trans ha hW
    exact rmissed_any (StepsAt.kept h (Kept.of_below hb _)) hl hw h1 h2 h3
  obtain ⟨D, hD⟩ : ∃ D, missedS l s = D := ⟨_, rfl⟩
  rw [hD] at CM ⊢
  have HW1 := hide hW1.symm
  have HG := hide hg.symm
  clear hW1 hg xe h hl hw h1 hi hD h2 h3
  go_enter Tryz.func37, Tryz.ntmps37
  go_wp2_with (refine wpList_rload_saga (by rfl) _ (by rfl) (by rfl) XE.out ?_; simp only [HW1.out, HG.out])
  refine CA.out.mono ?_
  rintro e w2 ⟨rfl, hl⟩
  have La : Later w W1 := L1.out
  have L12 : Hid (Later W1 w2) := hl
  have L2 : Hid (Later w w2) := Later.trans La hl
  have X2 := hide (X1.out.below hl)
  have Y2 := hide (Y1.out.below hl)
  clear hl La CA
  go_wp2_with (refine wpList_rload_saga (by rfl) _ (by rfl) (by rfl) X2.out ?_)
  refine (CM.out _ L12.out).mono ?_
  rintro e w3 ⟨rfl, hl3⟩
  have La : Later w w2 := L2.out
  have L3 : Hid (Later w w3) := Later.trans La hl3
  have Y3 := hide (Y2.out.below hl3)
  clear hl3 La
  go_wp2_with (refine wpList_rstore_saga (by rfl) _ _ (by rfl) (by rfl) Y3.out (by rfl) ?_; intro w5 Z5 G5)
  have HLF : Hid (Later w _) := Below.grown L3.out G5 (Below.size L3.out) (fun k hk => by have b1 := Option.some.inj hk; have b2 := HG0.out; omega)
  refine bodyPost_ret (results_box2 Tryz.results37 _ _ (g + 1) 39 _ _ (by rfl) Z5 Tryz.underlying39 (by rfl) (by kernel_rfl) (.bool true) (by rfl)) (by rfl) ?_
  exact ⟨rfl, HLF.out⟩
set_option maxHeartbeats 8000000 in
set_option maxRecDepth 100000 in
theorem rreport_back {F : Nat → Prop} {s : SagaD} {l : List StepD} (h : StepsAt F w s.v l) (hl : l.length ≤ 1000) (hw : ∀ x ∈ l, x.wf) (h1 : I64 s.step) (hi : isIt l s s.step s.tr true = true) (p1 : 1 ≤ s.step) (p8 : s.step ≤ 8) : Calls Tryz.prog 37 #[s.val, .int .i64 s.step, .int .i64 s.tr, .bool true, .bool true] w (Gives (.tuple #[(downS l (s.hitN false)).val, .bool true]) w) := by
  obtain ⟨W1, hW1⟩ : ∃ W1, W1 = (w.alloc (.cells s.cells.toArray 39 (0, 0))).alloc (.cells #[.string ⟨#[]⟩, .slice none 0 0, .int .i64 0, .int .i64 0, .int .i64 0, .bool false, .bool false, .bool false, .bool false, .bool false, .bool false, .bool false, .bool false] 39 (0, 0)) := ⟨_, rfl⟩
  obtain ⟨g, hg⟩ : ∃ g, g = w.heap.size := ⟨_, rfl⟩
  have X1 : Hid (SBox 39 g s W1) := by rw [hW1, hg]; exact (heap_alloc_old _ _ (by simp)).trans (heap_alloc_new _ _)
  have Y1 : Hid (SBox 39 (g + 1) SagaD.zero W1) := by rw [hW1, hg]; exact heap_second _ _ _
  have L1 : Hid (Later w W1) := by rw [hW1]; exact ((Below.refl _ _).alloc (Nat.le_refl _) _).alloc (by simp) _
  have HG0 : Hid (w.heap.size ≤ g) := Nat.le_of_eq hg.symm
  have CA : Hid (Calls Tryz.prog 69 #[s.val, .int .i64 s.step, .int .i64 s.tr, .bool true] W1 (Gives (.bool (isIt l s s.step s.tr true)) W1)) := rasked_any (StepsAt.kept h (Kept.of_below L1.out _)) hw h1
  rw [hi] at CA
  have xe := X1.out
  rw [hW1, hg] at xe
  have XE := hide xe
  obtain ⟨k, hk8, hks⟩ : ∃ k : Nat, k < 8 ∧ s.step = (k : Int) + 1 := ⟨(s.step - 1).toNat, by omega, by omega⟩
  have HKS := hide hks
  have CD : Hid (∀ W, Later w W → Calls Tryz.prog 71 #[(s.hitN false).val, .int .i64 s.step] W (Gives (downS l (s.hitN false)).val W)) := fun W hW => rdownS_any (s := s.hitN false) (StepsAt.kept h (Kept.of_below hW _)) hl h1
  obtain ⟨D, hD⟩ : ∃ D, downS l (s.hitN false) = D := ⟨_, rfl⟩
  rw [hD] at CD ⊢
  rw [hks] at CD CA ⊢
  have HW1 := hide hW1.symm
  have HG := hide hg.symm
  clear hW1 hg xe h hl hw h1 hi hD hks p1 p8
  go_enter Tryz.func37, Tryz.ntmps37
  go_wp2_with (refine wpList_rload_saga (by rfl) _ (by rfl) (by rfl) XE.out ?_; simp only [HW1.out, HG.out])
  refine CA.out.mono ?_
  rintro e w2 ⟨rfl, hl⟩
  have La : Later w W1 := L1.out
  have L12 : Hid (Later W1 w2) := hl
  have L2 : Hid (Later w w2) := Later.trans La hl
  have X2 := hide (X1.out.below hl)
  have Y2 := hide (Y1.out.below hl)
  clear hl La CA
  obtain ⟨bk, cbk⟩ := X2.out.hitCell hk8
  have fbk := X2.out.thaw (5 + k)
  have XH : Hid (SBox 39 g (s.hitN false) (w2.setCell ⟨g, 5 + k, none⟩ (.bool false))) := X2.out.hit_ false hk8 HKS.out
  have YH : Hid (SBox 39 (g + 1) SagaD.zero (w2.setCell ⟨g, 5 + k, none⟩ (.bool false))) := Y2.out.setOther _ (by simp)
  have LH : Hid (Later w2 (w2.setCell ⟨g, 5 + k, none⟩ (.bool false)) → True) := fun _ => trivial
  have LHW : Hid (Later w (w2.setCell ⟨g, 5 + k, none⟩ (.bool false))) := L2.out.setCell (p := ⟨g, 5 + k, none⟩) HG0.out _
  clear LH
  go_wp2_with (refine wpList_rload_saga (by rfl) _ (by rfl) (by rfl) XH.out ?_)
  refine (CD.out _ LHW.out).mono ?_
  rintro e w3 ⟨rfl, hl3⟩
  have La : Later w _ := LHW.out
  have L3 : Hid (Later w w3) := Later.trans La hl3
  have Y3 := hide (YH.out.below hl3)
  clear hl3 La
  go_wp2_with (refine wpList_rstore_saga (by rfl) _ _ (by rfl) (by rfl) Y3.out (by rfl) ?_; intro w5 Z5 G5)
  have HLF : Hid (Later w _) := Below.grown L3.out G5 (Below.size L3.out) (fun k hk => by have b1 := Option.some.inj hk; have b2 := HG0.out; omega)
  refine bodyPost_ret (results_box2 Tryz.results37 _ _ (g + 1) 39 _ _ (by rfl) Z5 Tryz.underlying39 (by rfl) (by kernel_rfl) (.bool true) (by rfl)) (by rfl) ?_
  exact ⟨rfl, HLF.out⟩
set_option maxHeartbeats 8000000 in
set_option maxRecDepth 100000 in
theorem rreport_last {F : Nat → Prop} {s : SagaD} {l : List StepD} (h : StepsAt F w s.v l) (hl : l.length ≤ 1000) (hw : ∀ x ∈ l, x.wf) (h1 : I64 s.step) (hi : isIt l s s.step s.tr false = true) (p1 : 1 ≤ s.step) (p8 : s.step ≤ 8) (hln : s.step = (s.n : Int)) : Calls Tryz.prog 37 #[s.val, .int .i64 s.step, .int .i64 s.tr, .bool false, .bool true] w (Gives (.tuple #[((s.hitN true).ended 3 0).val, .bool true]) w) := by
  obtain ⟨W1, hW1⟩ : ∃ W1, W1 = (w.alloc (.cells s.cells.toArray 39 (0, 0))).alloc (.cells #[.string ⟨#[]⟩, .slice none 0 0, .int .i64 0, .int .i64 0, .int .i64 0, .bool false, .bool false, .bool false, .bool false, .bool false, .bool false, .bool false, .bool false] 39 (0, 0)) := ⟨_, rfl⟩
  obtain ⟨g, hg⟩ : ∃ g, g = w.heap.size := ⟨_, rfl⟩
  have X1 : Hid (SBox 39 g s W1) := by rw [hW1, hg]; exact (heap_alloc_old _ _ (by simp)).trans (heap_alloc_new _ _)
  have Y1 : Hid (SBox 39 (g + 1) SagaD.zero W1) := by rw [hW1, hg]; exact heap_second _ _ _
  have L1 : Hid (Later w W1) := by rw [hW1]; exact ((Below.refl _ _).alloc (Nat.le_refl _) _).alloc (by simp) _
  have HG0 : Hid (w.heap.size ≤ g) := Nat.le_of_eq hg.symm
  have CA : Hid (Calls Tryz.prog 69 #[s.val, .int .i64 s.step, .int .i64 s.tr, .bool false] W1 (Gives (.bool (isIt l s s.step s.tr false)) W1)) := rasked_any (StepsAt.kept h (Kept.of_below L1.out _)) hw h1
  rw [hi] at CA
  have xe := X1.out
  rw [hW1, hg] at xe
  have XE := hide xe
  obtain ⟨k, hk8, hks⟩ : ∃ k : Nat, k < 8 ∧ s.step = (k : Int) + 1 := ⟨(s.step - 1).toNat, by omega, by omega⟩
  have HKS := hide hks
  rw [hks] at CA hln ⊢
  have hln2 : ((k : Int) + 1 == (s.n : Int)) = true := by simpa using hln
  have HW1 := hide hW1.symm
  have HG := hide hg.symm
  clear hW1 hg xe h hl hw h1 hi hks p1 p8 hln
  go_enter Tryz.func37, Tryz.ntmps37
  go_wp2_with (refine wpList_rload_saga (by rfl) _ (by rfl) (by rfl) XE.out ?_; simp only [HW1.out, HG.out])
  refine CA.out.mono ?_
  rintro e w2 ⟨rfl, hl⟩
  have La : Later w W1 := L1.out
  have L12 : Hid (Later W1 w2) := hl
  have L2 : Hid (Later w w2) := Later.trans La hl
  have X2 := hide (X1.out.below hl)
  have Y2 := hide (Y1.out.below hl)
  clear hl La CA
  obtain ⟨bk, cbk⟩ := X2.out.hitCell hk8
  have fbk := X2.out.thaw (5 + k)
  have XH : Hid (SBox 39 g (s.hitN true) (w2.setCell ⟨g, 5 + k, none⟩ (.bool true))) := X2.out.hit_ true hk8 HKS.out
  have YH : Hid (SBox 39 (g + 1) SagaD.zero (w2.setCell ⟨g, 5 + k, none⟩ (.bool true))) := Y2.out.setOther _ (by simp)
  have LH : Hid (Later w2 (w2.setCell ⟨g, 5 + k, none⟩ (.bool true)) → True) := fun _ => trivial
  have LHW : Hid (Later w (w2.setCell ⟨g, 5 + k, none⟩ (.bool true))) := L2.out.setCell (p := ⟨g, 5 + k, none⟩) HG0.out _
  clear LH
  go_upto_region 9 with (fail)
  obtain ⟨w3, hw3⟩ : ∃ w3, w3 = w2.setCell ⟨g, 5 + k, none⟩ (.bool true) := ⟨_, rfl⟩
  have X3 : Hid (SBox 39 g (s.hitN true) w3) := by rw [hw3]; exact XH.out
  have Y3 : Hid (SBox 39 (g + 1) SagaD.zero w3) := by rw [hw3]; exact YH.out
  have L3 : Hid (Later w w3) := by rw [hw3]; exact LHW.out
  rw [← hw3]
  clear hw3 XH YH LHW cbk fbk
  have c1 : w3.cell? ⟨g, 1, none⟩ = some (.slice s.p s.n s.c) := X3.out.c1
  have c2 := X3.out.c2
  have c3 := X3.out.c3
  have c4 := X3.out.c4
  have f2 := X3.out.thaw 2
  have f3 := X3.out.thaw 3
  have f4 := X3.out.thaw 4
  have XF : Hid (SBox 39 g ((s.hitN true).ended 3 0) (((w3.setCell ⟨g, 2, none⟩ (.int .i64 3)).setCell ⟨g, 3, none⟩ (.int .i64 0)).setCell ⟨g, 4, none⟩ (.int .i64 0))) := (((X3.out.st_ 3).step_ 0).tr_ 0)
  have YF : Hid (SBox 39 (g + 1) SagaD.zero (((w3.setCell ⟨g, 2, none⟩ (.int .i64 3)).setCell ⟨g, 3, none⟩ (.int .i64 0)).setCell ⟨g, 4, none⟩ (.int .i64 0))) := (((Y3.out.setOther _ (by simp)).setOther _ (by simp)).setOther _ (by simp))
  have LF : Hid (Later w (((w3.setCell ⟨g, 2, none⟩ (.int .i64 3)).setCell ⟨g, 3, none⟩ (.int .i64 0)).setCell ⟨g, 4, none⟩ (.int .i64 0))) := (((L3.out.setCell (p := ⟨g, 2, none⟩) HG0.out _).setCell (p := ⟨g, 3, none⟩) HG0.out _).setCell (p := ⟨g, 4, none⟩) HG0.out _)
  go_upto_region 11 with (fail)
  obtain ⟨w4, hw4⟩ : ∃ w4, w4 = (((w3.setCell ⟨g, 2, none⟩ (.int .i64 3)).setCell ⟨g, 3, none⟩ (.int .i64 0)).setCell ⟨g, 4, none⟩ (.int .i64 0)) := ⟨_, rfl⟩
  rw [← hw4] at XF YF LF
  rw [← hw4]
  clear hw4 c1 c2 c3 c4 f2 f3 f4 X3 Y3 L3
  go_wp2_with (first | (refine wpList_rload_saga (by rfl) _ (by rfl) (by rfl) XF.out ?_) | (refine wpList_rstore_saga (by rfl) _ _ (by rfl) (by rfl) YF.out (by rfl) ?_; intro w5 Z5 G5))
  have HLF : Hid (Later w _) := Below.grown LF.out G5 (Below.size LF.out) (fun k hk => by have b1 := Option.some.inj hk; have b2 := HG0.out; omega)
  refine bodyPost_ret (results_box2 Tryz.results37 _ _ (g + 1) 39 _ _ (by rfl) Z5 Tryz.underlying39 (by rfl) (by kernel_rfl) (.bool true) (by rfl)) (by rfl) ?_
  exact ⟨rfl, HLF.out⟩
set_option maxHeartbeats 8000000 in
set_option maxRecDepth 100000 in
theorem rreport_next {F : Nat → Prop} {s : SagaD} {l : List StepD} (h : StepsAt F w s.v l) (hl : l.length ≤ 1000) (hw : ∀ x ∈ l, x.wf) (h1 : I64 s.step) (hi : isIt l s s.step s.tr false = true) (p1 : 1 ≤ s.step) (p8 : s.step ≤ 8) (hln : s.step ≠ (s.n : Int)) : Calls Tryz.prog 37 #[s.val, .int .i64 s.step, .int .i64 s.tr, .bool false, .bool true] w (Gives (.tuple #[((s.hitN true).at_ 1 (s.step + 1)).val, .bool true]) w) := by
  obtain ⟨W1, hW1⟩ : ∃ W1, W1 = (w.alloc (.cells s.cells.toArray 39 (0, 0))).alloc (.cells #[.string ⟨#[]⟩, .slice none 0 0, .int .i64 0, .int .i64 0, .int .i64 0, .bool false, .bool false, .bool false, .bool false, .bool false, .bool false, .bool false, .bool false] 39 (0, 0)) := ⟨_, rfl⟩
  obtain ⟨g, hg⟩ : ∃ g, g = w.heap.size := ⟨_, rfl⟩
  have X1 : Hid (SBox 39 g s W1) := by rw [hW1, hg]; exact (heap_alloc_old _ _ (by simp)).trans (heap_alloc_new _ _)
  have Y1 : Hid (SBox 39 (g + 1) SagaD.zero W1) := by rw [hW1, hg]; exact heap_second _ _ _
  have L1 : Hid (Later w W1) := by rw [hW1]; exact ((Below.refl _ _).alloc (Nat.le_refl _) _).alloc (by simp) _
  have HG0 : Hid (w.heap.size ≤ g) := Nat.le_of_eq hg.symm
  have CA : Hid (Calls Tryz.prog 69 #[s.val, .int .i64 s.step, .int .i64 s.tr, .bool false] W1 (Gives (.bool (isIt l s s.step s.tr false)) W1)) := rasked_any (StepsAt.kept h (Kept.of_below L1.out _)) hw h1
  rw [hi] at CA
  have xe := X1.out
  rw [hW1, hg] at xe
  have XE := hide xe
  obtain ⟨k, hk8, hks⟩ : ∃ k : Nat, k < 8 ∧ s.step = (k : Int) + 1 := ⟨(s.step - 1).toNat, by omega, by omega⟩
  have HKS := hide hks
  rw [hks] at CA hln ⊢
  have hst : s.st = 1 := by
    have hw2 := isIt_wants hi
    have h12 := wants_st2 hw2
    have hb : decide (s.st = 2) = false := by
      unfold isIt at hi
      simp only [Bool.and_eq_true] at hi
      simpa using hi.2.2.2
    have : s.st ≠ 2 := by simpa using hb
    omega
  have HST := hide hst
  clear hst
  have hln2 : ((k : Int) + 1 == (s.n : Int)) = false := by simpa using hln
  have HW1 := hide hW1.symm
  have HG := hide hg.symm
  clear hW1 hg xe h hl hw h1 hi hks p1 p8 hln
  go_enter Tryz.func37, Tryz.ntmps37
  go_wp2_with (refine wpList_rload_saga (by rfl) _ (by rfl) (by rfl) XE.out ?_; simp only [HW1.out, HG.out])
  refine CA.out.mono ?_
  rintro e w2 ⟨rfl, hl⟩
  have La : Later w W1 := L1.out
  have L12 : Hid (Later W1 w2) := hl
  have L2 : Hid (Later w w2) := Later.trans La hl
  have X2 := hide (X1.out.below hl)
  have Y2 := hide (Y1.out.below hl)
  clear hl La CA
  obtain ⟨bk, cbk⟩ := X2.out.hitCell hk8
  have fbk := X2.out.thaw (5 + k)
  have XH : Hid (SBox 39 g (s.hitN true) (w2.setCell ⟨g, 5 + k, none⟩ (.bool true))) := X2.out.hit_ true hk8 HKS.out
  have YH : Hid (SBox 39 (g + 1) SagaD.zero (w2.setCell ⟨g, 5 + k, none⟩ (.bool true))) := Y2.out.setOther _ (by simp)
  have LH : Hid (Later w2 (w2.setCell ⟨g, 5 + k, none⟩ (.bool true)) → True) := fun _ => trivial
  have LHW : Hid (Later w (w2.setCell ⟨g, 5 + k, none⟩ (.bool true))) := L2.out.setCell (p := ⟨g, 5 + k, none⟩) HG0.out _
  clear LH
  go_upto_region 9 with (fail)
  obtain ⟨w3, hw3⟩ : ∃ w3, w3 = w2.setCell ⟨g, 5 + k, none⟩ (.bool true) := ⟨_, rfl⟩
  have X3 : Hid (SBox 39 g (s.hitN true) w3) := by rw [hw3]; exact XH.out
  have Y3 : Hid (SBox 39 (g + 1) SagaD.zero w3) := by rw [hw3]; exact YH.out
  have L3 : Hid (Later w w3) := by rw [hw3]; exact LHW.out
  rw [← hw3]
  clear hw3 XH YH LHW cbk fbk
  have c1 : w3.cell? ⟨g, 1, none⟩ = some (.slice s.p s.n s.c) := X3.out.c1
  have c2 := X3.out.c2
  have c3 := X3.out.c3
  have c4 := X3.out.c4
  have f2 := X3.out.thaw 2
  have f3 := X3.out.thaw 3
  have f4 := X3.out.thaw 4
  have XF : Hid (SBox 39 g ((s.hitN true).at_ 1 ((k : Int) + 1 + 1)) ((w3.setCell ⟨g, 3, none⟩ (.int .i64 ((k : Int) + 1 + 1))).setCell ⟨g, 4, none⟩ (.int .i64 1))) := (by
    have h9 := ((X3.out.step_ ((k : Int) + 1 + 1)).tr_ 1)
    have e9 : (⟨(s.hitN true).name, (s.hitN true).p, (s.hitN true).n, (s.hitN true).c, (s.hitN true).st, (k : Int) + 1 + 1, 1, (s.hitN true).hit⟩ : SagaD) = (s.hitN true).at_ 1 ((k : Int) + 1 + 1) := by
      unfold SagaD.at_
      rw [show (s.hitN true).st = 1 from HST.out]
    rw [← e9]
    exact h9)
  have YF : Hid (SBox 39 (g + 1) SagaD.zero ((w3.setCell ⟨g, 3, none⟩ (.int .i64 ((k : Int) + 1 + 1))).setCell ⟨g, 4, none⟩ (.int .i64 1))) := ((Y3.out.setOther _ (by simp)).setOther _ (by simp))
  have LF : Hid (Later w ((w3.setCell ⟨g, 3, none⟩ (.int .i64 ((k : Int) + 1 + 1))).setCell ⟨g, 4, none⟩ (.int .i64 1))) := ((L3.out.setCell (p := ⟨g, 3, none⟩) HG0.out _).setCell (p := ⟨g, 4, none⟩) HG0.out _)
  go_upto_region 13 with (fail)
  obtain ⟨w4, hw4⟩ : ∃ w4, w4 = ((w3.setCell ⟨g, 3, none⟩ (.int .i64 ((k : Int) + 1 + 1))).setCell ⟨g, 4, none⟩ (.int .i64 1)) := ⟨_, rfl⟩
  rw [← hw4] at XF YF LF
  rw [← hw4]
  clear hw4 c1 c2 c3 c4 f2 f3 f4 X3 Y3 L3
  go_wp2_with (first | (refine wpList_rload_saga (by rfl) _ (by rfl) (by rfl) XF.out ?_) | (refine wpList_rstore_saga (by rfl) _ _ (by rfl) (by rfl) YF.out (by rfl) ?_; intro w5 Z5 G5))
  have HLF : Hid (Later w _) := Below.grown LF.out G5 (Below.size LF.out) (fun k hk => by have b1 := Option.some.inj hk; have b2 := HG0.out; omega)
  refine bodyPost_ret (results_box2 Tryz.results37 _ _ (g + 1) 39 _ _ (by rfl) Z5 Tryz.underlying39 (by rfl) (by kernel_rfl) (.bool true) (by rfl)) (by rfl) ?_
  exact ⟨rfl, HLF.out⟩
set_option maxHeartbeats 8000000 in
set_option maxRecDepth 100000 in
theorem rlapse_fwd {F : Nat → Prop} {s : SagaD} {l : List StepD} (h : StepsAt F w s.v l) (hl : l.length ≤ 1000) (hw : ∀ x ∈ l, x.wf) (h1 : I64 s.step) (hi : isIt l s s.step s.tr false = true) (h2 : 0 ≤ s.tr) (h3 : s.tr ≤ 900) (p1 : 1 ≤ s.step) (p8 : s.step ≤ 8) : Calls Tryz.prog 38 #[s.val, .int .i64 s.step, .int .i64 s.tr, .bool false] w (Gives (.tuple #[(missedS l (s.hitN true)).val, .bool true]) w) := by
  obtain ⟨W1, hW1⟩ : ∃ W1, W1 = (w.alloc (.cells s.cells.toArray 39 (0, 0))).alloc (.cells #[.string ⟨#[]⟩, .slice none 0 0, .int .i64 0, .int .i64 0, .int .i64 0, .bool false, .bool false, .bool false, .bool false, .bool false, .bool false, .bool false, .bool false] 39 (0, 0)) := ⟨_, rfl⟩
  obtain ⟨g, hg⟩ : ∃ g, g = w.heap.size := ⟨_, rfl⟩
  have X1 : Hid (SBox 39 g s W1) := by rw [hW1, hg]; exact (heap_alloc_old _ _ (by simp)).trans (heap_alloc_new _ _)
  have Y1 : Hid (SBox 39 (g + 1) SagaD.zero W1) := by rw [hW1, hg]; exact heap_second _ _ _
  have L1 : Hid (Later w W1) := by rw [hW1]; exact ((Below.refl _ _).alloc (Nat.le_refl _) _).alloc (by simp) _
  have HG0 : Hid (w.heap.size ≤ g) := Nat.le_of_eq hg.symm
  have CA : Hid (Calls Tryz.prog 69 #[s.val, .int .i64 s.step, .int .i64 s.tr, .bool false] W1 (Gives (.bool (isIt l s s.step s.tr false)) W1)) := rasked_any (StepsAt.kept h (Kept.of_below L1.out _)) hw h1
  rw [hi] at CA
  have xe := X1.out
  rw [hW1, hg] at xe
  have XE := hide xe
  obtain ⟨k, hk8, hks⟩ : ∃ k : Nat, k < 8 ∧ s.step = (k : Int) + 1 := ⟨(s.step - 1).toNat, by omega, by omega⟩
  have HKS := hide hks
  have CM : Hid (∀ W, Later w W → Calls Tryz.prog 70 #[(s.hitN true).val] W (Gives (missedS l (s.hitN true)).val W)) := fun W hW => rmissed_any (s := s.hitN true) (StepsAt.kept h (Kept.of_below hW _)) hl hw h1 h2 h3
  obtain ⟨D, hD⟩ : ∃ D, missedS l (s.hitN true) = D := ⟨_, rfl⟩
  rw [hD] at CM ⊢
  rw [hks] at CA ⊢
  have HW1 := hide hW1.symm
  have HG := hide hg.symm
  clear hW1 hg xe h hl hw h1 hi hD h2 h3 p1 p8 hks
  go_enter Tryz.func38, Tryz.ntmps38
  go_wp2_with (refine wpList_rload_saga (by rfl) _ (by rfl) (by rfl) XE.out ?_; simp only [HW1.out, HG.out])
  refine CA.out.mono ?_
  rintro e w2 ⟨rfl, hl⟩
  have La : Later w W1 := L1.out
  have L12 : Hid (Later W1 w2) := hl
  have L2 : Hid (Later w w2) := Later.trans La hl
  have X2 := hide (X1.out.below hl)
  have Y2 := hide (Y1.out.below hl)
  clear hl La CA
  obtain ⟨bk, cbk⟩ := X2.out.hitCell hk8
  have fbk := X2.out.thaw (5 + k)
  have XH : Hid (SBox 39 g (s.hitN true) (w2.setCell ⟨g, 5 + k, none⟩ (.bool true))) := X2.out.hit_ true hk8 HKS.out
  have YH : Hid (SBox 39 (g + 1) SagaD.zero (w2.setCell ⟨g, 5 + k, none⟩ (.bool true))) := Y2.out.setOther _ (by simp)
  have LH : Hid (Later w2 (w2.setCell ⟨g, 5 + k, none⟩ (.bool true)) → True) := fun _ => trivial
  have LHW : Hid (Later w (w2.setCell ⟨g, 5 + k, none⟩ (.bool true))) := L2.out.setCell (p := ⟨g, 5 + k, none⟩) HG0.out _
  clear LH
  go_wp2_with (refine wpList_rload_saga (by rfl) _ (by rfl) (by rfl) XH.out ?_)
  refine (CM.out _ LHW.out).mono ?_
  rintro e w3 ⟨rfl, hl3⟩
  have La : Later w _ := LHW.out
  have L3 : Hid (Later w w3) := Later.trans La hl3
  have Y3 := hide (YH.out.below hl3)
  clear hl3 La
  go_wp2_with (refine wpList_rstore_saga (by rfl) _ _ (by rfl) (by rfl) Y3.out (by rfl) ?_; intro w5 Z5 G5)
  have HLF : Hid (Later w _) := Below.grown L3.out G5 (Below.size L3.out) (fun k hk => by have b1 := Option.some.inj hk; have b2 := HG0.out; omega)
  refine bodyPost_ret (results_box2 Tryz.results38 _ _ (g + 1) 39 _ _ (by rfl) Z5 Tryz.underlying39 (by rfl) (by kernel_rfl) (.bool true) (by rfl)) (by rfl) ?_
  exact ⟨rfl, HLF.out⟩
set_option maxHeartbeats 8000000 in
set_option maxRecDepth 100000 in
theorem rlapse_back {F : Nat → Prop} {s : SagaD} {l : List StepD} (h : StepsAt F w s.v l) (hl : l.length ≤ 1000) (hw : ∀ x ∈ l, x.wf) (h1 : I64 s.step) (hi : isIt l s s.step s.tr true = true) (h2 : 0 ≤ s.tr) (h3 : s.tr ≤ 900) (p1 : 1 ≤ s.step) (p8 : s.step ≤ 8) : Calls Tryz.prog 38 #[s.val, .int .i64 s.step, .int .i64 s.tr, .bool true] w (Gives (.tuple #[(missedS l s).val, .bool true]) w) := by
  obtain ⟨W1, hW1⟩ : ∃ W1, W1 = (w.alloc (.cells s.cells.toArray 39 (0, 0))).alloc (.cells #[.string ⟨#[]⟩, .slice none 0 0, .int .i64 0, .int .i64 0, .int .i64 0, .bool false, .bool false, .bool false, .bool false, .bool false, .bool false, .bool false, .bool false] 39 (0, 0)) := ⟨_, rfl⟩
  obtain ⟨g, hg⟩ : ∃ g, g = w.heap.size := ⟨_, rfl⟩
  have X1 : Hid (SBox 39 g s W1) := by rw [hW1, hg]; exact (heap_alloc_old _ _ (by simp)).trans (heap_alloc_new _ _)
  have Y1 : Hid (SBox 39 (g + 1) SagaD.zero W1) := by rw [hW1, hg]; exact heap_second _ _ _
  have L1 : Hid (Later w W1) := by rw [hW1]; exact ((Below.refl _ _).alloc (Nat.le_refl _) _).alloc (by simp) _
  have HG0 : Hid (w.heap.size ≤ g) := Nat.le_of_eq hg.symm
  have CA : Hid (Calls Tryz.prog 69 #[s.val, .int .i64 s.step, .int .i64 s.tr, .bool true] W1 (Gives (.bool (isIt l s s.step s.tr true)) W1)) := rasked_any (StepsAt.kept h (Kept.of_below L1.out _)) hw h1
  rw [hi] at CA
  have xe := X1.out
  rw [hW1, hg] at xe
  have XE := hide xe
  have CM : Hid (∀ W, Later w W → Calls Tryz.prog 70 #[(s).val] W (Gives (missedS l (s)).val W)) := fun W hW => rmissed_any (s := s) (StepsAt.kept h (Kept.of_below hW _)) hl hw h1 h2 h3
  obtain ⟨D, hD⟩ : ∃ D, missedS l (s) = D := ⟨_, rfl⟩
  rw [hD] at CM ⊢
  have HW1 := hide hW1.symm
  have HG := hide hg.symm
  clear hW1 hg xe h hl hw h1 hi hD h2 h3 p1 p8
  go_enter Tryz.func38, Tryz.ntmps38
  go_wp2_with (refine wpList_rload_saga (by rfl) _ (by rfl) (by rfl) XE.out ?_; simp only [HW1.out, HG.out])
  refine CA.out.mono ?_
  rintro e w2 ⟨rfl, hl⟩
  have La : Later w W1 := L1.out
  have L12 : Hid (Later W1 w2) := hl
  have L2 : Hid (Later w w2) := Later.trans La hl
  have X2 := hide (X1.out.below hl)
  have Y2 := hide (Y1.out.below hl)
  clear hl La CA
  go_wp2_with (refine wpList_rload_saga (by rfl) _ (by rfl) (by rfl) X2.out ?_)
  refine (CM.out _ L2.out).mono ?_
  rintro e w3 ⟨rfl, hl3⟩
  have La : Later w _ := L2.out
  have L3 : Hid (Later w w3) := Later.trans La hl3
  have Y3 := hide (Y2.out.below hl3)
  clear hl3 La
  go_wp2_with (refine wpList_rstore_saga (by rfl) _ _ (by rfl) (by rfl) Y3.out (by rfl) ?_; intro w5 Z5 G5)
  have HLF : Hid (Later w _) := Below.grown L3.out G5 (Below.size L3.out) (fun k hk => by have b1 := Option.some.inj hk; have b2 := HG0.out; omega)
  refine bodyPost_ret (results_box2 Tryz.results38 _ _ (g + 1) 39 _ _ (by rfl) Z5 Tryz.underlying39 (by rfl) (by kernel_rfl) (.bool true) (by rfl)) (by rfl) ?_
  exact ⟨rfl, HLF.out⟩
end
end Go.Proofs.YtpckdhjnhnonhaaGreat
/- The document's saga: Cancel. -/
namespace Go.Proofs.YtpckdhjnhnonhaaGreat
open Go.RowKit
theorem check_of_good {l : List StepD} {s : SagaD} (h : goodF l s = true) : (checkF s.name l).2 = 0 := by
  unfold goodF at h
  split at h
  · cases h
  · rename_i hc
    simpa using hc
theorem pivot_once : ∀ (l done : List StepD), (firstBad done l).2 = 0 → ∀ (i : Nat) (s : StepD), l[i]? = some s → s.pivot = true → pivotB (done ++ l.take i) = false
  | [], _, _, i, s, hs, _ => by simp at hs
  | x :: r, done, h, i, s, hs, hp => by
    unfold firstBad at h
    split at h
    · rename_i h0
      cases i with
      | zero =>
        obtain rfl : x = s := by simpa using hs
        simp only [List.take_zero, List.append_nil]
        unfold stepErr at h0
        split at h0
        · cases h0
        · split at h0
          · cases h0
          · rename_i h2
            rw [hp] at h2
            simp only [Bool.or_eq_true, Bool.and_eq_true, not_or, not_and] at h2
            simpa using h2.2
      | succ i =>
        have ih := pivot_once r (done ++ [x]) h i s (by simpa using hs) hp
        rw [List.take_succ_cons]
        rw [List.append_assoc] at ih
        exact ih
    · rename_i h0
      exact absurd (show stepErr done x = 0 from h) h0
theorem pivot_is {name : ByteArray} {l : List StepD} (hc : (checkF name l).2 = 0) {k : Nat} {s : StepD} (hs : l[k]? = some s) : s.pivot = decide (((k : Int) + 1) = ((pivotN l : Nat) : Int)) := by
  cases hp : s.pivot with
  | true =>
    have h1 := pivot_once l [] (check_first hc) k s hs hp
    rw [List.nil_append] at h1
    have h2 := pivot_at h1 hs hp
    symm
    rw [decide_eq_true_eq, h2]
    omega
  | false =>
    symm
    rw [decide_eq_false_iff_not]
    intro e
    have e2 : pivotN l = k + 1 := by omega
    unfold pivotN at e2
    split at e2
    · rename_i hlt
      have e3 : l.findIdx (fun s => s.pivot) = k := by omega
      have h4 := List.findIdx_getElem (xs := l) (p := fun s => s.pivot) (w := hlt)
      obtain ⟨hk, hsk⟩ := List.getElem?_eq_some_iff.1 hs
      simp only [e3] at h4
      rw [hsk, hp] at h4
      cases h4
    · omega
section
variable {w : World}
set_option maxHeartbeats 8000000 in
set_option maxRecDepth 100000 in
theorem rcan_arg {F : Nat → Prop} {s : SagaD} {l : List StepD} (h : StepsAt F w s.v l) (hw : ∀ x ∈ l, x.wf) (h1 : I64 s.step) (hq : goodF l s = false) : Calls Tryz.prog 35 #[s.val] w (Gives (.tuple #[(s).val, .int .i64 2]) w) := by
  obtain ⟨W1, hW1⟩ : ∃ W1, W1 = (w.alloc (.cells s.cells.toArray 39 (0, 0))).alloc (.cells #[.string ⟨#[]⟩, .slice none 0 0, .int .i64 0, .int .i64 0, .int .i64 0, .bool false, .bool false, .bool false, .bool false, .bool false, .bool false, .bool false, .bool false] 39 (0, 0)) := ⟨_, rfl⟩
  obtain ⟨g, hg⟩ : ∃ g, g = w.heap.size := ⟨_, rfl⟩
  have X1 : Hid (SBox 39 g s W1) := by rw [hW1, hg]; exact (heap_alloc_old _ _ (by simp)).trans (heap_alloc_new _ _)
  have Y1 : Hid (SBox 39 (g + 1) SagaD.zero W1) := by rw [hW1, hg]; exact heap_second _ _ _
  have L1 : Hid (Later w W1) := by rw [hW1]; exact ((Below.refl _ _).alloc (Nat.le_refl _) _).alloc (by simp) _
  have HG0 : Hid (w.heap.size ≤ g) := Nat.le_of_eq hg.symm
  have CA : Hid (Calls Tryz.prog 48 #[s.val] W1 (Gives (.bool false) W1)) := by
    have h9 := rgood_any (StepsAt.kept h (Kept.of_below L1.out _)) hw h1
    rw [hq] at h9
    exact h9
  have xe := X1.out
  rw [hW1, hg] at xe
  have XE := hide xe
  have HW1 := hide hW1.symm
  have HG := hide hg.symm
  clear hW1 hg xe h1 hq h hw
  go_enter Tryz.func35, Tryz.ntmps35
  go_wp2_with (refine wpList_rload_saga (by rfl) _ (by rfl) (by rfl) XE.out ?_; simp only [HW1.out, HG.out])
  refine CA.out.mono ?_
  rintro e w2 ⟨rfl, hl2⟩
  have La : Later w W1 := L1.out
  have L12 : Hid (Later W1 w2) := hl2
  have L2 : Hid (Later w w2) := Later.trans La hl2
  have X2 := hide (X1.out.below hl2)
  have Y2 := hide (Y1.out.below hl2)
  clear hl2 La CA
  go_wp2_with (first | (refine wpList_rload_saga (by rfl) _ (by rfl) (by rfl) X2.out ?_) | (refine wpList_rstore_saga (by rfl) _ _ (by rfl) (by rfl) Y2.out (by rfl) ?_; intro w5 Z5 G5))
  have HLF : Hid (Later w _) := Below.grown L2.out G5 (Below.size L2.out) (fun k hk => by have b1 := Option.some.inj hk; have b2 := HG0.out; omega)
  refine bodyPost_ret (results_box2 Tryz.results35 _ _ (g + 1) 39 _ _ (by rfl) Z5 Tryz.underlying39 (by rfl) (by kernel_rfl) (.int .i64 2) (by rfl)) (by rfl) ?_
  exact ⟨rfl, HLF.out⟩
set_option maxHeartbeats 8000000 in
set_option maxRecDepth 100000 in
theorem rcan_undo {F : Nat → Prop} {s : SagaD} {l : List StepD} (h : StepsAt F w s.v l) (hw : ∀ x ∈ l, x.wf) (h1 : I64 s.step) (hq : goodF l s = true) (hst : s.st = 2) : Calls Tryz.prog 35 #[s.val] w (Gives (.tuple #[(s).val, .int .i64 0]) w) := by
  obtain ⟨W1, hW1⟩ : ∃ W1, W1 = (w.alloc (.cells s.cells.toArray 39 (0, 0))).alloc (.cells #[.string ⟨#[]⟩, .slice none 0 0, .int .i64 0, .int .i64 0, .int .i64 0, .bool false, .bool false, .bool false, .bool false, .bool false, .bool false, .bool false, .bool false] 39 (0, 0)) := ⟨_, rfl⟩
  obtain ⟨g, hg⟩ : ∃ g, g = w.heap.size := ⟨_, rfl⟩
  have X1 : Hid (SBox 39 g s W1) := by rw [hW1, hg]; exact (heap_alloc_old _ _ (by simp)).trans (heap_alloc_new _ _)
  have Y1 : Hid (SBox 39 (g + 1) SagaD.zero W1) := by rw [hW1, hg]; exact heap_second _ _ _
  have L1 : Hid (Later w W1) := by rw [hW1]; exact ((Below.refl _ _).alloc (Nat.le_refl _) _).alloc (by simp) _
  have HG0 : Hid (w.heap.size ≤ g) := Nat.le_of_eq hg.symm
  have CA : Hid (Calls Tryz.prog 48 #[s.val] W1 (Gives (.bool true) W1)) := by
    have h9 := rgood_any (StepsAt.kept h (Kept.of_below L1.out _)) hw h1
    rw [hq] at h9
    exact h9
  have xe := X1.out
  rw [hW1, hg] at xe
  have XE := hide xe
  have HW1 := hide hW1.symm
  have HG := hide hg.symm
  clear hW1 hg xe h1 hq h hw
  go_enter Tryz.func35, Tryz.ntmps35
  go_wp2_with (refine wpList_rload_saga (by rfl) _ (by rfl) (by rfl) XE.out ?_; simp only [HW1.out, HG.out])
  refine CA.out.mono ?_
  rintro e w2 ⟨rfl, hl2⟩
  have La : Later w W1 := L1.out
  have L12 : Hid (Later W1 w2) := hl2
  have L2 : Hid (Later w w2) := Later.trans La hl2
  have X2 := hide (X1.out.below hl2)
  have Y2 := hide (Y1.out.below hl2)
  have c2 := X2.out.c2
  clear hl2 La CA
  rw [hst] at c2
  clear hst
  go_wp2_with (first | (refine wpList_rload_saga (by rfl) _ (by rfl) (by rfl) X2.out ?_) | (refine wpList_rstore_saga (by rfl) _ _ (by rfl) (by rfl) Y2.out (by rfl) ?_; intro w5 Z5 G5))
  have HLF : Hid (Later w _) := Below.grown L2.out G5 (Below.size L2.out) (fun k hk => by have b1 := Option.some.inj hk; have b2 := HG0.out; omega)
  refine bodyPost_ret (results_box2 Tryz.results35 _ _ (g + 1) 39 _ _ (by rfl) Z5 Tryz.underlying39 (by rfl) (by kernel_rfl) (.int .i64 0) (by rfl)) (by rfl) ?_
  exact ⟨rfl, HLF.out⟩
set_option maxHeartbeats 8000000 in
set_option maxRecDepth 100000 in
theorem rcan_late1 {F : Nat → Prop} {s : SagaD} {l : List StepD} (h : StepsAt F w s.v l) (hw : ∀ x ∈ l, x.wf) (h1 : I64 s.step) (hq : goodF l s = true) (n1 : s.st ≠ 1) (n2 : s.st ≠ 2) : Calls Tryz.prog 35 #[s.val] w (Gives (.tuple #[(s).val, .int .i64 10]) w) := by
  obtain ⟨W1, hW1⟩ : ∃ W1, W1 = (w.alloc (.cells s.cells.toArray 39 (0, 0))).alloc (.cells #[.string ⟨#[]⟩, .slice none 0 0, .int .i64 0, .int .i64 0, .int .i64 0, .bool false, .bool false, .bool false, .bool false, .bool false, .bool false, .bool false, .bool false] 39 (0, 0)) := ⟨_, rfl⟩
  obtain ⟨g, hg⟩ : ∃ g, g = w.heap.size := ⟨_, rfl⟩
  have X1 : Hid (SBox 39 g s W1) := by rw [hW1, hg]; exact (heap_alloc_old _ _ (by simp)).trans (heap_alloc_new _ _)
  have Y1 : Hid (SBox 39 (g + 1) SagaD.zero W1) := by rw [hW1, hg]; exact heap_second _ _ _
  have L1 : Hid (Later w W1) := by rw [hW1]; exact ((Below.refl _ _).alloc (Nat.le_refl _) _).alloc (by simp) _
  have HG0 : Hid (w.heap.size ≤ g) := Nat.le_of_eq hg.symm
  have CA : Hid (Calls Tryz.prog 48 #[s.val] W1 (Gives (.bool true) W1)) := by
    have h9 := rgood_any (StepsAt.kept h (Kept.of_below L1.out _)) hw h1
    rw [hq] at h9
    exact h9
  have xe := X1.out
  rw [hW1, hg] at xe
  have XE := hide xe
  have HW1 := hide hW1.symm
  have HG := hide hg.symm
  clear hW1 hg xe h1 hq h hw
  go_enter Tryz.func35, Tryz.ntmps35
  go_wp2_with (refine wpList_rload_saga (by rfl) _ (by rfl) (by rfl) XE.out ?_; simp only [HW1.out, HG.out])
  refine CA.out.mono ?_
  rintro e w2 ⟨rfl, hl2⟩
  have La : Later w W1 := L1.out
  have L12 : Hid (Later W1 w2) := hl2
  have L2 : Hid (Later w w2) := Later.trans La hl2
  have X2 := hide (X1.out.below hl2)
  have Y2 := hide (Y1.out.below hl2)
  have c2 := X2.out.c2
  clear hl2 La CA
  have e1 : (s.st != 1) = true := by simpa using n1
  have e2 : (s.st == 2) = false := by simpa using n2
  clear n1 n2
  go_upto_region 5 with (fail)
  refine wp_region_L (by kernel_rfl) ?_
  refine wpAnyL_take (i := 0) (d := some 15) (v := ?vaa0) rfl rfl (by kernel_rfl) (by kernel_rfl) (by kernel_rfl) (fun _ _ _ h => h) (by rfl) ?yaa0 ?_
  case yaa0 => (intro w' hw'; go_simp; try (with_reducible rfl))
  simp only [Act.put]; try simp only [sA_, sZ_, sS_]
  refine wpAnyL_take (i := 1) (d := some 16) (v := ?vaa1) rfl rfl (by kernel_rfl) (by kernel_rfl) (by kernel_rfl) (fun _ _ _ h => h) (by rfl) ?yaa1 ?_
  case yaa1 => (intro w' hw'; have k2 := SBox.c2 ((X2.out.below (Later.drew _)).below hw'); go_simp; try (with_reducible rfl))
  simp only [Act.put]; try simp only [sA_, sZ_, sS_]
  refine wpAnyL_take (i := 2) (d := some 17) (v := ?vaa2) rfl rfl (by kernel_rfl) (by kernel_rfl) (by kernel_rfl) (fun _ _ _ h => h) (by rfl) ?yaa2 ?_
  case yaa2 => (intro w' hw'; go_simp; try (with_reducible rfl))
  simp only [Act.put]; try simp only [sA_, sZ_, sS_]
  refine wpAnyL_take (i := 3) (d := some 18) (v := ?vaa3) rfl rfl (by kernel_rfl) (by kernel_rfl) (by kernel_rfl) (fun _ _ _ h => h) (by rfl) ?yaa3 ?_
  case yaa3 => (intro w' hw'; go_simp; try (with_reducible rfl))
  simp only [Act.put]; try simp only [sA_, sZ_, sS_]
  refine wpAnyL_pass (i := 4) (d := some 19) rfl rfl (by kernel_rfl) (by kernel_rfl) (by kernel_rfl) (fun _ _ _ h => h) (by rfl) ?_
  try (simp only [Act.put]; try simp only [sA_, sZ_, sS_])
  refine wpAnyL_pass (i := 5) (d := some 20) rfl rfl (by kernel_rfl) (by kernel_rfl) (by kernel_rfl) (fun _ _ _ h => h) (by rfl) ?_
  try (simp only [Act.put]; try simp only [sA_, sZ_, sS_])
  refine wpAnyL_pass (i := 6) (d := some 21) rfl rfl (by kernel_rfl) (by kernel_rfl) (by kernel_rfl) (fun _ _ _ h => h) (by rfl) ?_
  try (simp only [Act.put]; try simp only [sA_, sZ_, sS_])
  refine wpAnyL_pass (i := 7) (d := some 22) rfl rfl (by kernel_rfl) (by kernel_rfl) (by kernel_rfl) (fun _ _ _ h => h) (by rfl) ?_
  try (simp only [Act.put]; try simp only [sA_, sZ_, sS_])
  refine wpAnyL_pass (i := 8) (d := some 23) rfl rfl (by kernel_rfl) (by kernel_rfl) (by kernel_rfl) (fun _ _ _ h => h) (by rfl) ?_
  try (simp only [Act.put]; try simp only [sA_, sZ_, sS_])
  refine wpAnyL_take (i := 9) (d := some 24) (v := ?vaa9) rfl rfl (by kernel_rfl) (by kernel_rfl) (by kernel_rfl) (fun _ _ _ h => h) (by rfl) ?yaa9 ?_
  case yaa9 => (intro w' hw'; go_simp; try (with_reducible rfl))
  simp only [Act.put]; try simp only [sA_, sZ_, sS_]
  refine wpAnyL_take (i := 10) (d := some 25) (v := ?vaa10) rfl rfl (by kernel_rfl) (by kernel_rfl) (by kernel_rfl) (fun _ _ _ h => h) (by rfl) ?yaa10 ?_
  case yaa10 => (intro w' hw'; go_simp; try (with_reducible rfl))
  simp only [Act.put]; try simp only [sA_, sZ_, sS_]
  refine wpAnyL_pass (i := 11) (d := some 26) rfl rfl (by kernel_rfl) (by kernel_rfl) (by kernel_rfl) (fun _ _ _ h => h) (by rfl) ?_
  try (simp only [Act.put]; try simp only [sA_, sZ_, sS_])
  refine wpAnyL_pass (i := 12) (d := some 27) rfl rfl (by kernel_rfl) (by kernel_rfl) (by kernel_rfl) (fun _ _ _ h => h) (by rfl) ?_
  try (simp only [Act.put]; try simp only [sA_, sZ_, sS_])
  refine wpAnyL_pass (i := 13) (d := some 28) rfl rfl (by kernel_rfl) (by kernel_rfl) (by kernel_rfl) (fun _ _ _ h => h) (by rfl) ?_
  try (simp only [Act.put]; try simp only [sA_, sZ_, sS_])
  refine wpAnyL_pass (i := 14) (d := some 29) rfl rfl (by kernel_rfl) (by kernel_rfl) (by kernel_rfl) (fun _ _ _ h => h) (by rfl) ?_
  try (simp only [Act.put]; try simp only [sA_, sZ_, sS_])
  refine wpAnyL_pass (i := 15) (d := some 30) rfl rfl (by kernel_rfl) (by kernel_rfl) (by kernel_rfl) (fun _ _ _ h => h) (by rfl) ?_
  try (simp only [Act.put]; try simp only [sA_, sZ_, sS_])
  refine wpAnyL_pass (i := 16) (d := some 31) rfl rfl (by kernel_rfl) (by kernel_rfl) (by kernel_rfl) (fun _ _ _ h => h) (by rfl) ?_
  try (simp only [Act.put]; try simp only [sA_, sZ_, sS_])
  refine wpAnyL_pass (i := 17) (d := some 32) rfl rfl (by kernel_rfl) (by kernel_rfl) (by kernel_rfl) (fun _ _ _ h => h) (by rfl) ?_
  try (simp only [Act.put]; try simp only [sA_, sZ_, sS_])
  refine wpAnyL_pass (i := 18) (d := some 33) rfl rfl (by kernel_rfl) (by kernel_rfl) (by kernel_rfl) (fun _ _ _ h => h) (by rfl) ?_
  try (simp only [Act.put]; try simp only [sA_, sZ_, sS_])
  refine wpAnyL_pass (i := 19) (d := some 34) rfl rfl (by kernel_rfl) (by kernel_rfl) (by kernel_rfl) (fun _ _ _ h => h) (by rfl) ?_
  try (simp only [Act.put]; try simp only [sA_, sZ_, sS_])
  refine wpAnyL_take (i := 20) (d := some 35) (v := ?vaa20) rfl rfl (by kernel_rfl) (by kernel_rfl) (by kernel_rfl) (fun _ _ _ h => h) (by rfl) ?yaa20 ?_
  case yaa20 => (intro w' hw'; go_simp; try (with_reducible rfl))
  simp only [Act.put]; try simp only [sA_, sZ_, sS_]
  refine wpAnyL_take (i := 21) (d := some 14) (v := ?vaa21) rfl rfl (by kernel_rfl) (by kernel_rfl) (by kernel_rfl) (fun _ _ _ h => h) (by rfl) ?yaa21 ?_
  case yaa21 => (intro w' hw'; go_simp; try (with_reducible rfl))
  simp only [Act.put]; try simp only [sA_, sZ_, sS_]
  refine wpAnyL_done (by kernel_rfl) ?_ _
  have XF : Hid (SBox 39 g s w2.drew) := X2.out.below (Later.drew _)
  have YF : Hid (SBox 39 (g + 1) SagaD.zero w2.drew) := Y2.out.below (Later.drew _)
  have LF : Hid (Later w w2.drew) := Later.trans (show Later w w2 from L2.out) (Later.drew _)
  clear c2
  go_wp2_with (first | (refine wpList_rload_saga (by rfl) _ (by rfl) (by rfl) XF.out ?_) | (refine wpList_rstore_saga (by rfl) _ _ (by rfl) (by rfl) YF.out (by rfl) ?_; intro w5 Z5 G5))
  have HLF : Hid (Later w _) := Below.grown LF.out G5 (Below.size LF.out) (fun k hk => by have b1 := Option.some.inj hk; have b2 := HG0.out; omega)
  refine bodyPost_ret (results_box2 Tryz.results35 _ _ (g + 1) 39 _ _ (by rfl) Z5 Tryz.underlying39 (by rfl) (by kernel_rfl) (.int .i64 10) (by rfl)) (by rfl) ?_
  exact ⟨rfl, HLF.out⟩
set_option maxHeartbeats 8000000 in
set_option maxRecDepth 100000 in
theorem rcan_late2 {F : Nat → Prop} {s : SagaD} {l : List StepD} (h : StepsAt F w s.v l) (hw : ∀ x ∈ l, x.wf) (h1 : I64 s.step) (hl : l.length ≤ 1000) (hq : goodF l s = true) (hst : s.st = 1) (hse : sealedS l s = true) : Calls Tryz.prog 35 #[s.val] w (Gives (.tuple #[(s).val, .int .i64 10]) w) := by
  obtain ⟨W1, hW1⟩ : ∃ W1, W1 = (w.alloc (.cells s.cells.toArray 39 (0, 0))).alloc (.cells #[.string ⟨#[]⟩, .slice none 0 0, .int .i64 0, .int .i64 0, .int .i64 0, .bool false, .bool false, .bool false, .bool false, .bool false, .bool false, .bool false, .bool false] 39 (0, 0)) := ⟨_, rfl⟩
  obtain ⟨g, hg⟩ : ∃ g, g = w.heap.size := ⟨_, rfl⟩
  have X1 : Hid (SBox 39 g s W1) := by rw [hW1, hg]; exact (heap_alloc_old _ _ (by simp)).trans (heap_alloc_new _ _)
  have Y1 : Hid (SBox 39 (g + 1) SagaD.zero W1) := by rw [hW1, hg]; exact heap_second _ _ _
  have L1 : Hid (Later w W1) := by rw [hW1]; exact ((Below.refl _ _).alloc (Nat.le_refl _) _).alloc (by simp) _
  have HG0 : Hid (w.heap.size ≤ g) := Nat.le_of_eq hg.symm
  have CA : Hid (Calls Tryz.prog 48 #[s.val] W1 (Gives (.bool true) W1)) := by
    have h9 := rgood_any (StepsAt.kept h (Kept.of_below L1.out _)) hw h1
    rw [hq] at h9
    exact h9
  have xe := X1.out
  rw [hW1, hg] at xe
  have XE := hide xe
  have HW1 := hide hW1.symm
  have HG := hide hg.symm
  clear hW1 hg xe h1 hq hw
  go_enter Tryz.func35, Tryz.ntmps35
  go_wp2_with (refine wpList_rload_saga (by rfl) _ (by rfl) (by rfl) XE.out ?_; simp only [HW1.out, HG.out])
  refine CA.out.mono ?_
  rintro e w2 ⟨rfl, hl2⟩
  have La : Later w W1 := L1.out
  have L12 : Hid (Later W1 w2) := hl2
  have L2 : Hid (Later w w2) := Later.trans La hl2
  have X2 := hide (X1.out.below hl2)
  have Y2 := hide (Y1.out.below hl2)
  have c2 := X2.out.c2
  clear hl2 La CA
  have CS : Hid (∀ W, Later w2 W → Calls Tryz.prog 67 #[.agg #[.string s.name, .slice s.p s.n s.c], .slice (some ⟨g, 5, none⟩) 8 8] W fun e w' => e = .returned (.bool true) ∧ Later W w') := fun W hW => by
    have hb : Later w W := Later.trans (show Later w w2 from L2.out) hW
    have h9 := rsealed_any (name := s.name) (StepsAt.kept h (Kept.of_below hb _)) hl (X2.out.below hW).bools
    rw [show sealedF l s.hit.l = true from hse] at h9
    exact h9
  have HST := hide hst
  rw [hst] at c2
  clear hst h hl hse
  go_upto_region 5 with (fail)
  refine wp_region_L (by kernel_rfl) ?_
  refine wpAnyL_take (i := 0) (d := some 15) (v := ?vaa0) rfl rfl (by kernel_rfl) (by kernel_rfl) (by kernel_rfl) (fun _ _ _ h => h) (by rfl) ?yaa0 ?_
  case yaa0 => (intro w' hw'; go_simp; try (with_reducible rfl))
  simp only [Act.put]; try simp only [sA_, sZ_, sS_]
  refine wpAnyL_take (i := 1) (d := some 16) (v := ?vaa1) rfl rfl (by kernel_rfl) (by kernel_rfl) (by kernel_rfl) (fun _ _ _ h => h) (by rfl) ?yaa1 ?_
  case yaa1 => (intro w' hw'; have k2 := SBox.c2 ((X2.out.below (Later.drew _)).below hw'); rw [HST.out] at k2; go_simp; try (with_reducible rfl))
  simp only [Act.put]; try simp only [sA_, sZ_, sS_]
  refine wpAnyL_take (i := 2) (d := some 17) (v := ?vaa2) rfl rfl (by kernel_rfl) (by kernel_rfl) (by kernel_rfl) (fun _ _ _ h => h) (by rfl) ?yaa2 ?_
  case yaa2 => (intro w' hw'; go_simp; try (with_reducible rfl))
  simp only [Act.put]; try simp only [sA_, sZ_, sS_]
  refine wpAnyL_take (i := 3) (d := some 18) (v := ?vaa3) rfl rfl (by kernel_rfl) (by kernel_rfl) (by kernel_rfl) (fun _ _ _ h => h) (by rfl) ?yaa3 ?_
  case yaa3 => (intro w' hw'; go_simp; try (with_reducible rfl))
  simp only [Act.put]; try simp only [sA_, sZ_, sS_]
  refine wpAnyL_take (i := 4) (d := some 19) (v := ?vaa4) rfl rfl (by kernel_rfl) (by kernel_rfl) (by kernel_rfl) (fun _ _ _ h => h) (by rfl) ?yaa4 ?_
  case yaa4 => (intro w' hw'; go_simp; try (with_reducible rfl))
  simp only [Act.put]; try simp only [sA_, sZ_, sS_]
  refine wpAnyL_take (i := 5) (d := some 20) (v := .agg #[.string s.name, .slice s.p s.n s.c]) rfl rfl (by kernel_rfl) (by kernel_rfl) (by kernel_rfl) (fun _ _ _ h => h) (by rfl) ?yaa5 ?_
  case yaa5 => (intro w' hw'; exact exec_load_box 31 _ (by rfl) g 0 (by rfl) _ _ (show SBox 39 g s w' from ((X2.out.below (Later.drew _)).below hw')) 2 _ Tryz.underlying31 (by rfl) (by kernel_rfl) [.string s.name, .slice s.p s.n s.c] (by rfl) (by rfl))
  simp only [Act.put]; try simp only [sA_, sZ_, sS_]
  refine wpAnyL_take (i := 6) (d := some 21) (v := ?vaa6) rfl rfl (by kernel_rfl) (by kernel_rfl) (by kernel_rfl) (fun _ _ _ h => h) (by rfl) ?yaa6 ?_
  case yaa6 => (intro w' hw'; go_simp; try (with_reducible rfl))
  simp only [Act.put]; try simp only [sA_, sZ_, sS_]
  refine wpAnyL_take (i := 7) (d := some 22) (v := .slice (some ⟨g, 5, none⟩) 8 8) rfl rfl (by kernel_rfl) (by kernel_rfl) (by kernel_rfl) (fun _ _ _ h => h) (by rfl) ?yaa7 ?_
  case yaa7 => (intro w' hw'; go_simp; try (with_reducible rfl))
  simp only [Act.put]; try simp only [sA_, sZ_, sS_]
  refine wpAnyL_only (i := 8) rfl (by kernel_rfl) (by rfl) fun K hK => ?_
  go_simp
  refine (CS.out _ (Later.drew _)).mono ?_
  rintro e w_4 ⟨rfl, hl_⟩
  have hd1 : Later w2 w2.drew := Later.drew _
  have hd2 : Later w2 w_4 := Later.trans hd1 hl_
  have L24 : Hid (Later w2 w_4) := hd2
  have X24 := hide (X2.out.below hd2)
  have hd0 : Later w w2 := L2.out
  have L4 : Hid (Later w w_4) := Later.trans hd0 hd2
  refine hK.out _ _ hl_ ?_
  clear hl_ hd1 hd2 hd0
  clear hK K
  try (simp only [Act.put]; try simp only [sA_, sZ_, sS_])
  refine wpAnyL_take (i := 9) (d := some 24) (v := ?vaa9) rfl rfl (by kernel_rfl) (by kernel_rfl) (by kernel_rfl) (fun _ _ _ h => h) (by rfl) ?yaa9 ?_
  case yaa9 => (intro w' hw'; go_simp; try (with_reducible rfl))
  simp only [Act.put]; try simp only [sA_, sZ_, sS_]
  refine wpAnyL_take (i := 10) (d := some 25) (v := ?vaa10) rfl rfl (by kernel_rfl) (by kernel_rfl) (by kernel_rfl) (fun _ _ _ h => h) (by rfl) ?yaa10 ?_
  case yaa10 => (intro w' hw'; go_simp; try (with_reducible rfl))
  simp only [Act.put]; try simp only [sA_, sZ_, sS_]
  refine wpAnyL_pass (i := 11) (d := some 26) rfl rfl (by kernel_rfl) (by kernel_rfl) (by kernel_rfl) (fun _ _ _ h => h) (by rfl) ?_
  try (simp only [Act.put]; try simp only [sA_, sZ_, sS_])
  refine wpAnyL_pass (i := 12) (d := some 27) rfl rfl (by kernel_rfl) (by kernel_rfl) (by kernel_rfl) (fun _ _ _ h => h) (by rfl) ?_
  try (simp only [Act.put]; try simp only [sA_, sZ_, sS_])
  refine wpAnyL_pass (i := 13) (d := some 28) rfl rfl (by kernel_rfl) (by kernel_rfl) (by kernel_rfl) (fun _ _ _ h => h) (by rfl) ?_
  try (simp only [Act.put]; try simp only [sA_, sZ_, sS_])
  refine wpAnyL_pass (i := 14) (d := some 29) rfl rfl (by kernel_rfl) (by kernel_rfl) (by kernel_rfl) (fun _ _ _ h => h) (by rfl) ?_
  try (simp only [Act.put]; try simp only [sA_, sZ_, sS_])
  refine wpAnyL_pass (i := 15) (d := some 30) rfl rfl (by kernel_rfl) (by kernel_rfl) (by kernel_rfl) (fun _ _ _ h => h) (by rfl) ?_
  try (simp only [Act.put]; try simp only [sA_, sZ_, sS_])
  refine wpAnyL_pass (i := 16) (d := some 31) rfl rfl (by kernel_rfl) (by kernel_rfl) (by kernel_rfl) (fun _ _ _ h => h) (by rfl) ?_
  try (simp only [Act.put]; try simp only [sA_, sZ_, sS_])
  refine wpAnyL_pass (i := 17) (d := some 32) rfl rfl (by kernel_rfl) (by kernel_rfl) (by kernel_rfl) (fun _ _ _ h => h) (by rfl) ?_
  try (simp only [Act.put]; try simp only [sA_, sZ_, sS_])
  refine wpAnyL_pass (i := 18) (d := some 33) rfl rfl (by kernel_rfl) (by kernel_rfl) (by kernel_rfl) (fun _ _ _ h => h) (by rfl) ?_
  try (simp only [Act.put]; try simp only [sA_, sZ_, sS_])
  refine wpAnyL_pass (i := 19) (d := some 34) rfl rfl (by kernel_rfl) (by kernel_rfl) (by kernel_rfl) (fun _ _ _ h => h) (by rfl) ?_
  try (simp only [Act.put]; try simp only [sA_, sZ_, sS_])
  refine wpAnyL_take (i := 20) (d := some 35) (v := ?vaa20) rfl rfl (by kernel_rfl) (by kernel_rfl) (by kernel_rfl) (fun _ _ _ h => h) (by rfl) ?yaa20 ?_
  case yaa20 => (intro w' hw'; go_simp; try (with_reducible rfl))
  simp only [Act.put]; try simp only [sA_, sZ_, sS_]
  refine wpAnyL_take (i := 21) (d := some 14) (v := ?vaa21) rfl rfl (by kernel_rfl) (by kernel_rfl) (by kernel_rfl) (fun _ _ _ h => h) (by rfl) ?yaa21 ?_
  case yaa21 => (intro w' hw'; go_simp; try (with_reducible rfl))
  simp only [Act.put]; try simp only [sA_, sZ_, sS_]
  refine wpAnyL_done (by kernel_rfl) ?_ _
  have XF := hide (X2.out.below L24.out)
  have YF := hide (Y2.out.below L24.out)
  clear c2
  go_wp2_with (first | (refine wpList_rload_saga (by rfl) _ (by rfl) (by rfl) XF.out ?_) | (refine wpList_rstore_saga (by rfl) _ _ (by rfl) (by rfl) YF.out (by rfl) ?_; intro w5 Z5 G5))
  have HLF : Hid (Later w _) := Below.grown L4.out G5 (Below.size L4.out) (fun k hk => by have b1 := Option.some.inj hk; have b2 := HG0.out; omega)
  refine bodyPost_ret (results_box2 Tryz.results35 _ _ (g + 1) 39 _ _ (by rfl) Z5 Tryz.underlying39 (by rfl) (by kernel_rfl) (.int .i64 10) (by rfl)) (by rfl) ?_
  exact ⟨rfl, HLF.out⟩
set_option maxHeartbeats 8000000 in
set_option maxRecDepth 100000 in
theorem rcan_late3 {F : Nat → Prop} {s : SagaD} {l : List StepD} (h : StepsAt F w s.v l) (hw : ∀ x ∈ l, x.wf) (h1 : I64 s.step) (hl : l.length ≤ 1000) (hq : goodF l s = true) (hst : s.st = 1) (hse : sealedS l s = false) (hp : s.step = ((pivotN l : Nat) : Int)) (p1 : 1 ≤ s.step) (p8 : s.step ≤ (l.length : Int)) (h8 : l.length ≤ 8) : Calls Tryz.prog 35 #[s.val] w (Gives (.tuple #[(s).val, .int .i64 10]) w) := by
  obtain ⟨W1, hW1⟩ : ∃ W1, W1 = (w.alloc (.cells s.cells.toArray 39 (0, 0))).alloc (.cells #[.string ⟨#[]⟩, .slice none 0 0, .int .i64 0, .int .i64 0, .int .i64 0, .bool false, .bool false, .bool false, .bool false, .bool false, .bool false, .bool false, .bool false] 39 (0, 0)) := ⟨_, rfl⟩
  obtain ⟨g, hg⟩ : ∃ g, g = w.heap.size := ⟨_, rfl⟩
  have X1 : Hid (SBox 39 g s W1) := by rw [hW1, hg]; exact (heap_alloc_old _ _ (by simp)).trans (heap_alloc_new _ _)
  have Y1 : Hid (SBox 39 (g + 1) SagaD.zero W1) := by rw [hW1, hg]; exact heap_second _ _ _
  have L1 : Hid (Later w W1) := by rw [hW1]; exact ((Below.refl _ _).alloc (Nat.le_refl _) _).alloc (by simp) _
  have HG0 : Hid (w.heap.size ≤ g) := Nat.le_of_eq hg.symm
  have CA : Hid (Calls Tryz.prog 48 #[s.val] W1 (Gives (.bool true) W1)) := by
    have h9 := rgood_any (StepsAt.kept h (Kept.of_below L1.out _)) hw h1
    rw [hq] at h9
    exact h9
  obtain ⟨k, hk8, hks⟩ : ∃ k : Nat, k < l.length ∧ s.step = (k : Int) + 1 := ⟨(s.step - 1).toNat, by omega, by omega⟩
  have HKS := hide hks
  have HPC : Hid (∃ B off c, s.v = .slice (some ⟨B, off, none⟩) l.length c ∧ l.length ≤ c ∧ ∀ W, Later w W → W.cell? ⟨B, off + k * 6 + 5, none⟩ = some (.bool true)) := by
    obtain ⟨sx, B, off, c, hx, hv, hc, _, hb, hr⟩ := StepsAt.at_ h hk8
    refine ⟨B, off, c, hv, hc, fun W hW => ?_⟩
    have h5 := hr 5 (.bool sx.pivot) (by rfl)
    rw [pivot_is (check_of_good hq) hx, ← hks, decide_eq_true hp] at h5
    exact (Below.cell hW (p := ⟨B, off + k * 6 + 5, none⟩) hb).trans h5
  obtain ⟨B, off, c, hsv, hcl, hpc⟩ := HPC.out
  have HP := hide hpc
  have HSV : Hid (∀ W, SBox 39 g s W → W.cell? ⟨g, 1, none⟩ = some (.slice (some ⟨B, off, none⟩) l.length c)) := fun W hW => by rw [← hsv]; exact hW.c1
  have HLC := hide hcl
  clear hpc hsv hcl HPC
  have xe := X1.out
  rw [hW1, hg] at xe
  have XE := hide xe
  have HW1 := hide hW1.symm
  have HG := hide hg.symm
  clear hW1 hg xe h1 hq hw
  go_enter Tryz.func35, Tryz.ntmps35
  go_wp2_with (refine wpList_rload_saga (by rfl) _ (by rfl) (by rfl) XE.out ?_; simp only [HW1.out, HG.out])
  refine CA.out.mono ?_
  rintro e w2 ⟨rfl, hl2⟩
  have La : Later w W1 := L1.out
  have L12 : Hid (Later W1 w2) := hl2
  have L2 : Hid (Later w w2) := Later.trans La hl2
  have X2 := hide (X1.out.below hl2)
  have Y2 := hide (Y1.out.below hl2)
  have c2 := X2.out.c2
  clear hl2 La CA
  have CS : Hid (∀ W, Later w2 W → Calls Tryz.prog 67 #[.agg #[.string s.name, .slice s.p s.n s.c], .slice (some ⟨g, 5, none⟩) 8 8] W fun e w' => e = .returned (.bool false) ∧ Later W w') := fun W hW => by
    have hb : Later w W := Later.trans (show Later w w2 from L2.out) hW
    have h9 := rsealed_any (name := s.name) (StepsAt.kept h (Kept.of_below hb _)) hl (X2.out.below hW).bools
    rw [show sealedF l s.hit.l = false from hse] at h9
    exact h9
  have HST := hide hst
  rw [hst] at c2
  obtain ⟨n9, hn9⟩ : ∃ n, l.length = n := ⟨_, rfl⟩
  rw [hn9] at hk8 HSV h8
  have HH8 := hide h8
  clear hst h hl hse hp p1 p8 hks hn9 HLC
  go_upto_region 5 with (fail)
  refine wp_region_L (by kernel_rfl) ?_
  refine wpAnyL_take (i := 0) (d := some 15) (v := ?vaa0) rfl rfl (by kernel_rfl) (by kernel_rfl) (by kernel_rfl) (fun _ _ _ h => h) (by rfl) ?yaa0 ?_
  case yaa0 => (intro w' hw'; go_simp; try (with_reducible rfl))
  simp only [Act.put]; try simp only [sA_, sZ_, sS_]
  refine wpAnyL_take (i := 1) (d := some 16) (v := ?vaa1) rfl rfl (by kernel_rfl) (by kernel_rfl) (by kernel_rfl) (fun _ _ _ h => h) (by rfl) ?yaa1 ?_
  case yaa1 => (intro w' hw'; have k2 := SBox.c2 ((X2.out.below (Later.drew _)).below hw'); rw [HST.out] at k2; go_simp; try (with_reducible rfl))
  simp only [Act.put]; try simp only [sA_, sZ_, sS_]
  refine wpAnyL_take (i := 2) (d := some 17) (v := ?vaa2) rfl rfl (by kernel_rfl) (by kernel_rfl) (by kernel_rfl) (fun _ _ _ h => h) (by rfl) ?yaa2 ?_
  case yaa2 => (intro w' hw'; go_simp; try (with_reducible rfl))
  simp only [Act.put]; try simp only [sA_, sZ_, sS_]
  refine wpAnyL_take (i := 3) (d := some 18) (v := ?vaa3) rfl rfl (by kernel_rfl) (by kernel_rfl) (by kernel_rfl) (fun _ _ _ h => h) (by rfl) ?yaa3 ?_
  case yaa3 => (intro w' hw'; go_simp; try (with_reducible rfl))
  simp only [Act.put]; try simp only [sA_, sZ_, sS_]
  refine wpAnyL_take (i := 4) (d := some 19) (v := ?vaa4) rfl rfl (by kernel_rfl) (by kernel_rfl) (by kernel_rfl) (fun _ _ _ h => h) (by rfl) ?yaa4 ?_
  case yaa4 => (intro w' hw'; go_simp; try (with_reducible rfl))
  simp only [Act.put]; try simp only [sA_, sZ_, sS_]
  refine wpAnyL_take (i := 5) (d := some 20) (v := .agg #[.string s.name, .slice s.p s.n s.c]) rfl rfl (by kernel_rfl) (by kernel_rfl) (by kernel_rfl) (fun _ _ _ h => h) (by rfl) ?yaa5 ?_
  case yaa5 => (intro w' hw'; exact exec_load_box 31 _ (by rfl) g 0 (by rfl) _ _ (show SBox 39 g s w' from ((X2.out.below (Later.drew _)).below hw')) 2 _ Tryz.underlying31 (by rfl) (by kernel_rfl) [.string s.name, .slice s.p s.n s.c] (by rfl) (by rfl))
  simp only [Act.put]; try simp only [sA_, sZ_, sS_]
  refine wpAnyL_take (i := 6) (d := some 21) (v := ?vaa6) rfl rfl (by kernel_rfl) (by kernel_rfl) (by kernel_rfl) (fun _ _ _ h => h) (by rfl) ?yaa6 ?_
  case yaa6 => (intro w' hw'; go_simp; try (with_reducible rfl))
  simp only [Act.put]; try simp only [sA_, sZ_, sS_]
  refine wpAnyL_take (i := 7) (d := some 22) (v := .slice (some ⟨g, 5, none⟩) 8 8) rfl rfl (by kernel_rfl) (by kernel_rfl) (by kernel_rfl) (fun _ _ _ h => h) (by rfl) ?yaa7 ?_
  case yaa7 => (intro w' hw'; go_simp; try (with_reducible rfl))
  simp only [Act.put]; try simp only [sA_, sZ_, sS_]
  refine wpAnyL_only (i := 8) rfl (by kernel_rfl) (by rfl) fun K hK => ?_
  go_simp
  refine (CS.out _ (Later.drew _)).mono ?_
  rintro e w_4 ⟨rfl, hl_⟩
  have hd1 : Later w2 w2.drew := Later.drew _
  have hd2 : Later w2 w_4 := Later.trans hd1 hl_
  have L24 : Hid (Later w2 w_4) := hd2
  have X24 := hide (X2.out.below hd2)
  have hd0 : Later w w2 := L2.out
  have L4 : Hid (Later w w_4) := Later.trans hd0 hd2
  refine hK.out _ _ hl_ ?_
  clear hl_ hd1 hd2 hd0
  clear hK K
  try (simp only [Act.put]; try simp only [sA_, sZ_, sS_])
  refine wpAnyL_take (i := 9) (d := some 24) (v := ?vaa9) rfl rfl (by kernel_rfl) (by kernel_rfl) (by kernel_rfl) (fun _ _ _ h => h) (by rfl) ?yaa9 ?_
  case yaa9 => (intro w' hw'; go_simp; try (with_reducible rfl))
  simp only [Act.put]; try simp only [sA_, sZ_, sS_]
  refine wpAnyL_take (i := 10) (d := some 25) (v := ?vaa10) rfl rfl (by kernel_rfl) (by kernel_rfl) (by kernel_rfl) (fun _ _ _ h => h) (by rfl) ?yaa10 ?_
  case yaa10 => (intro w' hw'; go_simp; try (with_reducible rfl))
  simp only [Act.put]; try simp only [sA_, sZ_, sS_]
  refine wpAnyL_take (i := 11) (d := some 26) (v := ?vaa11) rfl rfl (by kernel_rfl) (by kernel_rfl) (by kernel_rfl) (fun _ _ _ h => h) (by rfl) ?yaa11 ?_
  case yaa11 => (intro w' hw'; go_simp; try (with_reducible rfl))
  simp only [Act.put]; try simp only [sA_, sZ_, sS_]
  refine wpAnyL_take (i := 12) (d := some 27) (v := ?vaa12) rfl rfl (by kernel_rfl) (by kernel_rfl) (by kernel_rfl) (fun _ _ _ h => h) (by rfl) ?yaa12 ?_
  case yaa12 => (intro w' hw'; go_simp; try (with_reducible rfl))
  simp only [Act.put]; try simp only [sA_, sZ_, sS_]
  refine wpAnyL_take (i := 13) (d := some 28) (v := ?vaa13) rfl rfl (by kernel_rfl) (by kernel_rfl) (by kernel_rfl) (fun _ _ _ h => h) (by rfl) ?yaa13 ?_
  case yaa13 => (intro w' hw'; have k1 := HSV.out _ (X24.out.below hw'); go_simp; try (with_reducible rfl))
  simp only [Act.put]; try simp only [sA_, sZ_, sS_]
  refine wpAnyL_take (i := 14) (d := some 29) (v := ?vaa14) rfl rfl (by kernel_rfl) (by kernel_rfl) (by kernel_rfl) (fun _ _ _ h => h) (by rfl) ?yaa14 ?_
  case yaa14 => (intro w' hw'; go_simp; try (with_reducible rfl))
  simp only [Act.put]; try simp only [sA_, sZ_, sS_]
  refine wpAnyL_take (i := 15) (d := some 30) (v := ?vaa15) rfl rfl (by kernel_rfl) (by kernel_rfl) (by kernel_rfl) (fun _ _ _ h => h) (by rfl) ?yaa15 ?_
  case yaa15 => (intro w' hw'; have k3 := SBox.c3 (X24.out.below hw'); rw [HKS.out] at k3; go_simp; try (with_reducible rfl))
  simp only [Act.put]; try simp only [sA_, sZ_, sS_]
  refine wpAnyL_take (i := 16) (d := some 31) (v := .int .i64 (k : Int)) rfl rfl (by kernel_rfl) (by kernel_rfl) (by kernel_rfl) (fun _ _ _ h => h) (by rfl) ?yaa16 ?_
  case yaa16 => (intro w' hw'; go_simp; first | exact IntWalk.i64_in (k : Int) (by omega) | (rw [IntWalk.i64_in (k : Int) (by omega)]))
  simp only [Act.put]; try simp only [sA_, sZ_, sS_]
  refine wpAnyL_take (i := 17) (d := some 32) (v := ?vaa17) rfl rfl (by kernel_rfl) (by kernel_rfl) (by kernel_rfl) (fun _ _ _ h => h) (by rfl) ?yaa17 ?_
  case yaa17 => (intro w' hw'; go_simp; try (with_reducible rfl))
  simp only [Act.put]; try simp only [sA_, sZ_, sS_]
  refine wpAnyL_take (i := 18) (d := some 33) (v := ?vaa18) rfl rfl (by kernel_rfl) (by kernel_rfl) (by kernel_rfl) (fun _ _ _ h => h) (by rfl) ?yaa18 ?_
  case yaa18 => (intro w' hw'; go_simp; try (with_reducible rfl))
  simp only [Act.put]; try simp only [sA_, sZ_, sS_]
  refine wpAnyL_take (i := 19) (d := some 34) (v := ?vaa19) rfl rfl (by kernel_rfl) (by kernel_rfl) (by kernel_rfl) (fun _ _ _ h => h) (by rfl) ?yaa19 ?_
  case yaa19 => (intro w' hw'; have k5 := HP.out w' (Later.trans (show Later w w_4 from L4.out) hw'); go_simp; try (with_reducible rfl))
  simp only [Act.put]; try simp only [sA_, sZ_, sS_]
  refine wpAnyL_take (i := 20) (d := some 35) (v := ?vaa20) rfl rfl (by kernel_rfl) (by kernel_rfl) (by kernel_rfl) (fun _ _ _ h => h) (by rfl) ?yaa20 ?_
  case yaa20 => (intro w' hw'; go_simp; try (with_reducible rfl))
  simp only [Act.put]; try simp only [sA_, sZ_, sS_]
  refine wpAnyL_take (i := 21) (d := some 14) (v := ?vaa21) rfl rfl (by kernel_rfl) (by kernel_rfl) (by kernel_rfl) (fun _ _ _ h => h) (by rfl) ?yaa21 ?_
  case yaa21 => (intro w' hw'; go_simp; try (with_reducible rfl))
  simp only [Act.put]; try simp only [sA_, sZ_, sS_]
  refine wpAnyL_done (by kernel_rfl) ?_ _
  have XF := hide (X2.out.below L24.out)
  have YF := hide (Y2.out.below L24.out)
  clear c2
  go_wp2_with (first | (refine wpList_rload_saga (by rfl) _ (by rfl) (by rfl) XF.out ?_) | (refine wpList_rstore_saga (by rfl) _ _ (by rfl) (by rfl) YF.out (by rfl) ?_; intro w5 Z5 G5))
  have HLF : Hid (Later w _) := Below.grown L4.out G5 (Below.size L4.out) (fun k hk => by have b1 := Option.some.inj hk; have b2 := HG0.out; omega)
  refine bodyPost_ret (results_box2 Tryz.results35 _ _ (g + 1) 39 _ _ (by rfl) Z5 Tryz.underlying39 (by rfl) (by kernel_rfl) (.int .i64 10) (by rfl)) (by rfl) ?_
  exact ⟨rfl, HLF.out⟩
set_option maxHeartbeats 8000000 in
set_option maxRecDepth 100000 in
theorem rcan_ok {F : Nat → Prop} {s : SagaD} {l : List StepD} (h : StepsAt F w s.v l) (hw : ∀ x ∈ l, x.wf) (h1 : I64 s.step) (hl : l.length ≤ 1000) (hq : goodF l s = true) (hst : s.st = 1) (hse : sealedS l s = false) (hp : s.step ≠ ((pivotN l : Nat) : Int)) (p1 : 1 ≤ s.step) (p8 : s.step ≤ (l.length : Int)) (h8 : l.length ≤ 8) : Calls Tryz.prog 35 #[s.val] w (Gives (.tuple #[(failsS l (s.hitN true)).val, .int .i64 0]) w) := by
  obtain ⟨W1, hW1⟩ : ∃ W1, W1 = (w.alloc (.cells s.cells.toArray 39 (0, 0))).alloc (.cells #[.string ⟨#[]⟩, .slice none 0 0, .int .i64 0, .int .i64 0, .int .i64 0, .bool false, .bool false, .bool false, .bool false, .bool false, .bool false, .bool false, .bool false] 39 (0, 0)) := ⟨_, rfl⟩
  obtain ⟨g, hg⟩ : ∃ g, g = w.heap.size := ⟨_, rfl⟩
  have X1 : Hid (SBox 39 g s W1) := by rw [hW1, hg]; exact (heap_alloc_old _ _ (by simp)).trans (heap_alloc_new _ _)
  have Y1 : Hid (SBox 39 (g + 1) SagaD.zero W1) := by rw [hW1, hg]; exact heap_second _ _ _
  have L1 : Hid (Later w W1) := by rw [hW1]; exact ((Below.refl _ _).alloc (Nat.le_refl _) _).alloc (by simp) _
  have HG0 : Hid (w.heap.size ≤ g) := Nat.le_of_eq hg.symm
  have CA : Hid (Calls Tryz.prog 48 #[s.val] W1 (Gives (.bool true) W1)) := by
    have h9 := rgood_any (StepsAt.kept h (Kept.of_below L1.out _)) hw h1
    rw [hq] at h9
    exact h9
  obtain ⟨k, hk8, hks⟩ : ∃ k : Nat, k < l.length ∧ s.step = (k : Int) + 1 := ⟨(s.step - 1).toNat, by omega, by omega⟩
  have HKS := hide hks
  have HPC : Hid (∃ B off c, s.v = .slice (some ⟨B, off, none⟩) l.length c ∧ l.length ≤ c ∧ ∀ W, Later w W → W.cell? ⟨B, off + k * 6 + 5, none⟩ = some (.bool false)) := by
    obtain ⟨sx, B, off, c, hx, hv, hc, _, hb, hr⟩ := StepsAt.at_ h hk8
    refine ⟨B, off, c, hv, hc, fun W hW => ?_⟩
    have h5 := hr 5 (.bool sx.pivot) (by rfl)
    rw [pivot_is (check_of_good hq) hx, ← hks, decide_eq_false hp] at h5
    exact (Below.cell hW (p := ⟨B, off + k * 6 + 5, none⟩) hb).trans h5
  obtain ⟨B, off, c, hsv, hcl, hpc⟩ := HPC.out
  have HP := hide hpc
  have HSV : Hid (∀ W, SBox 39 g s W → W.cell? ⟨g, 1, none⟩ = some (.slice (some ⟨B, off, none⟩) l.length c)) := fun W hW => by rw [← hsv]; exact hW.c1
  have HLC := hide hcl
  clear hpc hsv hcl HPC
  have CD : Hid (∀ W, Later w W → Calls Tryz.prog 68 #[(s.hitN true).val] W (Gives (failsS l (s.hitN true)).val W)) := fun W hW => rfailsS_any (s := s.hitN true) (StepsAt.kept h (Kept.of_below hW _)) hl h1
  obtain ⟨D, hD⟩ : ∃ D, failsS l (s.hitN true) = D := ⟨_, rfl⟩
  rw [hD] at CD ⊢
  clear hD
  have xe := X1.out
  rw [hW1, hg] at xe
  have XE := hide xe
  have HW1 := hide hW1.symm
  have HG := hide hg.symm
  clear hW1 hg xe h1 hq hw
  go_enter Tryz.func35, Tryz.ntmps35
  go_wp2_with (refine wpList_rload_saga (by rfl) _ (by rfl) (by rfl) XE.out ?_; simp only [HW1.out, HG.out])
  refine CA.out.mono ?_
  rintro e w2 ⟨rfl, hl2⟩
  have La : Later w W1 := L1.out
  have L12 : Hid (Later W1 w2) := hl2
  have L2 : Hid (Later w w2) := Later.trans La hl2
  have X2 := hide (X1.out.below hl2)
  have Y2 := hide (Y1.out.below hl2)
  have c2 := X2.out.c2
  clear hl2 La CA
  have CS : Hid (∀ W, Later w2 W → Calls Tryz.prog 67 #[.agg #[.string s.name, .slice s.p s.n s.c], .slice (some ⟨g, 5, none⟩) 8 8] W fun e w' => e = .returned (.bool false) ∧ Later W w') := fun W hW => by
    have hb : Later w W := Later.trans (show Later w w2 from L2.out) hW
    have h9 := rsealed_any (name := s.name) (StepsAt.kept h (Kept.of_below hb _)) hl (X2.out.below hW).bools
    rw [show sealedF l s.hit.l = false from hse] at h9
    exact h9
  have HST := hide hst
  rw [hst] at c2
  obtain ⟨n9, hn9⟩ : ∃ n, l.length = n := ⟨_, rfl⟩
  rw [hn9] at hk8 HSV h8
  have HH8 := hide h8
  clear hst h hl hse hp p1 p8 hks hn9 HLC
  go_upto_region 5 with (fail)
  refine wp_region_L (by kernel_rfl) ?_
  refine wpAnyL_take (i := 0) (d := some 15) (v := ?vaa0) rfl rfl (by kernel_rfl) (by kernel_rfl) (by kernel_rfl) (fun _ _ _ h => h) (by rfl) ?yaa0 ?_
  case yaa0 => (intro w' hw'; go_simp; try (with_reducible rfl))
  simp only [Act.put]; try simp only [sA_, sZ_, sS_]
  refine wpAnyL_take (i := 1) (d := some 16) (v := ?vaa1) rfl rfl (by kernel_rfl) (by kernel_rfl) (by kernel_rfl) (fun _ _ _ h => h) (by rfl) ?yaa1 ?_
  case yaa1 => (intro w' hw'; have k2 := SBox.c2 ((X2.out.below (Later.drew _)).below hw'); rw [HST.out] at k2; go_simp; try (with_reducible rfl))
  simp only [Act.put]; try simp only [sA_, sZ_, sS_]
  refine wpAnyL_take (i := 2) (d := some 17) (v := ?vaa2) rfl rfl (by kernel_rfl) (by kernel_rfl) (by kernel_rfl) (fun _ _ _ h => h) (by rfl) ?yaa2 ?_
  case yaa2 => (intro w' hw'; go_simp; try (with_reducible rfl))
  simp only [Act.put]; try simp only [sA_, sZ_, sS_]
  refine wpAnyL_take (i := 3) (d := some 18) (v := ?vaa3) rfl rfl (by kernel_rfl) (by kernel_rfl) (by kernel_rfl) (fun _ _ _ h => h) (by rfl) ?yaa3 ?_
  case yaa3 => (intro w' hw'; go_simp; try (with_reducible rfl))
  simp only [Act.put]; try simp only [sA_, sZ_, sS_]
  refine wpAnyL_take (i := 4) (d := some 19) (v := ?vaa4) rfl rfl (by kernel_rfl) (by kernel_rfl) (by kernel_rfl) (fun _ _ _ h => h) (by rfl) ?yaa4 ?_
  case yaa4 => (intro w' hw'; go_simp; try (with_reducible rfl))
  simp only [Act.put]; try simp only [sA_, sZ_, sS_]
  refine wpAnyL_take (i := 5) (d := some 20) (v := .agg #[.string s.name, .slice s.p s.n s.c]) rfl rfl (by kernel_rfl) (by kernel_rfl) (by kernel_rfl) (fun _ _ _ h => h) (by rfl) ?yaa5 ?_
  case yaa5 => (intro w' hw'; exact exec_load_box 31 _ (by rfl) g 0 (by rfl) _ _ (show SBox 39 g s w' from ((X2.out.below (Later.drew _)).below hw')) 2 _ Tryz.underlying31 (by rfl) (by kernel_rfl) [.string s.name, .slice s.p s.n s.c] (by rfl) (by rfl))
  simp only [Act.put]; try simp only [sA_, sZ_, sS_]
  refine wpAnyL_take (i := 6) (d := some 21) (v := ?vaa6) rfl rfl (by kernel_rfl) (by kernel_rfl) (by kernel_rfl) (fun _ _ _ h => h) (by rfl) ?yaa6 ?_
  case yaa6 => (intro w' hw'; go_simp; try (with_reducible rfl))
  simp only [Act.put]; try simp only [sA_, sZ_, sS_]
  refine wpAnyL_take (i := 7) (d := some 22) (v := .slice (some ⟨g, 5, none⟩) 8 8) rfl rfl (by kernel_rfl) (by kernel_rfl) (by kernel_rfl) (fun _ _ _ h => h) (by rfl) ?yaa7 ?_
  case yaa7 => (intro w' hw'; go_simp; try (with_reducible rfl))
  simp only [Act.put]; try simp only [sA_, sZ_, sS_]
  refine wpAnyL_only (i := 8) rfl (by kernel_rfl) (by rfl) fun K hK => ?_
  go_simp
  refine (CS.out _ (Later.drew _)).mono ?_
  rintro e w_4 ⟨rfl, hl_⟩
  have hd1 : Later w2 w2.drew := Later.drew _
  have hd2 : Later w2 w_4 := Later.trans hd1 hl_
  have L24 : Hid (Later w2 w_4) := hd2
  have X24 := hide (X2.out.below hd2)
  have hd0 : Later w w2 := L2.out
  have L4 : Hid (Later w w_4) := Later.trans hd0 hd2
  refine hK.out _ _ hl_ ?_
  clear hl_ hd1 hd2 hd0
  clear hK K
  try (simp only [Act.put]; try simp only [sA_, sZ_, sS_])
  refine wpAnyL_take (i := 9) (d := some 24) (v := ?vaa9) rfl rfl (by kernel_rfl) (by kernel_rfl) (by kernel_rfl) (fun _ _ _ h => h) (by rfl) ?yaa9 ?_
  case yaa9 => (intro w' hw'; go_simp; try (with_reducible rfl))
  simp only [Act.put]; try simp only [sA_, sZ_, sS_]
  refine wpAnyL_take (i := 10) (d := some 25) (v := ?vaa10) rfl rfl (by kernel_rfl) (by kernel_rfl) (by kernel_rfl) (fun _ _ _ h => h) (by rfl) ?yaa10 ?_
  case yaa10 => (intro w' hw'; go_simp; try (with_reducible rfl))
  simp only [Act.put]; try simp only [sA_, sZ_, sS_]
  refine wpAnyL_take (i := 11) (d := some 26) (v := ?vaa11) rfl rfl (by kernel_rfl) (by kernel_rfl) (by kernel_rfl) (fun _ _ _ h => h) (by rfl) ?yaa11 ?_
  case yaa11 => (intro w' hw'; go_simp; try (with_reducible rfl))
  simp only [Act.put]; try simp only [sA_, sZ_, sS_]
  refine wpAnyL_take (i := 12) (d := some 27) (v := ?vaa12) rfl rfl (by kernel_rfl) (by kernel_rfl) (by kernel_rfl) (fun _ _ _ h => h) (by rfl) ?yaa12 ?_
  case yaa12 => (intro w' hw'; go_simp; try (with_reducible rfl))
  simp only [Act.put]; try simp only [sA_, sZ_, sS_]
  refine wpAnyL_take (i := 13) (d := some 28) (v := ?vaa13) rfl rfl (by kernel_rfl) (by kernel_rfl) (by kernel_rfl) (fun _ _ _ h => h) (by rfl) ?yaa13 ?_
  case yaa13 => (intro w' hw'; have k1 := HSV.out _ (X24.out.below hw'); go_simp; try (with_reducible rfl))
  simp only [Act.put]; try simp only [sA_, sZ_, sS_]
  refine wpAnyL_take (i := 14) (d := some 29) (v := ?vaa14) rfl rfl (by kernel_rfl) (by kernel_rfl) (by kernel_rfl) (fun _ _ _ h => h) (by rfl) ?yaa14 ?_
  case yaa14 => (intro w' hw'; go_simp; try (with_reducible rfl))
  simp only [Act.put]; try simp only [sA_, sZ_, sS_]
  refine wpAnyL_take (i := 15) (d := some 30) (v := ?vaa15) rfl rfl (by kernel_rfl) (by kernel_rfl) (by kernel_rfl) (fun _ _ _ h => h) (by rfl) ?yaa15 ?_
  case yaa15 => (intro w' hw'; have k3 := SBox.c3 (X24.out.below hw'); rw [HKS.out] at k3; go_simp; try (with_reducible rfl))
  simp only [Act.put]; try simp only [sA_, sZ_, sS_]
  refine wpAnyL_take (i := 16) (d := some 31) (v := .int .i64 (k : Int)) rfl rfl (by kernel_rfl) (by kernel_rfl) (by kernel_rfl) (fun _ _ _ h => h) (by rfl) ?yaa16 ?_
  case yaa16 => (intro w' hw'; go_simp; first | exact IntWalk.i64_in (k : Int) (by omega) | (rw [IntWalk.i64_in (k : Int) (by omega)]))
  simp only [Act.put]; try simp only [sA_, sZ_, sS_]
  refine wpAnyL_take (i := 17) (d := some 32) (v := ?vaa17) rfl rfl (by kernel_rfl) (by kernel_rfl) (by kernel_rfl) (fun _ _ _ h => h) (by rfl) ?yaa17 ?_
  case yaa17 => (intro w' hw'; go_simp; try (with_reducible rfl))
  simp only [Act.put]; try simp only [sA_, sZ_, sS_]
  refine wpAnyL_take (i := 18) (d := some 33) (v := ?vaa18) rfl rfl (by kernel_rfl) (by kernel_rfl) (by kernel_rfl) (fun _ _ _ h => h) (by rfl) ?yaa18 ?_
  case yaa18 => (intro w' hw'; go_simp; try (with_reducible rfl))
  simp only [Act.put]; try simp only [sA_, sZ_, sS_]
  refine wpAnyL_take (i := 19) (d := some 34) (v := ?vaa19) rfl rfl (by kernel_rfl) (by kernel_rfl) (by kernel_rfl) (fun _ _ _ h => h) (by rfl) ?yaa19 ?_
  case yaa19 => (intro w' hw'; have k5 := HP.out w' (Later.trans (show Later w w_4 from L4.out) hw'); go_simp; try (with_reducible rfl))
  simp only [Act.put]; try simp only [sA_, sZ_, sS_]
  refine wpAnyL_take (i := 20) (d := some 35) (v := ?vaa20) rfl rfl (by kernel_rfl) (by kernel_rfl) (by kernel_rfl) (fun _ _ _ h => h) (by rfl) ?yaa20 ?_
  case yaa20 => (intro w' hw'; go_simp; try (with_reducible rfl))
  simp only [Act.put]; try simp only [sA_, sZ_, sS_]
  refine wpAnyL_take (i := 21) (d := some 14) (v := ?vaa21) rfl rfl (by kernel_rfl) (by kernel_rfl) (by kernel_rfl) (fun _ _ _ h => h) (by rfl) ?yaa21 ?_
  case yaa21 => (intro w' hw'; go_simp; try (with_reducible rfl))
  simp only [Act.put]; try simp only [sA_, sZ_, sS_]
  refine wpAnyL_done (by kernel_rfl) ?_ _
  have XF := hide (X2.out.below L24.out)
  have YF := hide (Y2.out.below L24.out)
  clear c2
  have hk88 : k < 8 := by have b1 := HH8.out; omega
  obtain ⟨bk, cbk⟩ := XF.out.hitCell hk88
  have fbk := XF.out.thaw (5 + k)
  have c3 := XF.out.c3
  rw [HKS.out] at c3
  have XH : Hid (SBox 39 g (s.hitN true) (w_4.setCell ⟨g, 5 + k, none⟩ (.bool true))) := XF.out.hit_ true hk88 HKS.out
  have YH : Hid (SBox 39 (g + 1) SagaD.zero (w_4.setCell ⟨g, 5 + k, none⟩ (.bool true))) := YF.out.setOther _ (by simp)
  have LHW : Hid (Later w (w_4.setCell ⟨g, 5 + k, none⟩ (.bool true))) := L4.out.setCell (p := ⟨g, 5 + k, none⟩) HG0.out _
  go_upto_region 8 with (fail)
  obtain ⟨w5, hw5⟩ : ∃ w5, w5 = w_4.setCell ⟨g, 5 + k, none⟩ (.bool true) := ⟨_, rfl⟩
  rw [← hw5] at XH YH LHW
  rw [← hw5]
  clear hw5 cbk fbk c3
  go_wp2_with (refine wpList_rload_saga (by rfl) _ (by rfl) (by rfl) XH.out ?_)
  refine (CD.out _ LHW.out).mono ?_
  rintro e w6 ⟨rfl, hl6⟩
  have La : Later w w5 := LHW.out
  have L6 : Hid (Later w w6) := Later.trans La hl6
  have Y6 := hide (YH.out.below hl6)
  clear hl6 La
  go_wp2_with (refine wpList_rstore_saga (by rfl) _ _ (by rfl) (by rfl) Y6.out (by rfl) ?_; intro w7 Z7 G7)
  have HLF : Hid (Later w _) := Below.grown L6.out G7 (Below.size L6.out) (fun k hk => by have b1 := Option.some.inj hk; have b2 := HG0.out; omega)
  refine bodyPost_ret (results_box2 Tryz.results35 _ _ (g + 1) 39 _ _ (by rfl) Z7 Tryz.underlying39 (by rfl) (by kernel_rfl) (.int .i64 0) (by rfl)) (by rfl) ?_
  exact ⟨rfl, HLF.out⟩
end
end Go.Proofs.YtpckdhjnhnonhaaGreat
/- Are two sagas, two maps of sagas, two books alike? -/
namespace Go.Proofs.YtpckdhjnhnonhaaGreat
open Go.RowKit Go.Maps
def sameE (s : SagaD) (l : List StepD) (s2 : SagaD) (l2 : List StepD) : Bool :=
  decide (s.name = s2.name ∧ l = l2) && ((s.st == s2.st) && ((s.step == s2.step) && ((s.tr == s2.tr) && decide (s.hit = s2.hit))))
section
variable {w : World}
end
def goodE (L2 : List Ent) (x : Ent) : Bool := match entAt L2 x.id with | some y => sameE x.s x.l y.s y.l | none => false
def eqE (L1 L2 : List Ent) : Bool := decide (L1.length = L2.length) && L1.all (goodE L2)
def GoodSo (L1 L2 : List Ent) (left : Lit → Bool) : Prop := ∀ x ∈ L1, left (.int .i64 x.id) = false → goodE L2 x = true
theorem GoodSo.start (L1 L2 : List Ent) (V : Ent → Value) : GoodSo L1 L2 (Maps.has (mapD (L1.map fun x => (x.id, V x)))) := fun x hx h => by
  rw [has_mapD] at h
  have : ((L1.map fun x => (x.id, V x)).any fun q => q.1 == x.id) = true := List.any_eq_true.2 ⟨(x.id, V x), List.mem_map.2 ⟨x, hx, rfl⟩, by simp⟩
  rw [this] at h
  cases h
theorem GoodSo.next {L1 L2 : List Ent} {left : Lit → Bool} {x : Ent} (h : GoodSo L1 L2 left) (hr : RiseE L1) (hx : x ∈ L1) (hg : goodE L2 x = true) : GoodSo L1 L2 (fun z => left z && !z.sameKey (.int .i64 x.id)) := fun y hy hl => by
  cases hly : left (.int .i64 y.id) with
  | false => exact h y hy hly
  | true =>
    have hl2 : (left (.int .i64 y.id) && !(Lit.int .i64 y.id).sameKey (.int .i64 x.id)) = false := hl
    rw [hly] at hl2
    have e : y.id = x.id := by simpa [Lit.sameKey] using hl2
    rw [rise_one hr hy hx e]
    exact hg
theorem GoodSo.done {L1 L2 : List Ent} {left : Lit → Bool} (h : GoodSo L1 L2 left) (hl : ∀ z, left z = false) (hn : L1.length = L2.length) : eqE L1 L2 = true := by
  unfold eqE
  rw [decide_eq_true hn, Bool.true_and, List.all_eq_true]
  exact fun x hx => h x hx (hl _)
section
variable {w : World}
end
end Go.Proofs.YtpckdhjnhnonhaaGreat
/- Are two books alike? -/
namespace Go.Proofs.YtpckdhjnhnonhaaGreat
open Go.RowKit Go.Maps
section
variable {w : World}
end
end Go.Proofs.YtpckdhjnhnonhaaGreat
/- Replies are compared; the document's example of package book. -/
namespace Go.Proofs.YtpckdhjnhnonhaaGreat
open Go.RowKit Go.Maps
theorem eql_rep (x y : RepD) (w : World) : (binOp .eql 44 x.val y.val).run Tryz.prog w = .ok (.bool (decide (x = y))) w := by
  obtain ⟨a, b, c, d⟩ := x
  obtain ⟨a', b', c', d'⟩ := y
  have u3 := Tryz.underlying3
  have u4 := Tryz.underlying4
  have u34 := Tryz.underlying42
  have hS : Tryz.prog.underlying 44 = some (.struct (Tryz.prog.fieldsOf 44)) := by kernel_rfl
  have hp : Tryz.prog.stoodInHeld 44 = false := by kernel_rfl
  unfold RepD.val RepD.cells
  rw [run_eql_struct, show (10000 : Nat) = 9999 + 1 from rfl, run_equalIn_struct w 9999 44 _ _ hS hp]
  simp only [Program.fieldsOf, Tryz.underlying44]
  go_simp
  by_cases h0 : a = a' <;> by_cases h1 : b = b' <;> by_cases h2 : c = c' <;> by_cases h3 : d = d' <;> simp [h0, h1, h2, h3]
theorem exec_eql_rep {op : Oper} {a : Act} {w : World} (x y : RepD) (p q : Operand) (t : TypeId) (ho : op.op = .binOp .eql 44 p q t) (hp : a.eval p = x.val) (hq : a.eval q = y.val) : (execOp a.eval op).run Tryz.prog w = .ok (.value (.bool (decide (x = y)))) w := by
  unfold execOp
  simp only [ho, hp, hq, Sem.run_bind, eql_rep, run_eqGuard_agg (P := Tryz.prog) w .eql 44 p q x.cells.toArray y.cells.toArray (by kernel_rfl), Result.andThen_ok, Sem.run_pure]
theorem neq_rep (x y : RepD) (w : World) : (binOp .neq 44 x.val y.val).run Tryz.prog w = .ok (.bool (!decide (x = y))) w := by
  obtain ⟨a, b, c, d⟩ := x
  obtain ⟨a', b', c', d'⟩ := y
  have u3 := Tryz.underlying3
  have u4 := Tryz.underlying4
  have u34 := Tryz.underlying42
  have hS : Tryz.prog.underlying 44 = some (.struct (Tryz.prog.fieldsOf 44)) := by kernel_rfl
  have hp : Tryz.prog.stoodInHeld 44 = false := by kernel_rfl
  unfold RepD.val RepD.cells
  rw [run_neq_struct, show (10000 : Nat) = 9999 + 1 from rfl, run_equalIn_struct w 9999 44 _ _ hS hp]
  simp only [Program.fieldsOf, Tryz.underlying44]
  go_simp
  by_cases h0 : a = a' <;> by_cases h1 : b = b' <;> by_cases h2 : c = c' <;> by_cases h3 : d = d' <;> simp [h0, h1, h2, h3]
theorem exec_neq_rep {op : Oper} {a : Act} {w : World} (x y : RepD) (p q : Operand) (t : TypeId) (ho : op.op = .binOp .neq 44 p q t) (hp : a.eval p = x.val) (hq : a.eval q = y.val) : (execOp a.eval op).run Tryz.prog w = .ok (.value (.bool (!decide (x = y)))) w := by
  unfold execOp
  simp only [ho, hp, hq, Sem.run_bind, neq_rep, run_eqGuard_agg (P := Tryz.prog) w .neq 44 p q x.cells.toArray y.cells.toArray (by kernel_rfl), Result.andThen_ok, Sem.run_pure]
theorem exec_load_rep {op : Oper} {a : Act} {w : World} {g : Nat} {r : RepD} (x : Operand) (ho : op.op = .load 44 x) (hx : a.eval x = .pointer (some ⟨g, 0, none⟩)) (hg : RBox g r w) : (execOp a.eval op).run Tryz.prog w = .ok (.value r.val) w :=
  exec_load_box 44 x ho g 0 hx _ _ hg 4 _ Tryz.underlying44 (by rfl) (by kernel_rfl) r.cells (by rfl) (by rfl)
theorem field_err (r : RepD) (W : World) : (Instr.field 44 r.val 0).run Tryz.prog W = .ok (.int .i64 r.err) W := by kernel_rfl
theorem exec_field_err {op : Oper} {a : Act} {w : World} (x : Operand) (r : RepD) (ho : op.op = .field 44 x 0) (hx : a.eval x = r.val) : (execOp a.eval op).run Tryz.prog w = .ok (.value (.int .i64 r.err)) w := by
  unfold execOp
  simp only [ho, hx, Sem.run_bind, field_err, Result.andThen_ok, Sem.run_pure]
def holdB : StepD := ⟨⟨#[98]⟩, 1, 0, 1, true, false⟩
abbrev lB : List StepD := [holdB]
abbrev nmB : ByteArray := ⟨#[97]⟩
def opStart (name : ByteArray) (l : List StepD) : OpD := ⟨1, 0, 0, name, l, 0, 0, 0, false, false⟩
def opCan (id : Int) : OpD := ⟨2, 0, 0, ⟨#[]⟩, [], id, 0, 0, false, false⟩
theorem lB_ok : (checkF nmB lB).2 = 0 := by decide +kernel
theorem lB_wf : ∀ x ∈ lB, x.wf := by simp [holdB, StepD.wf, I64]; decide
theorem opB_wf : (opStart nmB lB).wf := ⟨⟨by decide, by decide⟩, ⟨by decide, by decide⟩, ⟨by decide, by decide⟩, by decide, lB_wf, ⟨by decide, by decide⟩, ⟨by decide, by decide⟩, ⟨by decide, by decide⟩⟩
theorem opCan_wf : (opCan 2).wf := ⟨⟨by decide, by decide⟩, ⟨by decide, by decide⟩, ⟨by decide, by decide⟩, by decide, by simp [opCan], ⟨by decide, by decide⟩, ⟨by decide, by decide⟩, ⟨by decide, by decide⟩⟩
theorem startB_R (most : Int) (t : BkS) (hm : (openN t.L : Int) < most) : applyR most t (opStart nmB lB) = ⟨0, t.last + 1, 1, 1⟩ := by
  unfold applyR startR opStart
  simp only [show ¬ ((1 : Int) = 0) from by decide, if_false, if_true, lB_ok, ne_eq, not_true_eq_false]
  rw [if_neg (by omega)]
theorem startB_S (most : Int) (t : BkS) (hm : (openN t.L : Int) < most) : applyS most t (opStart nmB lB) = ⟨t.last + 1, putE (newE (t.last + 1) nmB lB) (roomF t.L)⟩ := by
  unfold applyS startS opStart
  simp only [if_true, lB_ok, ne_eq, not_true_eq_false, if_false]
  rw [if_neg (by omega)]
theorem stepB_at (w : World) (F : Nat → Prop) (hF : F w.heap.size) : StepsAt F (w.alloc (.cells holdB.cells.toArray 67 (0, 0))) (.slice (some ⟨w.heap.size, 0, none⟩) 1 1) lB :=
  flat_one w _ 6 holdB.cells.toArray rfl holdB.one F hF
section
variable {w : World}
set_option maxHeartbeats 8000000 in
set_option maxRecDepth 100000 in
theorem lives_any : Calls Tryz.prog 6 #[] w fun e w' => e = .returned (.bool true) ∧ Later w w' := by
  obtain ⟨i0, hi, hz0, hz1, _⟩ := info_parts (show (Tryz.prog.info? 67).map (fun i => (i.zero, i.size, i.bytes)) = some (some (.agg #[.string ⟨#[]⟩, .int .i64 0, .int .i64 0, .int .i64 0, .bool false, .bool false]), 6, 48) from by kernel_rfl)
  have HI := hide hi
  have HZ0 := hide hz0
  have HZ1 := hide hz1
  clear hi hz0 hz1
  have CN := hide (new_yes 2 w (by decide) (by decide))
  go_enter Tryz.func6, Tryz.ntmps6
  go_wp2_with (fail)
  refine CN.out.mono ?_
  rintro e w1 ⟨g, b, rfl, hg, hb, hl1, hbk⟩
  have HBK := hide (hbk (fun i => i ≠ g ∧ i ≠ b) (fun h => h.1 rfl) (fun h => h.2 rfl))
  have HGB := hide (And.intro hg hb)
  have L1 : Hid (Later w w1) := hl1
  obtain ⟨z, hz⟩ : ∃ z, w1.heap.size = z := ⟨_, rfl⟩
  obtain ⟨W2, hW2⟩ : ∃ W2, W2 = w1.alloc (.cells holdB.cells.toArray 67 (0, 0)) := ⟨_, rfl⟩
  obtain ⟨W3, hW3⟩ : ∃ W3, W3 = W2.alloc (.cells #[.string nmB, .slice (some ⟨z, 0, none⟩) 1 1] 31 (0, 0)) := ⟨_, rfl⟩
  have hz2 : W2.heap.size = z + 1 := by rw [hW2, ← hz]; simp
  have S2 : StepsAt (fun _ => True) W2 (.slice (some ⟨z, 0, none⟩) 1 1) lB := by rw [hW2, ← hz]; exact stepB_at w1 _ trivial
  have L12 : Later w1 W2 := by rw [hW2]; exact (Below.refl _ _).alloc (Nat.le_refl _) _
  have L23 : Later W2 W3 := by rw [hW3]; exact (Below.refl _ _).alloc (Nat.le_refl _) _
  have S3 : Hid (StepsAt (fun _ => True) W3 (.slice (some ⟨z, 0, none⟩) 1 1) lB) := StepsAt.kept S2 (Kept.of_below L23 _)
  have B3 : DefBox (z + 1) nmB (.slice (some ⟨z, 0, none⟩) 1 1) W3 := by rw [hW3, ← hz2]; exact heap_alloc_new W2 _
  have L13 : Hid (Later w1 W3) := Later.trans L12 L23
  have H3 := hide (HBK.out.later L13.out)
  have d0 : W3.cell? ⟨z + 1, 0, none⟩ = some (.string nmB) := B3.name_
  have d1 : W3.cell? ⟨z + 1, 1, none⟩ = some (.slice (some ⟨z, 0, none⟩) 1 1) := B3.steps
  have CA := hide (apply_any (o := opStart nmB lB) H3.out (by decide) (by decide) S3.out opB_wf (by decide) (fun i hi => by have a1 := H3.out.lt; exact ⟨by omega, by omega⟩))
  rw [startB_R 2 ⟨0, []⟩ (by decide), startB_S 2 ⟨0, []⟩ (by decide)] at CA
  have HZ := hide hz
  have HZ2 := hide hz2
  have HW2 := hide hW2.symm
  have HW3 := hide hW3.symm
  clear hz hz2 hW2 hW3 hg hb hl1 hbk S2 L12 L23 B3 CN
  unfold OpD.cells opStart at CA
  go_wp2_with (refine wpList_buildSlice_one (by rfl) 29 67 _ (by rfl) i0 _ 6 Tryz.underlying29 HI.out HZ0.out HZ1.out (by omega) (by omega) holdB.cells.toArray (by rfl) (by rfl) ?_; rw [HW2.out, HZ.out])
  simp only [HW3.out, HZ2.out]
  go_wp2_with (fail)
  refine CA.out.mono ?_
  rintro e w4 ⟨rfl, hb4, ht4⟩
  have H4 := hide hb4
  have T4 := hide ht4
  have R4 : Hid (RBox w4.heap.size (errR 0) (w4.alloc (.cells #[.int .i64 0, .int .i64 0, .int .i64 0, .int .i64 0] 44 (0, 0)))) := heap_alloc_new _ _
  have L4 : Hid (Later w4 (w4.alloc (.cells #[.int .i64 0, .int .i64 0, .int .i64 0, .int .i64 0] 44 (0, 0)))) := (Below.refl _ _).alloc (Nat.le_refl _) _
  clear hb4 ht4 CA d0 d1
  go_wp2_with (refine wpList_store_rep (r := ⟨0, 0 + 1, 1, 1⟩) (by rfl) _ _ (by rfl) (by rfl) R4.out (by rfl) ?_)
  intro w5 Z5 G5
  have L45 : Hid (Later w4 w5) := L4.out.grown G5 (by simp) (fun k hk => by have := Option.some.inj hk; omega)
  have X5 := hide Z5
  have H5 := hide (H4.out.later L45.out)
  have CB := hide (apply_any (o := opCan 2) H5.out (by decide) (by decide) (StepsAt.nil_ (fun _ => True) _) opCan_wf (by decide) (fun i hi => by have a1 := H5.out.lt; exact ⟨by omega, by omega⟩))
  have hrc : applyR 2 ⟨0 + 1, putE (newE (0 + 1) nmB lB) (roomF [])⟩ (opCan 2) = errR 8 := by kernel_rfl
  rw [hrc] at CB
  obtain ⟨t9, ht9⟩ : ∃ t9, applyS 2 ⟨0 + 1, putE (newE (0 + 1) nmB lB) (roomF [])⟩ (opCan 2) = t9 := ⟨_, rfl⟩
  rw [ht9] at CB
  unfold OpD.cells opCan at CB
  clear Z5 G5 hrc ht9 L4 R4
  go_wp2_with (first | (refine wpList_val rfl (by rfl) (exec_load_rep _ (by rfl) (by rfl) X5.out) ?_) | (refine wpList_val rfl (by rfl) (exec_eql_rep ⟨0, 0 + 1, 1, 1⟩ ⟨0, 1, 1, 1⟩ _ _ _ (by rfl) (by rfl) (by rfl)) ?_; rw [show decide ((⟨0, 0 + 1, 1, 1⟩ : RepD) = ⟨0, 1, 1, 1⟩) = true from rfl]))
  refine CB.out.mono ?_
  rintro e w6 ⟨rfl, hb6, ht6⟩
  have T6 := hide ht6
  clear hb6 ht6 CB
  go_wp2_with (refine wpList_val rfl (by rfl) (exec_field_err _ (errR 8) (by rfl) (by rfl)) ?_)
  go_ret
  have La : Later w W3 := Later.trans (show Later w w1 from L1.out) L13.out
  have Ta : Turned (fun i => i = g ∨ i = b) W3 w5 := T4.out.trans (Turned.of_below L45.out _)
  have Tb : Turned (fun i => i = g ∨ i = b) W3 w6 := Ta.trans T6.out
  have Tc : Turned (fun _ => False) w w6 := (Turned.of_below La _).onto Tb (fun i hi => .inr (by have := HGB.out; rcases hi with rfl | rfl <;> omega))
  exact ⟨rfl, Tc.below (fun i hi => hi.elim) (Nat.le_refl _)⟩
end
end Go.Proofs.YtpckdhjnhnonhaaGreat
/- How much a message has, up to some: droverref04.weigh, Steps. -/
namespace Go.Proofs.YtpckdhjnhnonhaaGreat
open Go.RowKit

def WeighsN (mx : Int) (o : OpD) (w : World) (e : Ending) (w' : World) : Prop :=
  ∃ n : Int, e = .returned (.int .i64 n) ∧ 1 ≤ n ∧ n ≤ 20000000000000 ∧ (n ≤ mx → (o.steps.length : Int) < n) ∧ Later w w'

set_option maxHeartbeats 1000000 in
theorem weighn_any (mx : Int) (hm0 : 0 ≤ mx) (hm1 : mx ≤ 1000) (F : Nat → Prop) (o : OpD) (s : Value) (w : World) (hn : o.name.size ≤ 140737488355328) (hs : ∀ x ∈ o.steps, x.wf) (h : StepsAt F w s o.steps) :
    Calls Tryz.prog 51 #[.agg (o.cells s).toArray, .int .i64 mx] w (WeighsN mx o w) := by
  obtain ⟨A, c, rfl, h1, h2, _⟩ := FlatAt.shape h
  unfold maxLen at h2
  have HS := hide hs
  have HF := hide h
  clear hs h
  unfold OpD.cells
  obtain ⟨L, hL⟩ : ∃ L, o.steps.length = L := ⟨_, rfl⟩
  rw [hL] at h1 HF ⊢
  have HL := hide hL
  clear hL
  obtain ⟨z, hz⟩ : ∃ z, z = o.name.size / 20 := ⟨_, rfl⟩
  have hz1 : (o.name.size : Int) / 20 = (z : Int) := by omega
  have hz2 : z ≤ 8000000000000 := by omega
  clear hz
  go_enter Tryz.func51, Tryz.ntmps51
  go_wp2
  go_loopw [5, 18] (fun n i wr => ∃ (q : Int) (k : Nat), k ≤ L ∧ n = .int .i64 q ∧ i = .int .i64 (k : Int) ∧ (k : Int) < q ∧ q ≤ 8000000000001 ∧ (0 < k → q ≤ mx) ∧ Below w.heap.size w wr) (fun _ i _ => L - (Go.RowKit.intOf i).toNat)
  case atStart => exact ⟨_, 0, by omega, rfl, rfl, by omega, by omega, by omega, (Below.refl _ _).alloc (Nat.le_refl _) _⟩
  case round =>
    obtain ⟨q, k, hk, rfl, rfl, hq1, hq2, hq3, hb⟩ := hrel
    have HB := hide hb
    clear hb
    by_cases hkl : k < L
    · obtain ⟨x, b, off, c', hx, hv, _, _, hb, hr⟩ := StepsAt.at_ (HF.out.kept (Kept.of_below HB.out F)) (i := k) (by rw [HL.out]; exact hkl)
      obtain ⟨rfl, rfl⟩ : A = some ⟨b, off, none⟩ ∧ c = c' := by injection hv with e1 _ e3; exact ⟨e1, e3⟩
      obtain ⟨r0, r1, r2, r3, r4, r5⟩ := range_step hr
      have hxn := (HS.out x (List.mem_of_getElem? hx)).1
      obtain ⟨y, hy⟩ : ∃ y, y = x.name.size / 20 := ⟨_, rfl⟩
      have hy1 : (x.name.size : Int) / 20 = (y : Int) := by omega
      have hy2 : y ≤ 8000000000000 := by omega
      clear hy hx hv hr
      go_wp2
      · go_ret
        exact ⟨_, rfl, by omega, by omega, by omega, HB.out.trans ((Below.alloc (Below.refl _ _) (Nat.le_refl _) _).mono HB.out.size)⟩
      · go_roundw
        case rel => exact ⟨q + (1 + y), k + 1, by omega, rfl, by go_num, by omega, by omega, by omega, HB.out.trans ((Below.alloc (Below.refl _ _) (Nat.le_refl _) _).mono HB.out.size)⟩
        case measure => simp [Go.RowKit.intOf]; omega
    · go_wp2
      go_ret
      exact ⟨_, rfl, by omega, by omega, by rw [HL.out]; omega, HB.out⟩

def MsgD.lightN (mx : Int) (m : MsgD) : Prop := (m.op.steps.length : Int) ≤ mx ∧ (m.ops.length : Int) ≤ mx ∧ ∀ o ∈ m.ops, (o.steps.length : Int) ≤ mx
def CountsN (mx : Int) (m : MsgD) (w : World) (e : Ending) (w' : World) : Prop :=
  ∃ n : Int, e = .returned (.int .i64 n) ∧ (n ≤ mx → m.lightN mx) ∧ Later w w'

def SomeN (mx : Int) (m : MsgD) (ps : List (OpD × Value)) (k : Nat) : Prop := (m.op.steps.length : Int) ≤ mx ∧ ∀ p ∈ ps.take k, (p.1.steps.length : Int) ≤ mx
theorem somen_step {mx : Int} {m : MsgD} {ps : List (OpD × Value)} {k : Nat} {x : OpD} {s : Value} (hx : ps[k]? = some (x, s)) (h : SomeN mx m ps k) (hs : (x.steps.length : Int) ≤ mx) : SomeN mx m ps (k + 1) := by
  refine ⟨h.1, fun p hp => ?_⟩
  rw [List.take_add_one, hx] at hp
  rcases List.mem_append.1 hp with hp | hp
  · exact h.2 p hp
  · obtain rfl : p = (x, s) := by simpa using hp
    exact hs
theorem somen_end {mx : Int} {m : MsgD} {ps : List (OpD × Value)} {k : Nat} (hp : ps.map (·.1) = m.ops) (hl : m.ops.length = ps.length) (hk : ps.length ≤ k) (hq : (k : Int) ≤ mx) (h : SomeN mx m ps k) : m.lightN mx := by
  refine ⟨h.1, by omega, fun o ho => ?_⟩
  rw [← hp] at ho
  obtain ⟨p, hp, rfl⟩ := List.mem_map.1 ho
  exact h.2 p (by rwa [List.take_of_length_le hk])

set_option maxHeartbeats 2000000 in
set_option maxRecDepth 100000 in
theorem stepsn_any (mx : Int) (hm0 : 0 ≤ mx) (hm1 : mx ≤ 1000) (F : Nat → Prop) (m : MsgD) (s o i : Value) (w : World) (hw : m.wf) (h : Lists F w m s o i) :
    Calls Tryz.prog 21 #[.agg (m.cells s o i).toArray, .int .i64 mx] w (CountsN mx m w) := by
  obtain ⟨hs, ⟨ps, hps, ho⟩, hi⟩ := h
  have hl : m.ops.length = ps.length := by rw [← hps]; simp
  have hwp : ∀ p ∈ ps, p.1.wf := fun p hp => hw.2.2.2.2.2.2.2.2.2.2.2.2.2.2.2.2.2.2.2.1 p.1 (by rw [← hps]; exact List.mem_map_of_mem hp)
  have hwo : m.op.wf := hw.2.2.2.2.2.2.2.2.2.1
  have HP := hide hps
  have HW := hide hwp
  have HL := hide hl
  have HO := hide ho
  obtain ⟨A, c, rfl, h1, h2, _⟩ := FlatAt.shape ho.1
  unfold maxLen at h2
  have C1 := hide (fun w' (hb : Below w.heap.size w w') => weighn_any mx hm0 hm1 F m.op s w' hwo.2.2.2.1 hwo.2.2.2.2.1 (hs.kept (Kept.of_below hb F)))
  clear hs hps ho hi hw hwp hwo hl
  unfold MsgD.cells
  unfold OpD.cells at C1
  go_enter Tryz.func21, Tryz.ntmps21
  go_wp2_with (fail)
  refine (C1.out _ ((Below.refl _ _).alloc (Nat.le_refl _) _)).mono ?_
  rintro e w1 ⟨q, rfl, hq1, hq2, hq3, hb⟩
  have HB1 : Hid (Below w.heap.size w w1) := ((Below.refl _ _).alloc (Nat.le_refl _) _).trans (Below.mono hb (by simp))
  have hbox : w1.heap[w.heap.size]? = _ := (hb.block w.heap.size (by simp)).trans (heap_alloc_new w _)
  have f15 := cell_of_row w1 w.heap.size 32 _ _ _ hbox
  simp only [List.getElem?_toArray, List.getElem?_cons_succ, List.getElem?_cons_zero] at f15
  have HQ := hide hq3
  have HX := hide hbox
  clear hb hq3 hbox C1
  go_wp2
  go_loopw [5, 15] (fun n i wr => ∃ (q : Int) (k : Nat), k ≤ ps.length ∧ n = .int .i64 q ∧ i = .int .i64 (k : Int) ∧ (k : Int) < q ∧ q ≤ 20000000002000 ∧ (q ≤ mx → SomeN mx m ps k) ∧ Below w.heap.size w wr) (fun _ i _ => ps.length - (Go.RowKit.intOf i).toNat)
  case atStart => exact ⟨q, 0, by omega, rfl, rfl, by omega, by omega, fun h => ⟨by have := HQ.out h; omega, by simp⟩, HB1.out⟩
  case round =>
    obtain ⟨q, k, hk, rfl, rfl, hq1, hq2, hq3, hb⟩ := hrel
    have HQ3 := hide hq3
    have HB := hide hb
    clear hb hq3
    by_cases hkl : k < ps.length
    · obtain ⟨x, xs, b, off, c', hx, hv, _, _, hb, hr, hst⟩ := OpsIn.at_ (HO.out.kept (Kept.of_below HB.out F)) (i := k) hkl
      obtain ⟨rfl, rfl⟩ : A = some ⟨b, off, none⟩ ∧ c = c' := by injection hv with e1 _ e3; exact ⟨e1, e3⟩
      obtain ⟨r0, r1, r2, r3, r4, r5, r6, r7, r8, r9⟩ := range_op hr
      have hwx : x.wf := HW.out _ (List.mem_of_getElem? hx)
      have HX2 := hide hx
      obtain ⟨sA, sc, rfl, _, _, _⟩ := FlatAt.shape hst
      have C2 := hide (fun w' (hb : Below wr.heap.size wr w') => weighn_any mx hm0 hm1 F x _ w' hwx.2.2.2.1 hwx.2.2.2.2.1 (hst.kept (Kept.of_below hb F)))
      unfold OpD.cells at C2
      clear hx hv hr hst hwx
      by_cases hbig : q ≤ mx
      · go_wp2_with (fail)
        refine (C2.out _ ((Below.refl _ _).alloc (Nat.le_refl _) _)).mono ?_
        rintro e w2 ⟨r, rfl, hr1, hr2, hr3, hb⟩
        have HB2 : Hid (Below w.heap.size w w2) := HB.out.trans ((((Below.refl _ _).alloc (Nat.le_refl _) _).trans (Below.mono hb (by simp))).mono HB.out.size)
        have HR := hide hr3
        clear hb hr3 C2
        go_wp2
        go_roundw
        case rel => exact ⟨q + (1 + r), k + 1, by omega, rfl, by go_num, by omega, by omega, fun h => somen_step HX2.out (HQ3.out hbig) (by have := HR.out (by omega); omega), HB2.out⟩
        case measure => simp [Go.RowKit.intOf]; omega
      · go_wp2_with (fail)
        go_ret
        exact ⟨_, rfl, fun h => absurd h (by omega), HB.out.trans (((Below.refl _ _).alloc (Nat.le_refl _) _).mono HB.out.size)⟩
    · go_wp2
      go_ret
      exact ⟨_, rfl, fun h => somen_end HP.out HL.out (by omega) (by omega) (HQ3.out h), HB.out⟩
end Go.Proofs.YtpckdhjnhnonhaaGreat
/- Operations that are looked at (light); what one operation changes of a book, as data. -/
namespace Go.Proofs.YtpckdhjnhnonhaaGreat
open Go.RowKit Go.Maps
def opsM (l : List OpD) : MsgD := { MsgD.zero with ops := l }
theorem opsM_wf {l : List OpD} (h : ∀ o ∈ l, o.wf) : (opsM l).wf := by
  simp only [MsgD.wf, opsM, MsgD.zero, OpD.zero, OpD.wf, I64]
  exact ⟨by decide, by decide, by decide, by decide, by decide, by decide, by decide, by decide, by decide, ⟨by decide, by decide, by decide, by decide, by simp, by decide, by decide, by decide⟩, by decide, by decide, by decide, by decide, by decide, by decide, by decide, by decide, by decide, h, by simp⟩
def LightV (l : List OpD) (w : World) (e : Ending) (w' : World) : Prop := ∃ q : Bool, e = .returned (.bool q) ∧ (q = true → l.length ≤ 80 ∧ ∀ o ∈ l, (o.steps.length : Int) ≤ 600) ∧ Later w w'
section
variable {w : World}
set_option maxHeartbeats 4000000 in
set_option maxRecDepth 100000 in
theorem light_any {F : Nat → Prop} {v : Value} {l : List OpD} (h : OpsAt F w v l) (wl : ∀ o ∈ l, o.wf) : Calls Tryz.prog 5 #[v] w (LightV l w) := by
  obtain ⟨ps, hps, hop⟩ := h
  obtain ⟨A, cp, rfl, _, _, _⟩ := FlatAt.shape hop.1
  have hln : ps.length = l.length := by rw [← hps, List.length_map]
  have CS := hide (stepsn_any 600 (by decide) (by decide) F (opsM l) (.slice none 0 0) (.slice A ps.length cp) (.slice none 0 0) w (opsM_wf wl) ⟨StepsAt.nil_ _ _, ⟨ps, hps, hop⟩, IncsAt.nil_ _ _⟩)
  simp only [MsgD.cells, opsM, MsgD.zero, OpD.zero] at CS
  have hsm : ps.length ≤ 9223372036854775807 := by
    obtain ⟨A', c', _, h1, h2, _⟩ := FlatAt.shape hop.1
    unfold maxLen at h2
    omega
  rw [hln] at CS hsm ⊢
  obtain ⟨n, hn⟩ : ∃ n, l.length = n := ⟨_, rfl⟩
  have HN := hide hn
  rw [hn] at CS hsm ⊢
  clear hps hop hln hn
  by_cases h80 : n ≤ 80
  · have d80 : (n : Int) ≤ 80 := by omega
    go_enter Tryz.func5, Tryz.ntmps5
    go_wp2_with (fail)
    refine CS.out.mono ?_
    rintro e w1 ⟨q, rfl, hq, hl⟩
    have HQ := hide hq
    have HL := hide hl
    clear hq hl CS
    by_cases h6 : q ≤ 600
    · have d6 : decide (q ≤ 600) = true := by simpa using h6
      go_wp2
      go_ret
      exact ⟨true, rfl, fun _ => ⟨by rw [HN.out]; exact h80, (HQ.out h6).2.2⟩, HL.out⟩
    · have d6 : decide (q ≤ 600) = false := by simpa using h6
      go_wp2
      go_ret
      exact ⟨false, rfl, (fun h => by cases h), HL.out⟩
  · have d80 : ¬ (n : Int) ≤ 80 := by omega
    clear CS
    go_enter Tryz.func5, Tryz.ntmps5
    go_wp2
    go_ret
    exact ⟨false, rfl, (fun h => by cases h), Later.refl _⟩
end
theorem roomF_len (L : List Ent) : (roomF L).length ≤ L.length := by
  unfold roomF
  split
  · omega
  · split
    · omega
    · exact List.length_filter_le _ _
theorem apply_grow (most : Int) (t : BkS) (o : OpD) : (applyS most t o).last ≤ t.last + 1 ∧ t.last ≤ (applyS most t o).last ∧ (applyS most t o).L.length ≤ t.L.length + 1 := by
  have hev : ∀ ev id, (eventS ev t id).last ≤ t.last + 1 ∧ t.last ≤ (eventS ev t id).last ∧ (eventS ev t id).L.length ≤ t.L.length + 1 := fun ev id => by
    unfold eventS
    split
    · exact ⟨by omega, by omega, by omega⟩
    · split
      · exact ⟨by omega, by omega, by omega⟩
      · exact ⟨by show t.last ≤ _; omega, Int.le_refl _, putE_len _ _⟩
  unfold applyS
  split
  · unfold startS
    split
    · exact ⟨by omega, by omega, by omega⟩
    · split
      · exact ⟨by omega, by omega, by omega⟩
      · refine ⟨Int.le_refl _, by show t.last ≤ t.last + 1; omega, ?_⟩
        have h1 := putE_len (newE (t.last + 1) o.name o.steps) (roomF t.L)
        have h2 := roomF_len t.L
        show (putE _ _).length ≤ _
        omega
  · split
    · exact hev _ _
    · split
      · exact hev _ _
      · split
        · exact hev _ _
        · exact ⟨by omega, by omega, by omega⟩
end Go.Proofs.YtpckdhjnhnonhaaGreat
/- BookKeeps, as data: what is refused changes nothing; what is told of changes the saga. -/
namespace Go.Proofs.YtpckdhjnhnonhaaGreat
open Go.RowKit Go.Maps
theorem undo_hit {l : List StepD} {s : SagaD} (h : wantsB l s = true) (h2 : s.st = 2) : s.hit = upH s.step ∧ 1 ≤ s.step ∧ s.step ≤ 8 := by
  obtain ⟨he, p1, p2, p3, _⟩ := wants_parts h
  have h8 := (check_good he).1
  unfold wantsB at h
  simp only [Bool.and_eq_true] at h
  have hg := h.1
  unfold goodF at hg
  rw [if_neg (by simp [he]), if_neg (by omega), if_pos h2] at hg
  simp only [Bool.and_eq_true, decide_eq_true_eq] at hg
  exact ⟨hg.2.2.1, by omega, by omega⟩
end Go.Proofs.YtpckdhjnhnonhaaGreat
/- The document's Report, Lapse, Cancel; its book in memory: at, Saga. -/
namespace Go.Proofs.YtpckdhjnhnonhaaGreat
open Go.RowKit Go.Maps
theorem isIt_same {l : List StepD} {s : SagaD} {step tr : Int} {back : Bool} (h : isIt l s step tr back = true) : step = s.step ∧ tr = s.tr ∧ back = decide (s.st = 2) := by
  unfold isIt at h
  simp only [Bool.and_eq_true, decide_eq_true_eq] at h
  obtain ⟨_, h1, h2, h3⟩ := h
  exact ⟨h1.symm, h2.symm, (show decide (s.st = 2) = back from by simpa using h3).symm⟩
theorem want_more {l : List StepD} {s : SagaD} (h : wantsB l s = true) : 1 ≤ s.step ∧ s.step ≤ 8 ∧ 0 ≤ s.tr ∧ s.tr ≤ 900 ∧ l.length ≤ 8 ∧ s.step ≤ (l.length : Int) := by
  obtain ⟨he, p1, p2, p3, p4, p5, p6, p7⟩ := wants_parts h
  have := tries_le (k := s.step) he
  have h8 := (check_good he).1
  exact ⟨by omega, by omega, by omega, by omega, h8, by omega⟩
section
variable {w : World}
theorem rreport_any {F : Nat → Prop} {s : SagaD} {l : List StepD} {step tr : Int} {back good : Bool} (h : StepsAt F w s.v l) (hw : ∀ x ∈ l, x.wf) (h1 : I64 s.step) :
    Calls Tryz.prog 37 #[s.val, .int .i64 step, .int .i64 tr, .bool back, .bool good] w (Gives (.tuple #[(reportF l s step tr back good).val, .bool (isIt l s step tr back)]) w) := by
  unfold reportF
  cases hi : isIt l s step tr back with
  | false =>
    rw [if_neg (by simp)]
    exact rreport_not h hw h1 hi
  | true =>
    rw [if_pos rfl]
    obtain ⟨rfl, rfl, hb⟩ := isIt_same hi
    obtain ⟨p1, p8, t0, t9, l8, _⟩ := want_more (isIt_wants hi)
    unfold reportE
    cases good with
    | false =>
      rw [if_neg (by simp)]
      exact rreport_miss h (by omega) hw h1 hi t0 t9
    | true =>
      rw [if_pos rfl]
      cases back with
      | true =>
        rw [if_pos rfl]
        exact rreport_back h (by omega) hw h1 hi p1 p8
      | false =>
        rw [if_neg (by simp)]
        have hn := steps_n h
        unfold nextS
        by_cases hln : s.step = (l.length : Int)
        · rw [if_pos (show (s.hitN true).step = (l.length : Int) from hln)]
          exact rreport_last h (by omega) hw h1 hi p1 p8 (by rw [hn]; exact hln)
        · rw [if_neg (show ¬ (s.hitN true).step = (l.length : Int) from hln)]
          exact rreport_next h (by omega) hw h1 hi p1 p8 (by rw [hn]; exact hln)
theorem lapse_back_same {l : List StepD} {s : SagaD} (h : wantsB l s = true) (h2 : s.st = 2) : s.hitN true = s := by
  obtain ⟨e1, e2, e3⟩ := undo_hit h h2
  unfold SagaD.hitN
  obtain ⟨m, hm⟩ : ∃ m : Nat, s.step = (m : Int) + 1 := ⟨(s.step - 1).toNat, by omega⟩
  rw [e1, hm, show ((m : Int) + 1 - 1).toNat = m from by omega, up_set_same (by omega), ← hm, ← e1]
theorem rlapse_any {F : Nat → Prop} {s : SagaD} {l : List StepD} {step tr : Int} {back : Bool} (h : StepsAt F w s.v l) (hw : ∀ x ∈ l, x.wf) (h1 : I64 s.step) :
    Calls Tryz.prog 38 #[s.val, .int .i64 step, .int .i64 tr, .bool back] w (Gives (.tuple #[(lapseF l s step tr back).val, .bool (isIt l s step tr back)]) w) := by
  unfold lapseF
  cases hi : isIt l s step tr back with
  | false =>
    rw [if_neg (by simp)]
    exact rlapse_not h hw h1 hi
  | true =>
    rw [if_pos rfl]
    obtain ⟨rfl, rfl, hb⟩ := isIt_same hi
    obtain ⟨p1, p8, t0, t9, l8, _⟩ := want_more (isIt_wants hi)
    unfold lapseE
    cases back with
    | true =>
      rw [lapse_back_same (isIt_wants hi) (by simpa using hb.symm)]
      exact rlapse_back h (by omega) hw h1 hi t0 t9 p1 p8
    | false => exact rlapse_fwd h (by omega) hw h1 hi t0 t9 p1 p8
def rcancelF (l : List StepD) (s : SagaD) : SagaD × Int := if goodF l s then (if s.st = 2 then (s, 0) else if lateB l s then (s, 10) else (failsS l (s.hitN true), 0)) else (s, 2)
theorem good_run_range {l : List StepD} {s : SagaD} (h : goodF l s = true) (h1 : s.st = 1) : 1 ≤ s.step ∧ s.step ≤ (l.length : Int) ∧ l.length ≤ 8 := by
  have hw : wantsB l s = true := by unfold wantsB; rw [h]; simp [h1]
  obtain ⟨p1, _, _, _, l8, pl⟩ := want_more hw
  exact ⟨p1, pl, l8⟩
theorem rcancel_any {F : Nat → Prop} {s : SagaD} {l : List StepD} (h : StepsAt F w s.v l) (hw : ∀ x ∈ l, x.wf) (h1 : I64 s.step) (hl : l.length ≤ 1000) :
    Calls Tryz.prog 35 #[s.val] w (Gives (.tuple #[(rcancelF l s).1.val, .int .i64 (rcancelF l s).2]) w) := by
  unfold rcancelF
  cases hq : goodF l s with
  | false =>
    rw [if_neg (by simp)]
    exact rcan_arg h hw h1 hq
  | true =>
    rw [if_pos rfl]
    by_cases h2 : s.st = 2
    · rw [if_pos h2]
      exact rcan_undo h hw h1 hq h2
    · rw [if_neg h2]
      by_cases hs : s.st = 1
      · obtain ⟨p1, pl, l8⟩ := good_run_range hq hs
        cases hse : sealedS l s with
        | true =>
          rw [if_pos (show lateB l s = true from by unfold lateB; rw [hse]; simp)]
          exact rcan_late2 h hw h1 hl hq hs hse
        | false =>
          by_cases hp : s.step = ((pivotN l : Nat) : Int)
          · rw [if_pos (show lateB l s = true from by unfold lateB; simp [hp])]
            exact rcan_late3 h hw h1 hl hq hs hse hp p1 pl l8
          · rw [if_neg (show ¬ lateB l s = true from by unfold lateB; rw [hse]; simp [hs, hp])]
            exact rcan_ok h hw h1 hl hq hs hse hp p1 pl l8
      · rw [if_pos (show lateB l s = true from by unfold lateB; simp [hs])]
        exact rcan_late1 h hw h1 hq hs h2
end
def itemC (f : Int → Loc) (x : Ent) : List Value := .int .i64 x.id :: (x.sd f).cells
theorem itemC_len (f : Int → Loc) (x : Ent) : (itemC f x).length = 14 := rfl
theorem itemC_one (f : Int → Loc) (x : Ent) : ∀ u ∈ itemC f x, u.oneCell' = true := by
  intro u hu
  rcases List.mem_cons.1 hu with rfl | hu
  · rfl
  · exact (x.sd f).one u hu
structure RBookAt (F : Nat → Prop) (w : World) (g : Nat) (most : Int) (t : BkS) : Prop where
  body : ∃ (A : Option Addr) (c : Nat) (f : Int → Loc), w.heap[g]? = some (.cells #[.int .i64 most, .int .i64 t.last, .slice A t.L.length c] 58 (0, 0)) ∧ FlatAt F w 14 (.slice A t.L.length c) t.L.length (t.L.flatMap (itemC f)) ∧ ∀ x ∈ t.L, StepsAt F w (f x.id).v x.l
  ok : BkOk t
  apart : ¬ F g
section
variable {F G : Nat → Prop} {w w' : World} {g : Nat} {most : Int} {t : BkS}
theorem RBookAt.kept (h : RBookAt F w g most t) (hk : Kept (fun i => i = g ∨ F i) w w') : RBookAt F w' g most t := by
  obtain ⟨A, c, f, h1, h2, h3⟩ := h.body
  exact ⟨⟨A, c, f, (hk.2 g (lt_of_block h1) (.inl rfl)).trans h1, h2.kept (hk.mono fun i _ hi => .inr hi), fun x hx => (h3 x hx).kept (hk.mono fun i _ hi => .inr hi)⟩, h.ok, h.apart⟩
theorem RBookAt.later (h : RBookAt F w g most t) (hl : Later w w') : RBookAt F w' g most t := h.kept (Kept.of_below hl _)
theorem RBookAt.mono (h : RBookAt F w g most t) (hg : ∀ i, i < w.heap.size → F i → G i) (h1 : ¬ G g) : RBookAt G w g most t := by
  obtain ⟨A, c, f, a1, a2, a3⟩ := h.body
  exact ⟨⟨A, c, f, a1, a2.mono hg, fun x hx => (a3 x hx).mono hg⟩, h.ok, h1⟩
theorem RBookAt.lt (h : RBookAt F w g most t) : g < w.heap.size := by
  obtain ⟨A, c, f, a1, _⟩ := h.body
  exact lt_of_block a1
theorem RBookAt.turned {Q : Nat → Prop} (h : RBookAt F w g most t) (ht : Turned Q w w') (h1 : ¬ Q g) (h3 : ∀ i, F i → ¬ Q i) : RBookAt F w' g most t :=
  h.kept (ht.kept fun i hi => hi.elim (fun e => e ▸ h1) (h3 i))
end
def IBox (g : Nat) (cs : List Value) (w : World) : Prop := w.heap[g]? = some (.cells cs.toArray 73 (0, 0))
theorem item_put (f : Int → Loc) (x : Ent) (id : Int) (s : SagaD) : putAt ((.int .i64 id :: s.cells).toArray) 0 (itemC f x) = (itemC f x).toArray := by simp [putAt, itemC, SagaD.cells]
section
variable {ops : Array Oper} {rest : List Oper} {op : Oper} {a : Act} {W : World} {Q : Exit → Act → World → Prop} {g : Nat} {f : Int → Loc} {y : Ent} {id : Int} {z : SagaD}
theorem wpList_store_item (hgd : op.guard = none) (x v : Operand) (ho : op.op = .store 73 x v) (hx : a.eval x = .pointer (some ⟨g, 0, none⟩)) (hg : IBox g (.int .i64 id :: z.cells) W) (hy : a.eval v = .agg (itemC f y).toArray)
    (h : ∀ w', IBox g (itemC f y) w' → W.grownBy w' (some g) → wpList Tryz.prog ops Q rest (a.put op.dst undef) w') : wpList Tryz.prog ops Q (op :: rest) a W :=
  wpList_store_box hgd 73 x v ho g 0 (itemC f y).toArray hx hy _ _ hg (by kernel_rfl) (by exact Nat.le_of_ble_eq_true rfl) (by exact itemC_one f y) (fun w' hb hg' => h w' (by rw [show (itemC f y).toArray.toList = itemC f y from rfl, item_put] at hb; exact hb) hg')
theorem exec_load_item (x : Operand) (ho : op.op = .load 73 x) {b off : Nat} (hx : a.eval x = .pointer (some ⟨b, off, none⟩)) (hr : W.rangeAt b off (itemC f y)) : (execOp a.eval op).run Tryz.prog W = .ok (.value (.agg (itemC f y).toArray)) W :=
  exec_load_range 73 x ho b off hx (itemC f y) hr _ Tryz.underlying73 (by rfl) (by kernel_rfl)
theorem exec_load_ritem (x : Operand) (ho : op.op = .load 39 x) {b off : Nat} {s : SagaD} (hx : a.eval x = .pointer (some ⟨b, off, none⟩)) (hr : W.rangeAt b off s.cells) : (execOp a.eval op).run Tryz.prog W = .ok (.value s.val) W :=
  exec_load_range 39 x ho b off hx s.cells hr _ Tryz.underlying39 (by rfl) (by kernel_rfl)
end
theorem range_item {W : World} {b off : Nat} {f : Int → Loc} {y : Ent} (h : W.rangeAt b off (itemC f y)) : W.cell? ⟨b, off, none⟩ = some (.int .i64 y.id) ∧ W.rangeAt b (off + 1) (y.sd f).cells :=
  ⟨h 0 _ rfl, fun j u hj => by rw [Nat.add_assoc, Nat.add_comm 1 j]; exact h (j + 1) u (by simpa [itemC] using hj)⟩
section
variable {F : Nat → Prop} {w : World} {g : Nat} {most : Int} {t : BkS}
def PlaceV (t : BkS) (id : Int) (w : World) (e : Ending) (w' : World) : Prop :=
  ((∃ (q : Nat) (x : Ent), e = .returned (.int .i64 (q : Int)) ∧ t.L[q]? = some x ∧ x.id = id) ∨ (e = .returned (.int .i64 (-1)) ∧ entAt t.L id = none)) ∧ Later w w'
set_option maxHeartbeats 8000000 in
set_option maxRecDepth 100000 in
theorem rat_any (h : RBookAt F w g most t) {id : Int} (hn : t.L.length ≤ 1000000) : Calls Tryz.prog 24 #[.pointer (some ⟨g, 0, none⟩), .int .i64 id] w (PlaceV t id w) := by
  obtain ⟨A, c, f, hc, hf, _⟩ := h.body
  have c2 := cell_of_row w g 2 _ _ _ hc
  simp only [List.getElem?_toArray, List.getElem?_cons_succ, List.getElem?_cons_zero] at c2
  have HF := hide hf
  obtain ⟨n, hn2⟩ : ∃ n, t.L.length = n := ⟨_, rfl⟩
  rw [hn2] at c2 HF hn
  have HN := hide hn2
  clear h hc hf hn2
  go_enter Tryz.func24, Tryz.ntmps24
  go_wp2
  go_loopw [12] (fun i wr => ∃ q : Nat, q ≤ n ∧ i = .int .i64 (q : Int) ∧ Hid (∀ j y, j < q → t.L[j]? = some y → y.id ≠ id) ∧ Hid (Later w wr)) (fun i _ => n - (Go.RowKit.intOf i).toNat)
  case atStart => exact ⟨0, by omega, rfl, (fun j y hj => by omega), Later.refl _⟩
  case round =>
    obtain ⟨q, hq, rfl, HB, LR⟩ := hrel
    by_cases hqn : q < n
    · obtain ⟨b, off, c', hv, _, _, hb, hr⟩ := FlatAt.elem (HF.out.kept (Kept.of_below LR.out F)) hqn
      obtain ⟨rfl, rfl⟩ : A = some ⟨b, off, none⟩ ∧ c = c' := by injection hv with e1 _ e3; exact ⟨e1, e3⟩
      obtain ⟨y, hy⟩ : ∃ y, t.L[q]? = some y := ⟨t.L[q]'(by rw [HN.out]; exact hqn), List.getElem?_eq_getElem _⟩
      rw [flat_get (itemC f) 14 t.L q y (fun z _ => itemC_len f z) hy] at hr
      have HR := hide hr
      have HY := hide hy
      have I5 : Hid (IBox wr.heap.size (.int .i64 0 :: SagaD.zero.cells) (wr.alloc (.cells #[.int .i64 0, .string ⟨#[]⟩, .slice none 0 0, .int .i64 0, .int .i64 0, .int .i64 0, .bool false, .bool false, .bool false, .bool false, .bool false, .bool false, .bool false, .bool false] 73 (0, 0)))) := heap_alloc_new _ _
      have L5a : Hid (Later wr (wr.alloc (.cells #[.int .i64 0, .string ⟨#[]⟩, .slice none 0 0, .int .i64 0, .int .i64 0, .int .i64 0, .bool false, .bool false, .bool false, .bool false, .bool false, .bool false, .bool false, .bool false] 73 (0, 0)))) := (Below.refl _ _).alloc (Nat.le_refl _) _
      clear hv hr hy
      go_wp2_with (first | (refine wpList_val rfl (by rfl) (exec_load_item _ (by rfl) (by rfl) HR.out) ?_) | (refine wpList_store_item (f := f) (y := y) (by rfl) _ _ (by rfl) (by rfl) I5.out (by rfl) ?_))
      intro w5 Z5 G5
      have L5 : Hid (Later wr w5) := L5a.out.grown G5 (by simp) (fun k hk => by have b1 := Option.some.inj hk; omega)
      have L6 : Hid (Later w w5) := Later.trans (show Later w wr from LR.out) L5.out
      have c0 : w5.cell? ⟨wr.heap.size, 0, none⟩ = some (.int .i64 y.id) := cell_of_row w5 _ 0 _ _ _ Z5
      obtain ⟨yi, hyi⟩ : ∃ i, y.id = i := ⟨_, rfl⟩
      rw [hyi] at c0
      have HYI := hide hyi
      clear Z5 G5 I5 L5a hyi
      by_cases he : yi = id
      · subst he
        go_wp2
        go_ret
        exact ⟨.inl ⟨q, y, rfl, HY.out, HYI.out⟩, L6.out⟩
      · have e0 : (yi == id) = false := by simpa using he
        have HNE := hide he
        clear he
        go_wp2
        go_roundw
        case rel => exact ⟨q + 1, by omega, by go_num, (fun j z hj hz => by
          rcases Nat.lt_or_ge j q with h | h
          · exact HB.out j z h hz
          · obtain rfl : j = q := by omega
            have e := hz.symm.trans HY.out
            obtain rfl := Option.some.inj e
            rw [HYI.out]
            exact HNE.out), L6.out⟩
        case measure => simp [Go.RowKit.intOf]; omega
    · obtain rfl : q = n := by omega
      have HNO : Hid (entAt t.L id = none) := by
        show entAt t.L id = none
        unfold entAt
        rw [List.find?_eq_none]
        intro x hx
        obtain ⟨j, hj, e⟩ := List.mem_iff_getElem.1 hx
        have h9 := HB.out j x (by rw [← HN.out]; exact hj) (by rw [List.getElem?_eq_getElem hj, e])
        simpa using h9
      go_wp2
      go_ret
      exact ⟨.inr ⟨rfl, HNO.out⟩, LR.out⟩
set_option maxHeartbeats 8000000 in
set_option maxRecDepth 100000 in
theorem rsaga_any (h : RBookAt F w g most t) {id : Int} (hn : t.L.length ≤ 1000000) : Calls Tryz.prog 10 #[.pointer (some ⟨g, 0, none⟩), .int .i64 id] w (AtV F (atS t id) (atL t id) (atB t id) w) := by
  obtain ⟨W1, hW1⟩ : ∃ W1, W1 = w.alloc (.cells #[.string ⟨#[]⟩, .slice none 0 0, .int .i64 0, .int .i64 0, .int .i64 0, .bool false, .bool false, .bool false, .bool false, .bool false, .bool false, .bool false, .bool false] 39 (0, 0)) := ⟨_, rfl⟩
  obtain ⟨y, hy⟩ : ∃ y, y = w.heap.size := ⟨_, rfl⟩
  have Y1 : Hid (SBox 39 y SagaD.zero W1) := by rw [hW1, hy]; exact heap_alloc_new _ _
  have L1 : Hid (Later w W1) := by rw [hW1]; exact (Below.refl _ _).alloc (Nat.le_refl _) _
  have HY : Hid (w.heap.size ≤ y) := Nat.le_of_eq hy.symm
  have H := hide h
  have C := hide (rat_any (id := id) (h.later L1.out) hn)
  have HW1 := hide hW1.symm
  have HG := hide hy.symm
  clear h hW1 hy
  go_enter Tryz.func10, Tryz.ntmps10
  go_wp2_with (fail)
  simp only [HW1.out, HG.out]
  refine C.out.mono ?_
  rintro e w2 ⟨hcase, hl2⟩
  have La : Later w W1 := L1.out
  have L2 : Hid (Later w w2) := Later.trans La hl2
  have Y2 : Hid (SBox 39 y SagaD.zero w2) := Y1.out.below hl2
  clear hl2 La C
  rcases hcase with ⟨q, x, rfl, hx, hxi⟩ | ⟨rfl, hno⟩
  · obtain ⟨A, c, f, hc0, hf0, hs0⟩ := H.out.body
    have hc := (Below.block L2.out g (lt_of_block hc0)).trans hc0
    have hf := hf0.kept (Kept.of_below L2.out F)
    have hqn : q < t.L.length := (List.getElem?_eq_some_iff.1 hx).1
    obtain ⟨b, off, c', hv, hcl, _, hb, hr⟩ := FlatAt.elem hf hqn
    obtain ⟨rfl, rfl⟩ : A = some ⟨b, off, none⟩ ∧ c = c' := by injection hv with e1 _ e3; exact ⟨e1, e3⟩
    rw [flat_get (itemC f) 14 t.L q x (fun z _ => itemC_len f z) hx] at hr
    have HR := hide (range_item hr).2
    have c2 := cell_of_row w2 g 2 _ _ _ hc
    simp only [List.getElem?_toArray, List.getElem?_cons_succ, List.getElem?_cons_zero] at c2
    have hent : entAt t.L id = some x := by rw [← hxi]; exact entAt_get H.out.ok.1 hx
    have HE : Hid (atS t id = x.s ∧ atL t id = x.l ∧ atB t id = true) := by
      unfold atS atL atB
      rw [hent]
      exact ⟨rfl, rfl, rfl⟩
    have HS := hide (hs0 x (List.mem_of_getElem? hx))
    obtain ⟨n, hn2⟩ : ∃ n, t.L.length = n := ⟨_, rfl⟩
    rw [hn2] at c2 hqn hn
    obtain ⟨e1, e2, e3⟩ := HE.out
    obtain ⟨sv, hsv⟩ : ∃ sv, x.sd f = sv := ⟨_, rfl⟩
    rw [hsv] at HR
    have HSV := hide hsv
    clear hc hf hc0 hf0 hs0 hv hr hx hxi hent hn2 hb hsv e1 e2 e3
    go_wp2_with (first | (refine wpList_val rfl (by rfl) (exec_load_ritem _ (by rfl) (by rfl) HR.out) ?_) | (refine wpList_rstore_saga (s := sv) (by rfl) _ _ (by rfl) (by rfl) Y2.out (by rfl) ?_))
    intro w5 Z5 G5
    have HZ5 := hide Z5
    have HLF : Hid (Later w w5) := L2.out.grown G5 (Below.size L2.out) (fun k hk => by have b1 := Option.some.inj hk; have b2 := HY.out; omega)
    clear Z5 G5
    go_wp2
    refine bodyPost_ret (results_box2 Tryz.results10 _ _ y 39 _ _ (by rfl) HZ5.out Tryz.underlying39 (by rfl) (by kernel_rfl) (.bool true) (by rfl)) (by rfl) ?_
    obtain ⟨e1, e2, e3⟩ := HE.out
    refine ⟨(f x.id).p, (f x.id).n, (f x.id).c, ?_, ?_, HLF.out⟩
    · rw [e1, e3, ← HSV.out]
      rfl
    · rw [e2]
      exact StepsAt.kept HS.out (Kept.of_below HLF.out F)
  · have HE : Hid (atS t id = SagaD.zero ∧ atL t id = [] ∧ atB t id = false) := by
      unfold atS atL atB
      rw [hno]
      exact ⟨rfl, rfl, rfl⟩
    clear hno
    go_wp2_with (refine wpList_rstore_saga (s := SagaD.zero) (by rfl) _ _ (by rfl) (by rfl) Y2.out (by rfl) ?_)
    intro w5 Z5 G5
    have HZ5 := hide Z5
    have HLF : Hid (Later w w5) := L2.out.grown G5 (Below.size L2.out) (fun k hk => by have b1 := Option.some.inj hk; have b2 := HY.out; omega)
    clear Z5 G5
    go_wp2
    refine bodyPost_ret (results_box2 Tryz.results10 _ _ y 39 _ _ (by rfl) HZ5.out Tryz.underlying39 (by rfl) (by kernel_rfl) (.bool false) (by rfl)) (by rfl) ?_
    obtain ⟨e1, e2, e3⟩ := HE.out
    refine ⟨none, 0, 0, ?_, ?_, HLF.out⟩
    · rw [e1, e3]
      rfl
    · rw [e2]
      exact StepsAt.nil_ _ _
end
end Go.Proofs.YtpckdhjnhnonhaaGreat
