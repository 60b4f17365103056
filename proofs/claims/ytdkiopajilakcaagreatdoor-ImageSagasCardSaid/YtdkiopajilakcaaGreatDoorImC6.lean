/- Texts merged: SagV, ImO, NtRefNumb, NtRefRead, NtMsgObj, NtReadM, NtWeighB, NtLives9, NtSmall9, NtBack9M, NtReadQ, NtReadQ2, NtRefRDef, NtRefROp, NtRefOp, NtRefMay, NtRefGood, NtRefRD, OrderV2. -/
import Derived.Test.YtdkiopajilakcaaGreatDoorImC1
import Derived.Test.YtdkiopajilakcaaGreatDoorImC2
import Derived.Test.YtdkiopajilakcaaGreatDoorImC3
import Derived.Test.YtdkiopajilakcaaGreatDoorImC4
import Derived.Test.YtdkiopajilakcaaGreatDoorImC5
import Derived.Deep.CutBlock
import Derived.Deep.DeepCutAuto
import Derived.Test.YtdkiopajilakcaaGreatDoorProg
/- The document's answer: may there be such a saga? -/
namespace Go.Proofs.YtdkiopajilakcaaGreatDoor
open Go.RowKit
section
variable {w : World}
set_option maxRecDepth 100000 in
set_option maxHeartbeats 16000000 in
theorem rgood_err {F : Nat → Prop} {s : SagaD} {l : List StepD} (h : StepsAt F w s.v l) (hw : ∀ x ∈ l, x.wf) (h1 : I64 s.step) (he : (checkF s.name l).2 ≠ 0) : Calls Tryz.prog 25 #[s.val] w (Gives (.bool (rgoodF l s)) w) := by
  have hf : rgoodF l s = false := by unfold rgoodF; rw [if_pos he]
  rw [hf]
  obtain ⟨W1, hW1⟩ : ∃ W1, W1 = (w.alloc (.cells s.cells.toArray 34 (0, 0))) := ⟨_, rfl⟩
  obtain ⟨g, hg⟩ : ∃ g, g = w.heap.size := ⟨_, rfl⟩
  have X1 : Hid (SBox 34 g s W1) := by rw [hW1, hg]; exact heap_alloc_new _ _
  have L1 : Hid (Later w W1) := by rw [hW1]; exact (Below.refl _ _).alloc (Nat.le_refl _) _
  have HG0 : Hid (w.heap.size ≤ g) := Nat.le_of_eq hg.symm
  have CC : Hid (Calls Tryz.prog 52 #[.agg #[.string s.name, .slice s.p s.n s.c]] W1 fun e w' => e = .returned (.tuple #[.int .i64 (((checkF s.name l).1 : Nat) : Int), .int .i64 (((checkF s.name l).2 : Nat) : Int)]) ∧ Later W1 w') := rcheck_any (StepsAt.kept h (Kept.of_below L1.out _))
  have C : Hid (∀ W, Later W1 W → Calls Tryz.prog 53 #[.agg #[.string s.name, .slice s.p s.n s.c], .int .i64 s.step] W fun e w' => e = .returned (.int .i64 (triesN l s.step)) ∧ Later W w') := fun W hW => rTries_any (StepsAt.kept h (Kept.of_below (L1.out.trans hW) _)) h1 hw
  have HS : Hid (∀ W, Later W1 W → StepsAt F W s.v l) := fun W hW => StepsAt.kept h (Kept.of_below (L1.out.trans hW) _)
  obtain ⟨k1, hk1⟩ : ∃ k1, (checkF s.name l).1 = k1 := ⟨_, rfl⟩
  obtain ⟨k2, hk2⟩ : ∃ k2, (checkF s.name l).2 = k2 := ⟨_, rfl⟩
  rw [hk1, hk2] at CC
  have HN := hide (steps_n h)
  have HI := hide h1
  have HW1 := hide hW1.symm
  have HG := hide hg.symm
  clear hW1 hg h hk1 h1 hw
  have e0 := X1.out.c0
  have e1 := X1.out.c1
  rw [← HW1.out, ← HG.out] at e0 e1
  have hb : ((k2 : Int) != 0) = true := by simpa using (show ¬ (k2 : Int) = 0 by omega)
  clear he hk2 C HS HN HI hf
  go_enter Tryz.func25, Tryz.ntmps25
  go_wp2_with (fail)
  simp only [HW1.out, HG.out]
  refine CC.out.mono ?_
  rintro e w2 ⟨rfl, hl⟩
  have L12 := hide hl
  have L2 := hide (L1.out.trans hl)
  have X2 := hide (X1.out.below hl)
  clear hl CC e0 e1
  go_wp2
  go_ret
  exact ⟨rfl, L2.out⟩
set_option maxRecDepth 100000 in
set_option maxHeartbeats 16000000 in
theorem rgood_ok {F : Nat → Prop} {s : SagaD} {l : List StepD} (h : StepsAt F w s.v l) (hw : ∀ x ∈ l, x.wf) (h1 : I64 s.step) (he : (checkF s.name l).2 = 0) : Calls Tryz.prog 25 #[s.val] w (Gives (.bool (rgoodF l s)) w) := by
  obtain ⟨W1, hW1⟩ : ∃ W1, W1 = (w.alloc (.cells s.cells.toArray 34 (0, 0))) := ⟨_, rfl⟩
  obtain ⟨g, hg⟩ : ∃ g, g = w.heap.size := ⟨_, rfl⟩
  have X1 : Hid (SBox 34 g s W1) := by rw [hW1, hg]; exact heap_alloc_new _ _
  have L1 : Hid (Later w W1) := by rw [hW1]; exact (Below.refl _ _).alloc (Nat.le_refl _) _
  have HG0 : Hid (w.heap.size ≤ g) := Nat.le_of_eq hg.symm
  have CC : Hid (Calls Tryz.prog 52 #[.agg #[.string s.name, .slice s.p s.n s.c]] W1 fun e w' => e = .returned (.tuple #[.int .i64 (((checkF s.name l).1 : Nat) : Int), .int .i64 (((checkF s.name l).2 : Nat) : Int)]) ∧ Later W1 w') := rcheck_any (StepsAt.kept h (Kept.of_below L1.out _))
  have C : Hid (∀ W, Later W1 W → Calls Tryz.prog 53 #[.agg #[.string s.name, .slice s.p s.n s.c], .int .i64 s.step] W fun e w' => e = .returned (.int .i64 (triesN l s.step)) ∧ Later W w') := fun W hW => rTries_any (StepsAt.kept h (Kept.of_below (L1.out.trans hW) _)) h1 hw
  have HS : Hid (∀ W, Later W1 W → StepsAt F W s.v l) := fun W hW => StepsAt.kept h (Kept.of_below (L1.out.trans hW) _)
  obtain ⟨k1, hk1⟩ : ∃ k1, (checkF s.name l).1 = k1 := ⟨_, rfl⟩
  obtain ⟨k2, hk2⟩ : ∃ k2, (checkF s.name l).2 = k2 := ⟨_, rfl⟩
  rw [hk1, hk2] at CC
  have HN := hide (steps_n h)
  have HI := hide h1
  have HW1 := hide hW1.symm
  have HG := hide hg.symm
  clear hW1 hg h hk1 h1 hw
  have e0 := X1.out.c0
  have e1 := X1.out.c1
  rw [← HW1.out, ← HG.out] at e0 e1
  obtain rfl : k2 = 0 := by rw [← hk2]; exact he
  obtain ⟨R, hR⟩ : ∃ R, rgoodF l s = R := ⟨_, rfl⟩
  rw [hR]
  have HE := hide he
  have HR := hide hR
  clear he hk2 hR
  go_enter Tryz.func25, Tryz.ntmps25
  go_wp2_with (fail)
  simp only [HW1.out, HG.out]
  refine CC.out.mono ?_
  rintro e w2 ⟨rfl, hl⟩
  have L12 := hide hl
  have L2 := hide (L1.out.trans hl)
  have X2 := hide (X1.out.below hl)
  clear hl CC e0 e1
  have d1 := X2.out.c1
  obtain ⟨T, hT⟩ : ∃ T, IntKind.i64.wrap (s.step - 1) = T := ⟨_, rfl⟩
  have HT := hide hT
  have c3 := X2.out.c3
  go_wp2_with (refine wpList_val rfl (by rfl) (exec_load_hits _ (by rfl) (by rfl) X2.out) ?_)
  go_loopw [29, 6, 7, 8] (fun ti a b c wr => ∃ q : Nat, ti = .int .i64 (q : Int) ∧ q ≤ 8 ∧ a = .bool (aheadF T s.n s.hit q) ∧ b = .bool (behindF T s.hit q) ∧ c = .bool (anyF s.hit q) ∧ outF s.n s.hit q = false ∧ wr = w2) (fun ti _ _ _ _ => 8 - (Go.RowKit.intOf ti).toNat)
  case atStart => exact ⟨0, rfl, by omega, rfl, rfl, rfl, rfl, rfl⟩
  case round =>
    obtain ⟨q, rfl, hq, rfl, rfl, rfl, ho, hwr⟩ := hrel
    obtain rfl := hwr.symm
    have HO := hide ho
    obtain ⟨A0, hA⟩ : ∃ a, aheadF T s.n s.hit q = a := ⟨_, rfl⟩
    obtain ⟨B0, hB⟩ : ∃ a, behindF T s.hit q = a := ⟨_, rfl⟩
    obtain ⟨C0, hC⟩ : ∃ a, anyF s.hit q = a := ⟨_, rfl⟩
    rw [hA, hB, hC]
    have HA := hide hA
    have HB := hide hB
    have HC := hide hC
    clear hwr ho hA hB hC
    by_cases hq8 : q < 8
    · have hq8' : (q : Int) < 8 := by omega
      have EX0 : Hid (∀ (op : Oper) (a : Act) (W : World) (p z : Operand), op.op = .index 25 p z → a.eval p = s.hit.val → a.eval z = .int .i64 (q : Int) → (execOp a.eval op).run Tryz.prog W = .ok (.value (.bool (s.hit.get q))) W) := fun op a W p z e1 e2 e3 => exec_index_hits s.hit hq8 p z e1 e2 e3
      cases hg : s.hit.get q with
      | true =>
        have EX : Hid (∀ {op : Oper} {a : Act} {W : World} (p z : Operand), op.op = .index 25 p z → a.eval p = s.hit.val → a.eval z = .int .i64 (q : Int) → (execOp a.eval op).run Tryz.prog W = .ok (.value (.bool true)) W) := fun {op a W} p z e1 e2 e3 => by have := EX0.out op a W p z e1 e2 e3; rwa [hg] at this
        clear EX0
        by_cases hqn : q < s.n
        · have b1 : ¬ (s.n : Int) ≤ (q : Int) := by omega
          have b2 : (q : Int) < (s.n : Int) := by omega
          by_cases hqt : (q : Int) < T
          · have b3 : ¬ T < (q : Int) := by omega
            cases C0 with
            | true =>
              have HA2 : Hid (aheadF T s.n s.hit (q + 1) = A0) := by show _ = _; unfold aheadF; rw [HA.out, hg]; simp [hqn]
              have HB2 : Hid (behindF T s.hit (q + 1) = B0) := by show _ = _; unfold behindF; rw [HB.out, hg]; simp [b3]
              have HC2 : Hid (anyF s.hit (q + 1) = true) := by show _ = _; unfold anyF; rw [HC.out, hg]; rfl
              have HO2 : Hid (outF s.n s.hit (q + 1) = false) := by show _ = _; unfold outF; rw [HO.out, hg]; simp [hqn]
              have HQ := hide hq8
              clear hg HA HB HC HO hq
              go_wp2_with (refine wpList_val rfl (by rfl) (EX.out _ _ (by rfl) (by rfl) (by rfl)) ?_)
              go_roundw
              case rel => exact ⟨q + 1, by go_num, by have := HQ.out; omega, by rw [HA2.out], by rw [HB2.out], by rw [HC2.out], HO2.out, trivial⟩
              case measure => have := HQ.out; simp [Go.RowKit.intOf]; omega
            | false =>
              have HA2 : Hid (aheadF T s.n s.hit (q + 1) = A0) := by show _ = _; unfold aheadF; rw [HA.out, hg]; simp [hqn]
              have HB2 : Hid (behindF T s.hit (q + 1) = B0) := by show _ = _; unfold behindF; rw [HB.out, hg]; simp [b3]
              have HC2 : Hid (anyF s.hit (q + 1) = true) := by show _ = _; unfold anyF; rw [HC.out, hg]; rfl
              have HO2 : Hid (outF s.n s.hit (q + 1) = false) := by show _ = _; unfold outF; rw [HO.out, hg]; simp [hqn]
              have HQ := hide hq8
              clear hg HA HB HC HO hq
              go_wp2_with (refine wpList_val rfl (by rfl) (EX.out _ _ (by rfl) (by rfl) (by rfl)) ?_)
              go_roundw
              case rel => exact ⟨q + 1, by go_num, by have := HQ.out; omega, by rw [HA2.out], by rw [HB2.out], by rw [HC2.out], HO2.out, trivial⟩
              case measure => have := HQ.out; simp [Go.RowKit.intOf]; omega
          · by_cases htq : T < (q : Int)
            · have _b := htq
              cases C0 with
              | true =>
                have HA2 : Hid (aheadF T s.n s.hit (q + 1) = A0) := by show _ = _; unfold aheadF; rw [HA.out, hg]; simp [hqn, hqt]
                have HB2 : Hid (behindF T s.hit (q + 1) = true) := by show _ = _; unfold behindF; rw [HB.out, hg]; simp [htq]
                have HC2 : Hid (anyF s.hit (q + 1) = true) := by show _ = _; unfold anyF; rw [HC.out, hg]; rfl
                have HO2 : Hid (outF s.n s.hit (q + 1) = false) := by show _ = _; unfold outF; rw [HO.out, hg]; simp [hqn]
                have HQ := hide hq8
                clear hg HA HB HC HO hq
                go_wp2_with (refine wpList_val rfl (by rfl) (EX.out _ _ (by rfl) (by rfl) (by rfl)) ?_)
                go_roundw
                case rel => exact ⟨q + 1, by go_num, by have := HQ.out; omega, by rw [HA2.out], by rw [HB2.out], by rw [HC2.out], HO2.out, trivial⟩
                case measure => have := HQ.out; simp [Go.RowKit.intOf]; omega
              | false =>
                have HA2 : Hid (aheadF T s.n s.hit (q + 1) = A0) := by show _ = _; unfold aheadF; rw [HA.out, hg]; simp [hqn, hqt]
                have HB2 : Hid (behindF T s.hit (q + 1) = true) := by show _ = _; unfold behindF; rw [HB.out, hg]; simp [htq]
                have HC2 : Hid (anyF s.hit (q + 1) = true) := by show _ = _; unfold anyF; rw [HC.out, hg]; rfl
                have HO2 : Hid (outF s.n s.hit (q + 1) = false) := by show _ = _; unfold outF; rw [HO.out, hg]; simp [hqn]
                have HQ := hide hq8
                clear hg HA HB HC HO hq
                go_wp2_with (refine wpList_val rfl (by rfl) (EX.out _ _ (by rfl) (by rfl) (by rfl)) ?_)
                go_roundw
                case rel => exact ⟨q + 1, by go_num, by have := HQ.out; omega, by rw [HA2.out], by rw [HB2.out], by rw [HC2.out], HO2.out, trivial⟩
                case measure => have := HQ.out; simp [Go.RowKit.intOf]; omega
            · have _b := htq
              cases C0 with
              | true =>
                have HA2 : Hid (aheadF T s.n s.hit (q + 1) = A0) := by show _ = _; unfold aheadF; rw [HA.out, hg]; simp [hqn, hqt]
                have HB2 : Hid (behindF T s.hit (q + 1) = B0) := by show _ = _; unfold behindF; rw [HB.out, hg]; simp [htq]
                have HC2 : Hid (anyF s.hit (q + 1) = true) := by show _ = _; unfold anyF; rw [HC.out, hg]; rfl
                have HO2 : Hid (outF s.n s.hit (q + 1) = false) := by show _ = _; unfold outF; rw [HO.out, hg]; simp [hqn]
                have HQ := hide hq8
                clear hg HA HB HC HO hq
                go_wp2_with (refine wpList_val rfl (by rfl) (EX.out _ _ (by rfl) (by rfl) (by rfl)) ?_)
                go_roundw
                case rel => exact ⟨q + 1, by go_num, by have := HQ.out; omega, by rw [HA2.out], by rw [HB2.out], by rw [HC2.out], HO2.out, trivial⟩
                case measure => have := HQ.out; simp [Go.RowKit.intOf]; omega
              | false =>
                have HA2 : Hid (aheadF T s.n s.hit (q + 1) = A0) := by show _ = _; unfold aheadF; rw [HA.out, hg]; simp [hqn, hqt]
                have HB2 : Hid (behindF T s.hit (q + 1) = B0) := by show _ = _; unfold behindF; rw [HB.out, hg]; simp [htq]
                have HC2 : Hid (anyF s.hit (q + 1) = true) := by show _ = _; unfold anyF; rw [HC.out, hg]; rfl
                have HO2 : Hid (outF s.n s.hit (q + 1) = false) := by show _ = _; unfold outF; rw [HO.out, hg]; simp [hqn]
                have HQ := hide hq8
                clear hg HA HB HC HO hq
                go_wp2_with (refine wpList_val rfl (by rfl) (EX.out _ _ (by rfl) (by rfl) (by rfl)) ?_)
                go_roundw
                case rel => exact ⟨q + 1, by go_num, by have := HQ.out; omega, by rw [HA2.out], by rw [HB2.out], by rw [HC2.out], HO2.out, trivial⟩
                case measure => have := HQ.out; simp [Go.RowKit.intOf]; omega
        · have b1 : (s.n : Int) ≤ (q : Int) := by omega
          have hbad : outF s.n s.hit 8 = true := by
            cases ho8 : outF s.n s.hit 8 with
            | true => rfl
            | false =>
              have := out_iff.1 ho8 q hq8 (by omega)
              rw [hg] at this
              cases this
          have hR0 : R = false := by
            rw [← HR.out]
            unfold rgoodF
            rw [if_neg (fun h => h HE.out), ← HN.out, if_pos hbad]
          clear hbad hg HA HB HC HO hq
          subst hR0
          go_wp2_with (refine wpList_val rfl (by rfl) (EX.out _ _ (by rfl) (by rfl) (by rfl)) ?_)
          go_ret
          exact ⟨rfl, L2.out⟩
      | false =>
        have EX : Hid (∀ {op : Oper} {a : Act} {W : World} (p z : Operand), op.op = .index 25 p z → a.eval p = s.hit.val → a.eval z = .int .i64 (q : Int) → (execOp a.eval op).run Tryz.prog W = .ok (.value (.bool false)) W) := fun {op a W} p z e1 e2 e3 => by have := EX0.out op a W p z e1 e2 e3; rwa [hg] at this
        clear EX0
        by_cases hqt : (q : Int) < T
        · have b3 : ¬ T < (q : Int) := by omega
          by_cases hqn : q < s.n
          · have b2 : (q : Int) < (s.n : Int) := by omega
            cases C0 with
            | true =>
              have HA2 : Hid (aheadF T s.n s.hit (q + 1) = false) := by show _ = _; unfold aheadF; rw [HA.out, hg]; simp [hqn, hqt]
              have HB2 : Hid (behindF T s.hit (q + 1) = B0) := by show _ = _; unfold behindF; rw [HB.out, hg]; simp [b3]
              have HC2 : Hid (anyF s.hit (q + 1) = true) := by show _ = _; unfold anyF; rw [HC.out, hg]; rfl
              have HO2 : Hid (outF s.n s.hit (q + 1) = false) := by show _ = _; unfold outF; rw [HO.out, hg]; simp
              have HQ := hide hq8
              clear hg HA HB HC HO hq
              go_wp2_with (refine wpList_val rfl (by rfl) (EX.out _ _ (by rfl) (by rfl) (by rfl)) ?_)
              go_roundw
              case rel => exact ⟨q + 1, by go_num, by have := HQ.out; omega, by rw [HA2.out], by rw [HB2.out], by rw [HC2.out], HO2.out, trivial⟩
              case measure => have := HQ.out; simp [Go.RowKit.intOf]; omega
            | false =>
              have HA2 : Hid (aheadF T s.n s.hit (q + 1) = false) := by show _ = _; unfold aheadF; rw [HA.out, hg]; simp [hqn, hqt]
              have HB2 : Hid (behindF T s.hit (q + 1) = B0) := by show _ = _; unfold behindF; rw [HB.out, hg]; simp [b3]
              have HC2 : Hid (anyF s.hit (q + 1) = false) := by show _ = _; unfold anyF; rw [HC.out, hg]; rfl
              have HO2 : Hid (outF s.n s.hit (q + 1) = false) := by show _ = _; unfold outF; rw [HO.out, hg]; simp
              have HQ := hide hq8
              clear hg HA HB HC HO hq
              go_wp2_with (refine wpList_val rfl (by rfl) (EX.out _ _ (by rfl) (by rfl) (by rfl)) ?_)
              go_roundw
              case rel => exact ⟨q + 1, by go_num, by have := HQ.out; omega, by rw [HA2.out], by rw [HB2.out], by rw [HC2.out], HO2.out, trivial⟩
              case measure => have := HQ.out; simp [Go.RowKit.intOf]; omega
          · have b2 : ¬ (q : Int) < (s.n : Int) := by omega
            cases C0 with
            | true =>
              have HA2 : Hid (aheadF T s.n s.hit (q + 1) = A0) := by show _ = _; unfold aheadF; rw [HA.out, hg]; simp [hqn, hqt]
              have HB2 : Hid (behindF T s.hit (q + 1) = B0) := by show _ = _; unfold behindF; rw [HB.out, hg]; simp [b3]
              have HC2 : Hid (anyF s.hit (q + 1) = true) := by show _ = _; unfold anyF; rw [HC.out, hg]; rfl
              have HO2 : Hid (outF s.n s.hit (q + 1) = false) := by show _ = _; unfold outF; rw [HO.out, hg]; simp
              have HQ := hide hq8
              clear hg HA HB HC HO hq
              go_wp2_with (refine wpList_val rfl (by rfl) (EX.out _ _ (by rfl) (by rfl) (by rfl)) ?_)
              go_roundw
              case rel => exact ⟨q + 1, by go_num, by have := HQ.out; omega, by rw [HA2.out], by rw [HB2.out], by rw [HC2.out], HO2.out, trivial⟩
              case measure => have := HQ.out; simp [Go.RowKit.intOf]; omega
            | false =>
              have HA2 : Hid (aheadF T s.n s.hit (q + 1) = A0) := by show _ = _; unfold aheadF; rw [HA.out, hg]; simp [hqn, hqt]
              have HB2 : Hid (behindF T s.hit (q + 1) = B0) := by show _ = _; unfold behindF; rw [HB.out, hg]; simp [b3]
              have HC2 : Hid (anyF s.hit (q + 1) = false) := by show _ = _; unfold anyF; rw [HC.out, hg]; rfl
              have HO2 : Hid (outF s.n s.hit (q + 1) = false) := by show _ = _; unfold outF; rw [HO.out, hg]; simp
              have HQ := hide hq8
              clear hg HA HB HC HO hq
              go_wp2_with (refine wpList_val rfl (by rfl) (EX.out _ _ (by rfl) (by rfl) (by rfl)) ?_)
              go_roundw
              case rel => exact ⟨q + 1, by go_num, by have := HQ.out; omega, by rw [HA2.out], by rw [HB2.out], by rw [HC2.out], HO2.out, trivial⟩
              case measure => have := HQ.out; simp [Go.RowKit.intOf]; omega
        · by_cases htq : T < (q : Int)
          · have _b := htq
            cases C0 with
            | true =>
              have HA2 : Hid (aheadF T s.n s.hit (q + 1) = A0) := by show _ = _; unfold aheadF; rw [HA.out, hg]; simp [hqt]
              have HB2 : Hid (behindF T s.hit (q + 1) = B0) := by show _ = _; unfold behindF; rw [HB.out, hg]; simp [htq]
              have HC2 : Hid (anyF s.hit (q + 1) = true) := by show _ = _; unfold anyF; rw [HC.out, hg]; rfl
              have HO2 : Hid (outF s.n s.hit (q + 1) = false) := by show _ = _; unfold outF; rw [HO.out, hg]; simp
              have HQ := hide hq8
              clear hg HA HB HC HO hq
              go_wp2_with (refine wpList_val rfl (by rfl) (EX.out _ _ (by rfl) (by rfl) (by rfl)) ?_)
              go_roundw
              case rel => exact ⟨q + 1, by go_num, by have := HQ.out; omega, by rw [HA2.out], by rw [HB2.out], by rw [HC2.out], HO2.out, trivial⟩
              case measure => have := HQ.out; simp [Go.RowKit.intOf]; omega
            | false =>
              have HA2 : Hid (aheadF T s.n s.hit (q + 1) = A0) := by show _ = _; unfold aheadF; rw [HA.out, hg]; simp [hqt]
              have HB2 : Hid (behindF T s.hit (q + 1) = B0) := by show _ = _; unfold behindF; rw [HB.out, hg]; simp [htq]
              have HC2 : Hid (anyF s.hit (q + 1) = false) := by show _ = _; unfold anyF; rw [HC.out, hg]; rfl
              have HO2 : Hid (outF s.n s.hit (q + 1) = false) := by show _ = _; unfold outF; rw [HO.out, hg]; simp
              have HQ := hide hq8
              clear hg HA HB HC HO hq
              go_wp2_with (refine wpList_val rfl (by rfl) (EX.out _ _ (by rfl) (by rfl) (by rfl)) ?_)
              go_roundw
              case rel => exact ⟨q + 1, by go_num, by have := HQ.out; omega, by rw [HA2.out], by rw [HB2.out], by rw [HC2.out], HO2.out, trivial⟩
              case measure => have := HQ.out; simp [Go.RowKit.intOf]; omega
          · have _b := htq
            cases C0 with
            | true =>
              have HA2 : Hid (aheadF T s.n s.hit (q + 1) = A0) := by show _ = _; unfold aheadF; rw [HA.out, hg]; simp [hqt]
              have HB2 : Hid (behindF T s.hit (q + 1) = B0) := by show _ = _; unfold behindF; rw [HB.out, hg]; simp [htq]
              have HC2 : Hid (anyF s.hit (q + 1) = true) := by show _ = _; unfold anyF; rw [HC.out, hg]; rfl
              have HO2 : Hid (outF s.n s.hit (q + 1) = false) := by show _ = _; unfold outF; rw [HO.out, hg]; simp
              have HQ := hide hq8
              clear hg HA HB HC HO hq
              go_wp2_with (refine wpList_val rfl (by rfl) (EX.out _ _ (by rfl) (by rfl) (by rfl)) ?_)
              go_roundw
              case rel => exact ⟨q + 1, by go_num, by have := HQ.out; omega, by rw [HA2.out], by rw [HB2.out], by rw [HC2.out], HO2.out, trivial⟩
              case measure => have := HQ.out; simp [Go.RowKit.intOf]; omega
            | false =>
              have HA2 : Hid (aheadF T s.n s.hit (q + 1) = A0) := by show _ = _; unfold aheadF; rw [HA.out, hg]; simp [hqt]
              have HB2 : Hid (behindF T s.hit (q + 1) = B0) := by show _ = _; unfold behindF; rw [HB.out, hg]; simp [htq]
              have HC2 : Hid (anyF s.hit (q + 1) = false) := by show _ = _; unfold anyF; rw [HC.out, hg]; rfl
              have HO2 : Hid (outF s.n s.hit (q + 1) = false) := by show _ = _; unfold outF; rw [HO.out, hg]; simp
              have HQ := hide hq8
              clear hg HA HB HC HO hq
              go_wp2_with (refine wpList_val rfl (by rfl) (EX.out _ _ (by rfl) (by rfl) (by rfl)) ?_)
              go_roundw
              case rel => exact ⟨q + 1, by go_num, by have := HQ.out; omega, by rw [HA2.out], by rw [HB2.out], by rw [HC2.out], HO2.out, trivial⟩
              case measure => have := HQ.out; simp [Go.RowKit.intOf]; omega
    · obtain rfl : q = 8 := by omega
      have HT1 : Hid (1 ≤ s.step → T = s.step - 1) := fun g => by
        have h1 := HI.out
        unfold I64 at h1
        rw [← HT.out]
        exact IntWalk.i64_in _ (by omega)
      clear hq8 hq
      go_upto_region 17 with (fail)
      go_cut [11] (fun s11 wx => s11 = .bool (withinF s.n s) ∧ wx = w2)
      case first =>
        by_cases g1 : 1 ≤ s.step
        · have HW : Hid (withinF s.n s = (decide (s.step ≤ (s.n : Int)) && (A0 && !B0))) := by
            show _ = _
            unfold withinF
            rw [decide_eq_true g1, ← HT1.out g1, HA.out, HB.out, Bool.true_and]
          by_cases g2 : s.step ≤ (s.n : Int)
          · have HW2 : Hid (withinF s.n s = (A0 && !B0)) := by show _ = _; rw [HW.out, decide_eq_true g2, Bool.true_and]
            clear HA HB
            cases A0 with
            | true =>
              cases B0 with
              | true =>
                go_wp2_with (fail)
                go_meet
                exact ⟨by rw [HW2.out]; rfl, rfl⟩
              | false =>
                go_wp2_with (fail)
                go_meet
                exact ⟨by rw [HW2.out]; rfl, rfl⟩
            | false =>
              go_wp2_with (fail)
              go_meet
              exact ⟨by rw [HW2.out]; rfl, rfl⟩
          · have HW2 : Hid (withinF s.n s = false) := by show _ = _; rw [HW.out, decide_eq_false g2]; rfl
            go_wp2_with (fail)
            go_meet
            exact ⟨by rw [HW2.out], rfl⟩
        · have HW2 : Hid (withinF s.n s = false) := by show _ = _; unfold withinF; rw [decide_eq_false g1]; rfl
          go_wp2_with (fail)
          go_meet
          exact ⟨by rw [HW2.out], rfl⟩
      case rest =>
        obtain ⟨rfl, hwc⟩ := hcut
        obtain rfl := hwc.symm
        obtain ⟨Wn, hWn⟩ : ∃ a, withinF s.n s = a := ⟨_, rfl⟩
        rw [hWn]
        have HWN := hide hWn
        obtain ⟨TN, hTN⟩ : ∃ a, triesN l s.step = a := ⟨_, rfl⟩
        rw [hTN] at C
        have HTN := hide hTN
        clear hWn hwc hTN HA HB HT HT1 c3 d1
        have XD := hide (show SBox 34 g s w2.drew from X2.out)
        have LD := hide (L2.out.trans (Later.drew w2))
        have LD1 := hide (L12.out.trans (Later.drew w2))
        have LDD := hide (Later.drew w2)
        go_upto_region 18 with (fail)
        go_cut [12] (fun s12 wx => s12 = .bool (decide (1 ≤ s.tr) && decide (s.tr ≤ TN)) ∧ Later w2 wx)
        case first =>
          by_cases g1 : 1 ≤ s.tr
          · have HD1 := hide (decide_eq_true g1)
            refine wp_region_L (by kernel_rfl) ?_
            refine wpAnyL_take (i := 0) (d := some 82) (v := ?vaa0) rfl rfl (by kernel_rfl) (by kernel_rfl) (by kernel_rfl) (fun _ _ _ h => h) (by rfl) ?yaa0 ?_
            case yaa0 => (intro w' hw'; go_simp; try (with_reducible rfl))
            simp only [Act.put]; try simp only [sA_, sZ_, sS_]
            refine wpAnyL_take (i := 1) (d := some 83) (v := ?vaa1) rfl rfl (by kernel_rfl) (by kernel_rfl) (by kernel_rfl) (fun _ _ _ h => h) (by rfl) ?yaa1 ?_
            case yaa1 => (intro w' hw'; have c4 := (XD.out.below hw').c4; go_simp; try (with_reducible rfl))
            simp only [Act.put]; try simp only [sA_, sZ_, sS_]
            refine wpAnyL_take (i := 2) (d := some 84) (v := .bool true) rfl rfl (by kernel_rfl) (by kernel_rfl) (by kernel_rfl) (fun _ _ _ h => h) (by rfl) ?yaa2 ?_
            case yaa2 => (intro w' hw'; go_simp <;> omega)
            simp only [Act.put]; try simp only [sA_, sZ_, sS_]
            refine wpAnyL_take (i := 3) (d := some 85) (v := ?vaa3) rfl rfl (by kernel_rfl) (by kernel_rfl) (by kernel_rfl) (fun _ _ _ h => h) (by rfl) ?yaa3 ?_
            case yaa3 => (intro w' hw'; go_simp; try (with_reducible rfl))
            simp only [Act.put]; try simp only [sA_, sZ_, sS_]
            refine wpAnyL_take (i := 4) (d := some 86) (v := ?vaa4) rfl rfl (by kernel_rfl) (by kernel_rfl) (by kernel_rfl) (fun _ _ _ h => h) (by rfl) ?yaa4 ?_
            case yaa4 => (intro w' hw'; go_simp; try (with_reducible rfl))
            simp only [Act.put]; try simp only [sA_, sZ_, sS_]
            refine wpAnyL_take (i := 5) (d := some 87) (v := ?vaa5) rfl rfl (by kernel_rfl) (by kernel_rfl) (by kernel_rfl) (fun _ _ _ h => h) (by rfl) ?yaa5 ?_
            case yaa5 => (intro w' hw'; have c4 := (XD.out.below hw').c4; go_simp; try (with_reducible rfl))
            simp only [Act.put]; try simp only [sA_, sZ_, sS_]
            refine wpAnyL_take (i := 6) (d := some 88) (v := ?vaa6) rfl rfl (by kernel_rfl) (by kernel_rfl) (by kernel_rfl) (fun _ _ _ h => h) (by rfl) ?yaa6 ?_
            case yaa6 => (intro w' hw'; go_simp; try (with_reducible rfl))
            simp only [Act.put]; try simp only [sA_, sZ_, sS_]
            refine wpAnyL_take (i := 7) (d := some 89) (v := .agg #[.string s.name, .slice s.p s.n s.c]) rfl rfl (by kernel_rfl) (by kernel_rfl) (by kernel_rfl) (fun _ _ _ h => h) (by rfl) ?yaa7 ?_
            case yaa7 => (intro w' hw'; exact exec_load_sdef _ (by rfl) (by rfl) (XD.out.below hw'))
            simp only [Act.put]; try simp only [sA_, sZ_, sS_]
            refine wpAnyL_take (i := 8) (d := some 90) (v := ?vaa8) rfl rfl (by kernel_rfl) (by kernel_rfl) (by kernel_rfl) (fun _ _ _ h => h) (by rfl) ?yaa8 ?_
            case yaa8 => (intro w' hw'; go_simp; try (with_reducible rfl))
            simp only [Act.put]; try simp only [sA_, sZ_, sS_]
            refine wpAnyL_take (i := 9) (d := some 91) (v := ?vaa9) rfl rfl (by kernel_rfl) (by kernel_rfl) (by kernel_rfl) (fun _ _ _ h => h) (by rfl) ?yaa9 ?_
            case yaa9 => (intro w' hw'; have c3 := (XD.out.below hw').c3; go_simp; try (with_reducible rfl))
            simp only [Act.put]; try simp only [sA_, sZ_, sS_]
            refine wpAnyL_only (i := 10) rfl (by kernel_rfl) (by rfl) fun K hK => ?_
            go_simp
            refine (C.out _ LD1.out).mono ?_
            rintro e w_10 ⟨rfl, hl_⟩
            have L2x := hide (LDD.out.trans hl_)
            have X10 := hide (XD.out.below hl_)
            refine hK.out _ _ hl_ ?_
            clear hl_
            clear hK K
            try (simp only [Act.put]; try simp only [sA_, sZ_, sS_])
            refine wpAnyL_take (i := 11) (d := some 93) (v := ?vaa11) rfl rfl (by kernel_rfl) (by kernel_rfl) (by kernel_rfl) (fun _ _ _ h => h) (by rfl) ?yaa11 ?_
            case yaa11 => (intro w' hw'; go_simp; try (with_reducible rfl))
            simp only [Act.put]; try simp only [sA_, sZ_, sS_]
            refine wpAnyL_take (i := 12) (d := some 94) (v := ?vaa12) rfl rfl (by kernel_rfl) (by kernel_rfl) (by kernel_rfl) (fun _ _ _ h => h) (by rfl) ?yaa12 ?_
            case yaa12 => (intro w' hw'; go_simp; try (with_reducible rfl))
            simp only [Act.put]; try simp only [sA_, sZ_, sS_]
            refine wpAnyL_take (i := 13) (d := some 12) (v := ?vaa13) rfl rfl (by kernel_rfl) (by kernel_rfl) (by kernel_rfl) (fun _ _ _ h => h) (by rfl) ?yaa13 ?_
            case yaa13 => (intro w' hw'; go_simp; try (with_reducible rfl))
            simp only [Act.put]; try simp only [sA_, sZ_, sS_]
            refine wpAnyL_done (by kernel_rfl) ?_ _
            go_wp2_with (fail)
            go_meet
            exact ⟨by rw [HD1.out, Bool.true_and], L2x.out⟩
          · have HD1 := hide (decide_eq_false g1)
            refine wp_region_L (by kernel_rfl) ?_
            refine wpAnyL_take (i := 0) (d := some 82) (v := ?vab0) rfl rfl (by kernel_rfl) (by kernel_rfl) (by kernel_rfl) (fun _ _ _ h => h) (by rfl) ?yab0 ?_
            case yab0 => (intro w' hw'; go_simp; try (with_reducible rfl))
            simp only [Act.put]; try simp only [sA_, sZ_, sS_]
            refine wpAnyL_take (i := 1) (d := some 83) (v := ?vab1) rfl rfl (by kernel_rfl) (by kernel_rfl) (by kernel_rfl) (fun _ _ _ h => h) (by rfl) ?yab1 ?_
            case yab1 => (intro w' hw'; have c4 := (XD.out.below hw').c4; go_simp; try (with_reducible rfl))
            simp only [Act.put]; try simp only [sA_, sZ_, sS_]
            refine wpAnyL_take (i := 2) (d := some 84) (v := .bool false) rfl rfl (by kernel_rfl) (by kernel_rfl) (by kernel_rfl) (fun _ _ _ h => h) (by rfl) ?yab2 ?_
            case yab2 => (intro w' hw'; go_simp <;> omega)
            simp only [Act.put]; try simp only [sA_, sZ_, sS_]
            refine wpAnyL_take (i := 3) (d := some 85) (v := ?vab3) rfl rfl (by kernel_rfl) (by kernel_rfl) (by kernel_rfl) (fun _ _ _ h => h) (by rfl) ?yab3 ?_
            case yab3 => (intro w' hw'; go_simp; try (with_reducible rfl))
            simp only [Act.put]; try simp only [sA_, sZ_, sS_]
            refine wpAnyL_pass (i := 4) (d := some 86) rfl rfl (by kernel_rfl) (by kernel_rfl) (by kernel_rfl) (fun _ _ _ h => h) (by rfl) ?_
            try (simp only [Act.put]; try simp only [sA_, sZ_, sS_])
            refine wpAnyL_pass (i := 5) (d := some 87) rfl rfl (by kernel_rfl) (by kernel_rfl) (by kernel_rfl) (fun _ _ _ h => h) (by rfl) ?_
            try (simp only [Act.put]; try simp only [sA_, sZ_, sS_])
            refine wpAnyL_pass (i := 6) (d := some 88) rfl rfl (by kernel_rfl) (by kernel_rfl) (by kernel_rfl) (fun _ _ _ h => h) (by rfl) ?_
            try (simp only [Act.put]; try simp only [sA_, sZ_, sS_])
            refine wpAnyL_pass (i := 7) (d := some 89) rfl rfl (by kernel_rfl) (by kernel_rfl) (by kernel_rfl) (fun _ _ _ h => h) (by rfl) ?_
            try (simp only [Act.put]; try simp only [sA_, sZ_, sS_])
            refine wpAnyL_pass (i := 8) (d := some 90) rfl rfl (by kernel_rfl) (by kernel_rfl) (by kernel_rfl) (fun _ _ _ h => h) (by rfl) ?_
            try (simp only [Act.put]; try simp only [sA_, sZ_, sS_])
            refine wpAnyL_pass (i := 9) (d := some 91) rfl rfl (by kernel_rfl) (by kernel_rfl) (by kernel_rfl) (fun _ _ _ h => h) (by rfl) ?_
            try (simp only [Act.put]; try simp only [sA_, sZ_, sS_])
            refine wpAnyL_pass (i := 10) (d := some 92) rfl rfl (by kernel_rfl) (by kernel_rfl) (by kernel_rfl) (fun _ _ _ h => h) (by rfl) ?_
            try (simp only [Act.put]; try simp only [sA_, sZ_, sS_])
            refine wpAnyL_pass (i := 11) (d := some 93) rfl rfl (by kernel_rfl) (by kernel_rfl) (by kernel_rfl) (fun _ _ _ h => h) (by rfl) ?_
            try (simp only [Act.put]; try simp only [sA_, sZ_, sS_])
            refine wpAnyL_take (i := 12) (d := some 94) (v := ?vab12) rfl rfl (by kernel_rfl) (by kernel_rfl) (by kernel_rfl) (fun _ _ _ h => h) (by rfl) ?yab12 ?_
            case yab12 => (intro w' hw'; go_simp; try (with_reducible rfl))
            simp only [Act.put]; try simp only [sA_, sZ_, sS_]
            refine wpAnyL_take (i := 13) (d := some 12) (v := ?vab13) rfl rfl (by kernel_rfl) (by kernel_rfl) (by kernel_rfl) (fun _ _ _ h => h) (by rfl) ?yab13 ?_
            case yab13 => (intro w' hw'; go_simp; try (with_reducible rfl))
            simp only [Act.put]; try simp only [sA_, sZ_, sS_]
            refine wpAnyL_done (by kernel_rfl) ?_ _
            go_wp2_with (fail)
            go_meet
            exact ⟨by rw [HD1.out]; rfl, LDD.out⟩
        case rest =>
          obtain ⟨rfl, hlw⟩ := hcut
          obtain ⟨w5, rfl⟩ : ∃ w5, w5 = wc := ⟨wc, rfl⟩
          have L5 := hide (L2.out.trans hlw)
          have L15 := hide (L12.out.trans hlw)
          have X5 := hide (X2.out.below hlw)
          obtain ⟨Td, hTd⟩ : ∃ a, (decide (1 ≤ s.tr) && decide (s.tr ≤ TN)) = a := ⟨_, rfl⟩
          rw [hTd]
          have HTD := hide hTd
          have HR2 : Hid (R = (if s.st = 1 then Wn && Td else if s.st = 2 then Wn && (Td && (s.hit.get (s.step - 1).toNat && undoAt l s.step)) else if s.st = 5 then Wn && decide (s.tr = 0) else if s.st = 3 then decide (s.step = 0) && (decide (s.tr = 0) && allF s.hit s.n) else if s.st = 4 then decide (s.step = 0) && (decide (s.tr = 0) && !C0) else false)) := by
            show _ = _
            have ho := HO.out
            rw [← HR.out]
            unfold rgoodF
            rw [if_neg (fun h => h HE.out), ← HN.out, if_neg (by rw [ho]; simp), HTN.out, HTD.out, HWN.out, HC.out]
          have c2 := X5.out.c2
          have c3 := X5.out.c3
          have c4 := X5.out.c4
          clear hlw hTd LD LD1 LDD XD
          by_cases n1 : s.st = 1
          · have HV : Hid (R = (Wn && Td)) := by show _ = _; rw [HR2.out, if_pos n1]
            rw [n1] at c2
            clear HR2 HR n1
            cases Wn with
            | true =>
              go_wp2_with (fail)
              go_ret
              exact ⟨ret_bool (by rw [HV.out]; rfl), L5.out⟩
            | false =>
              go_wp2_with (fail)
              go_ret
              exact ⟨ret_bool (by rw [HV.out]; rfl), L5.out⟩
          · have b1 : (s.st == 1) = false := by rw [beq_eq_false_iff_ne]; exact n1
            by_cases n2 : s.st = 2
            · have HV : Hid (R = (Wn && (Td && (s.hit.get (s.step - 1).toNat && undoAt l s.step)))) := by show _ = _; rw [HR2.out, if_neg n1, if_pos n2]
              rw [n2] at c2
              clear HR2 HR n1 n2 b1
              cases Wn with
              | true =>
                cases Td with
                | true =>
                  have hin := HWN.out
                  unfold withinF at hin
                  simp only [Bool.and_eq_true, decide_eq_true_eq] at hin
                  obtain ⟨q, hq⟩ : ∃ q : Nat, s.step = (q : Int) + 1 := ⟨(s.step - 1).toNat, by omega⟩
                  have hql : q < l.length := by rw [← HN.out]; omega
                  have hq8 : q < 8 := by have := (check_good HE.out).1; omega
                  obtain ⟨x, b, off, c', hx, hvv, _, _, hb, hr⟩ := StepsAt.at_ (HS.out w5 L15.out) (i := q) hql
                  rw [← HN.out] at hvv
                  have hv1 : s.p = some ⟨b, off, none⟩ := by
                    unfold SagaD.v at hvv
                    injection hvv
                  obtain ⟨r0, r1, r2, r3, r4, r5⟩ := range_step hr
                  have hu : undoAt l s.step = x.undo := by unfold undoAt; rw [hq, show ((q : Int) + 1 - 1).toNat = q from by omega, hx]; rfl
                  have c1 := X5.out.c1
                  rw [hv1] at c1
                  rw [hq] at c3
                  have hh := X5.out.hitAt hq8
                  obtain ⟨hb0, hhb⟩ : ∃ a, s.hit.get q = a := ⟨_, rfl⟩
                  have HV2 : Hid (R = (hb0 && x.undo)) := by show _ = _; rw [HV.out, hu, hq, show ((q : Int) + 1 - 1).toNat = q from by omega, hhb]; rfl
                  rw [hhb] at hh
                  have hqn : q < s.n := by rw [HN.out]; exact hql
                  have hwr : IntKind.i64.wrap (q : Int) = (q : Int) := wrap_fits (by omega)
                  clear hin hx hvv hr r0 r1 r2 r3 r5 hu HV hv1 hhb hq hql hb
                  cases hb0 with
                  | true =>
                    go_wp2_with (fail)
                    go_ret
                    exact ⟨ret_bool (by rw [HV2.out]; rfl), L5.out⟩
                  | false =>
                    go_wp2_with (fail)
                    go_ret
                    exact ⟨ret_bool (by rw [HV2.out]; rfl), L5.out⟩
                | false =>
                  go_wp2_with (fail)
                  go_ret
                  exact ⟨ret_bool (by rw [HV.out]; rfl), L5.out⟩
              | false =>
                go_wp2_with (fail)
                go_ret
                exact ⟨ret_bool (by rw [HV.out]; rfl), L5.out⟩
            · have b2 : (s.st == 2) = false := by rw [beq_eq_false_iff_ne]; exact n2
              by_cases n5 : s.st = 5
              · have HV : Hid (R = (Wn && decide (s.tr = 0))) := by show _ = _; rw [HR2.out, if_neg n1, if_neg n2, if_pos n5]
                rw [n5] at c2 b1 b2
                clear HR2 HR n1 n2 n5
                cases Wn with
                | true =>
                  by_cases t0 : s.tr = 0
                  · have HV2 : Hid (R = true) := by show _ = _; rw [HV.out, decide_eq_true t0]; rfl
                    rw [t0] at c4
                    clear t0
                    go_wp2_with (fail)
                    go_ret
                    exact ⟨ret_bool (by rw [HV2.out]), L5.out⟩
                  · have HV2 : Hid (R = false) := by show _ = _; rw [HV.out, decide_eq_false t0]; rfl
                    have b4 : (s.tr == 0) = false := by rw [beq_eq_false_iff_ne]; exact t0
                    clear t0
                    go_wp2_with (fail)
                    go_ret
                    exact ⟨ret_bool (by rw [HV2.out]), L5.out⟩
                | false =>
                  go_wp2_with (fail)
                  go_ret
                  exact ⟨ret_bool (by rw [HV.out]; rfl), L5.out⟩
              · have b5 : (s.st == 5) = false := by rw [beq_eq_false_iff_ne]; exact n5
                by_cases n3 : s.st = 3
                · have HV : Hid (R = (decide (s.step = 0) && (decide (s.tr = 0) && allF s.hit s.n))) := by show _ = _; rw [HR2.out, if_neg n1, if_neg n2, if_neg n5, if_pos n3]
                  rw [n3] at c2 b1 b2 b5
                  have hn8 : s.n ≤ 8 := by rw [HN.out]; exact (check_good HE.out).1
                  clear HR2 HR n1 n2 n5 n3
                  go_wp2_with (fail)
                  go_loopw [14, 13] (fun ti a wr => ∃ q : Nat, ti = .int .i64 (q : Int) ∧ q ≤ s.n ∧ a = .bool (allF s.hit q) ∧ wr = w5) (fun ti _ _ => s.n - (Go.RowKit.intOf ti).toNat)
                  case atStart => exact ⟨0, rfl, by omega, rfl, rfl⟩
                  case round =>
                    obtain ⟨q, rfl, hq, rfl, hwr⟩ := hrel
                    obtain rfl := hwr.symm
                    obtain ⟨A1, hA1⟩ : ∃ a, allF s.hit q = a := ⟨_, rfl⟩
                    rw [hA1]
                    have HA1 := hide hA1
                    clear hwr hA1
                    by_cases hqn : q < s.n
                    · have hh := X5.out.hitAt (i := q) (by omega)
                      have HNX : Hid (allF s.hit (q + 1) = (A1 && s.hit.get q)) := by show _ = _; unfold allF; rw [HA1.out]
                      obtain ⟨hb0, hhb⟩ : ∃ a, s.hit.get q = a := ⟨_, rfl⟩
                      rw [hhb] at hh HNX
                      have hqn' : (q : Int) < (s.n : Int) := by omega
                      have hq8 : q < 8 := by omega
                      have HQN := hide hqn
                      clear hhb hqn hn8 hq
                      cases A1 with
                      | true =>
                        go_wp2_with (fail)
                        go_roundw
                        case rel => exact ⟨q + 1, by go_num, HQN.out, by rw [HNX.out]; rfl, trivial⟩
                        case measure => have := HQN.out; simp [Go.RowKit.intOf]; omega
                      | false =>
                        go_wp2_with (fail)
                        go_roundw
                        case rel => exact ⟨q + 1, by go_num, HQN.out, by rw [HNX.out]; rfl, trivial⟩
                        case measure => have := HQN.out; simp [Go.RowKit.intOf]; omega
                    · have hqn' : ¬ (q : Int) < (s.n : Int) := by omega
                      have hqe : q = s.n := by omega
                      rw [hqe] at HA1
                      clear hqe hqn hq hn8
                      by_cases s0 : s.step = 0
                      · by_cases t0 : s.tr = 0
                        · have HV2 : Hid (R = A1) := by show _ = _; rw [HV.out, decide_eq_true s0, decide_eq_true t0, HA1.out]; rfl
                          rw [s0] at c3
                          rw [t0] at c4
                          clear s0 t0
                          go_wp2_with (fail)
                          go_ret
                          exact ⟨ret_bool (by rw [HV2.out]), L5.out⟩
                        · have HV2 : Hid (R = false) := by show _ = _; rw [HV.out, decide_eq_false t0]; simp
                          have b4 : (s.tr == 0) = false := by rw [beq_eq_false_iff_ne]; exact t0
                          rw [s0] at c3
                          clear s0 t0
                          go_wp2_with (fail)
                          go_ret
                          exact ⟨ret_bool (by rw [HV2.out]), L5.out⟩
                      · have HV2 : Hid (R = false) := by show _ = _; rw [HV.out, decide_eq_false s0]; rfl
                        have b4 : (s.step == 0) = false := by rw [beq_eq_false_iff_ne]; exact s0
                        clear s0
                        go_wp2_with (fail)
                        go_ret
                        exact ⟨ret_bool (by rw [HV2.out]), L5.out⟩
                · have b3 : (s.st == 3) = false := by rw [beq_eq_false_iff_ne]; exact n3
                  by_cases n4 : s.st = 4
                  · have HV : Hid (R = (decide (s.step = 0) && (decide (s.tr = 0) && !C0))) := by show _ = _; rw [HR2.out, if_neg n1, if_neg n2, if_neg n5, if_neg n3, if_pos n4]
                    rw [n4] at c2 b1 b2 b5 b3
                    clear HR2 HR n1 n2 n5 n3 n4
                    by_cases s0 : s.step = 0
                    · by_cases t0 : s.tr = 0
                      · have HV2 : Hid (R = !C0) := by show _ = _; rw [HV.out, decide_eq_true s0, decide_eq_true t0]; rfl
                        rw [s0] at c3
                        rw [t0] at c4
                        clear s0 t0
                        go_wp2_with (fail)
                        go_ret
                        exact ⟨ret_bool (by rw [HV2.out]), L5.out⟩
                      · have HV2 : Hid (R = false) := by show _ = _; rw [HV.out, decide_eq_false t0]; simp
                        have b4 : (s.tr == 0) = false := by rw [beq_eq_false_iff_ne]; exact t0
                        rw [s0] at c3
                        clear s0 t0
                        go_wp2_with (fail)
                        go_ret
                        exact ⟨ret_bool (by rw [HV2.out]), L5.out⟩
                    · have HV2 : Hid (R = false) := by show _ = _; rw [HV.out, decide_eq_false s0]; rfl
                      have b4 : (s.step == 0) = false := by rw [beq_eq_false_iff_ne]; exact s0
                      clear s0
                      go_wp2_with (fail)
                      go_ret
                      exact ⟨ret_bool (by rw [HV2.out]), L5.out⟩
                  · have b4 : (s.st == 4) = false := by rw [beq_eq_false_iff_ne]; exact n4
                    have HV : Hid (R = false) := by show _ = _; rw [HR2.out, if_neg n1, if_neg n2, if_neg n5, if_neg n3, if_neg n4]
                    clear HR2 HR n1 n2 n5 n3 n4
                    go_wp2_with (fail)
                    go_ret
                    exact ⟨ret_bool (by rw [HV.out]), L5.out⟩
theorem rgood_any {F : Nat → Prop} {s : SagaD} {l : List StepD} (h : StepsAt F w s.v l) (hw : ∀ x ∈ l, x.wf) (h1 : I64 s.step) : Calls Tryz.prog 25 #[s.val] w (Gives (.bool (goodF l s)) w) := by
  rw [← good_same]
  by_cases he : (checkF s.name l).2 = 0
  · exact rgood_ok h hw h1 he
  · exact rgood_err h hw h1 he
end
end Go.Proofs.YtdkiopajilakcaaGreatDoor
/- The document's Saga: a saga's bytes. -/
namespace Go.Proofs.YtdkiopajilakcaaGreatDoor
open Go.RowKit Go.Shelf
def hitsP (h : Hits) (q : Nat) : List PF := (List.range q).flatMap fun i => if h.get i then pnum 5 ((i : Int) + 1) else []
theorem hitsP_succ (h : Hits) (q : Nat) : hitsP h (q + 1) = hitsP h q ++ (if h.get q then pnum 5 ((q : Int) + 1) else []) := by
  unfold hitsP
  rw [List.range_succ, List.flatMap_append]
  simp
theorem pnum_len (n v : Int) : (pnum n v).length ≤ 1 := by unfold pnum; split <;> simp
theorem hitsP_len (h : Hits) : ∀ q, (hitsP h q).length ≤ q
  | 0 => by simp [hitsP]
  | q + 1 => by
    have := hitsP_len h q
    have h2 := pnum_len 5 ((q : Int) + 1)
    rw [hitsP_succ, List.length_append]
    split
    · omega
    · simp; omega
theorem hitsP_room (h : Hits) : ∀ q, proom (hitsP h q) ≤ 20 * q
  | 0 => by simp [hitsP, proom]
  | q + 1 => by
    have := hitsP_room h q
    have h2 := proom_num 5 ((q : Int) + 1)
    rw [hitsP_succ, proom_append]
    split
    · omega
    · have : proom [] = 0 := rfl
      omega
theorem hitsP_all (h : Hits) : hitsP h 8 = hitF h := by
  obtain ⟨a0, a1, a2, a3, a4, a5, a6, a7⟩ := h
  cases a0 <;> cases a1 <;> cases a2 <;> cases a3 <;> cases a4 <;> cases a5 <;> cases a6 <;> cases a7 <;> rfl
def four18 (s : SagaD) (l : List StepD) : List PF := [prow 1 (defB ⟨s.name, l⟩)] ++ pnum 2 s.st ++ pnum 3 s.step ++ pnum 4 s.tr
theorem len4 (s : SagaD) (l : List StepD) : ([prow 1 (defB ⟨s.name, l⟩)] ++ pnum 2 s.st ++ pnum 3 s.step ++ pnum 4 s.tr).length ≤ 4 := by
  have h1 := pnum_len 2 s.st
  have h2 := pnum_len 3 s.step
  have h3 := pnum_len 4 s.tr
  simp only [List.length_append, List.length_cons, List.length_nil]
  omega
theorem four18_F {s : SagaD} {l : List StepD} (h : (s.q l).good = true) : four18 s l ++ hitsP s.hit 8 = (s.q l).F := by
  have hne : defB (s.q l).d ≠ [] := (good_fits h).2.2
  rw [hitsP_all]
  unfold four18 SagaQ.F ptext
  rw [if_neg hne]
  simp only [List.flatten_cons, List.flatten_nil, List.append_nil, List.append_assoc]
  rfl
section
variable {w : World}
set_option maxHeartbeats 16000000 in
set_option maxRecDepth 100000 in
theorem rsaga17_any {F0 : Nat → Prop} {s : SagaD} {l : List StepD} (h : StepsAt F0 w s.v l) (hw : ∀ x ∈ l, x.wf) (h1 : I64 s.step) (hln : s.n = l.length) : Calls Tryz.prog 9 #[s.val] w (NewBytes w (sagaO (s.q l))) := by
  obtain ⟨W1, hW1⟩ : ∃ W1, W1 = w.alloc (.cells s.cells.toArray 34 (0, 0)) := ⟨_, rfl⟩
  obtain ⟨d, hd⟩ : ∃ d, d = w.heap.size := ⟨_, rfl⟩
  obtain ⟨B1, hB1⟩ : ∃ B1, B1 = d + 1 := ⟨_, rfl⟩
  have X1 : Hid (SBox 34 d s W1) := by rw [hW1, hd]; exact heap_alloc_new _ _
  have L1 : Hid (Later w W1) := by rw [hW1]; exact (Below.refl _ _).alloc (Nat.le_refl _) _
  have HDB : Hid (B1 = d + 1) := hB1
  have HDW : Hid (w.heap.size = d) := hd.symm
  have HBS1 : Hid (B1 ≤ W1.heap.size) := by rw [hB1]; exact lt_of_block X1.out
  have HS := hide h
  have CG := hide (rgood_any (s := s) (l := l) (StepsAt.kept h (Kept.of_below L1.out _)) hw h1)
  have XE : Hid (SBox 34 w.heap.size s (w.alloc (.cells s.cells.toArray 34 (0, 0)))) := heap_alloc_new _ _
  obtain ⟨q, hq⟩ : ∃ q, goodF l s = q := ⟨_, rfl⟩
  have HQ : Hid ((s.q l).good = q) := hq
  have HQ0 := hide hq
  have H1 := hide h1
  have HLN := hide hln
  rw [hq] at CG
  have HW1 := hide hW1.symm
  have HG := hide hd.symm
  clear h hw h1 hln hW1 hd hB1 hq
  go_enter Tryz.func9, Tryz.ntmps9
  go_wp2_with (refine wpList_val rfl (by rfl) (exec_rload_saga _ (by rfl) (by rfl) XE.out) ?_)
  simp only [HW1.out, HG.out]
  refine CG.out.mono ?_
  rintro e w2 ⟨rfl, hl2⟩
  have L12 : Hid (Later W1 w2) := hl2
  have L1a : Later w W1 := L1.out
  have L2 : Hid (Later w w2) := Later.trans L1a hl2
  have X2 : Hid (SBox 34 d s w2) := X1.out.below hl2
  clear hl2 CG L1a
  cases q with
  | false =>
    have HE : Hid (sagaO (s.q l) = []) := by show sagaO _ = _; unfold sagaO; rw [HQ.out]; rfl
    go_wp2
    go_ret
    rw [HE.out]
    exact newBytes_of (World.ownsRow_nil _ _ _ _) (by simp) L2.out
  | true =>
    have HI : Hid (I64 s.st ∧ I64 s.step ∧ I64 s.tr) := good_i64 HQ0.out H1.out
    have HSM : Hid (DefD.sm 16 ⟨s.name, l⟩) := (good_fits HQ.out).1
    have HRM : Hid (proom (defF ⟨s.name, l⟩) ≤ 3000) := by have := defF_room HSM.out; show _ ≤ _; omega
    have CD := hide (rdefb_any (d := ⟨s.name, l⟩) (w := w2) (StepsAt.kept HS.out (Kept.of_below L2.out _)) HLN.out HSM.out (by omega) (by have := HRM.out; omega))
    go_wp2_with (refine wpList_val rfl (by rfl) (exec_load_sdef _ (by rfl) (by rfl) X2.out) ?_)
    refine CD.out.mono ?_
    rintro e w3 ⟨A3, n3, c3, rfl, ho3, hh3, hc3, hl3⟩
    have L23 : Hid (Later w2 w3) := hl3
    have HFD : Hid (FdAt w3 ⟨1, true, 0, A3, n3, c3, defB ⟨s.name, l⟩⟩) := own_fd ⟨by decide, by decide⟩ ho3 (defB_small HSM.out (by omega))
    have HBS3 : Hid (B1 ≤ w3.heap.size) := Nat.le_trans HBS1.out (Nat.le_trans (Below.size L12.out) (Below.size hl3))
    have CT := hide (dtext17_any (w := w3) (base := B1) (DR.nil w3 B1) HBS3.out (by simp) HFD.out)
    clear ho3 hh3 hc3 hl3 CD
    go_wp2_with (fail)
    refine CT.out.mono ?_
    rintro e w5 ⟨x5, rfl, hd5, hb5, _⟩
    have D5 := hide (hd5.later (Later.drew _))
    have B35 : Hid (Below B1 w3 w5) := hb5
    have L3 : Hid (Later w w3) := Later.trans (show Later w w2 from L2.out) L23.out
    have X5 : Hid (SBox 34 d s w5) := (Below.block hb5 d (by have := HDB.out; omega)).trans (X2.out.below L23.out)
    have HBS : Hid (B1 ≤ w5.drew.heap.size) := Nat.le_trans HBS3.out (by have h9 := Below.size hb5; exact h9)
    have HB0 : Hid (Below B1 w5.drew w5.drew) := Below.refl _ _
    clear hd5 hb5 CT
    go_wp2_with (fail)
    refine wp_region_R (R := Below B1) (by kernel_rfl) ?_
    refine wpAnyR_take (nt_pre_below B1) (i := 0) (d := some 13) (v := ?vaa0) rfl rfl (by kernel_rfl) (by kernel_rfl) (by kernel_rfl) (fun _ _ _ h => h) (by rfl) ?yaa0 ?_
    case yaa0 => (intro w' hw'; go_simp; try (with_reducible rfl))
    simp only [Act.put]; try simp only [sA_, sZ_, sS_]
    refine wpAnyR_take (nt_pre_below B1) (i := 1) (d := some 14) (v := ?vaa1) rfl rfl (by kernel_rfl) (by kernel_rfl) (by kernel_rfl) (fun _ _ _ h => h) (by rfl) ?yaa1 ?_
    case yaa1 => (intro w' hw'; go_simp; try (with_reducible rfl))
    simp only [Act.put]; try simp only [sA_, sZ_, sS_]
    refine wpAnyR_take (nt_pre_below B1) (i := 2) (d := some 15) (v := ?vaa2) rfl rfl (by kernel_rfl) (by kernel_rfl) (by kernel_rfl) (fun _ _ _ h => h) (by rfl) ?yaa2 ?_
    case yaa2 => (intro w' hw'; have hbb : Below B1 w5.drew w' := hw'; have XX : SBox 34 d s w' := (Below.block hbb d (by have := HDB.out; omega)).trans (X5.out.below (Later.drew _)); have cc := XX.c2; go_simp; try (with_reducible rfl))
    simp only [Act.put]; try simp only [sA_, sZ_, sS_]
    refine wpAnyR_take (nt_pre_below B1) (i := 4) (d := some 17) (v := ?vaa4) rfl rfl (by kernel_rfl) (by kernel_rfl) (by kernel_rfl) (fun _ _ _ h => h) (by rfl) ?yaa4 ?_
    case yaa4 => (intro w' hw'; go_simp; try (with_reducible rfl))
    simp only [Act.put]; try simp only [sA_, sZ_, sS_]
    refine wpAnyR_take (nt_pre_below B1) (i := 5) (d := some 18) (v := ?vaa5) rfl rfl (by kernel_rfl) (by kernel_rfl) (by kernel_rfl) (fun _ _ _ h => h) (by rfl) ?yaa5 ?_
    case yaa5 => (intro w' hw'; have hbb : Below B1 w5.drew w' := hw'; have XX : SBox 34 d s w' := (Below.block hbb d (by have := HDB.out; omega)).trans (X5.out.below (Later.drew _)); have cc := XX.c3; go_simp; try (with_reducible rfl))
    simp only [Act.put]; try simp only [sA_, sZ_, sS_]
    refine wpAnyR_take (nt_pre_below B1) (i := 7) (d := some 20) (v := ?vaa7) rfl rfl (by kernel_rfl) (by kernel_rfl) (by kernel_rfl) (fun _ _ _ h => h) (by rfl) ?yaa7 ?_
    case yaa7 => (intro w' hw'; go_simp; try (with_reducible rfl))
    simp only [Act.put]; try simp only [sA_, sZ_, sS_]
    refine wpAnyR_take (nt_pre_below B1) (i := 8) (d := some 21) (v := ?vaa8) rfl rfl (by kernel_rfl) (by kernel_rfl) (by kernel_rfl) (fun _ _ _ h => h) (by rfl) ?yaa8 ?_
    case yaa8 => (intro w' hw'; have hbb : Below B1 w5.drew w' := hw'; have XX : SBox 34 d s w' := (Below.block hbb d (by have := HDB.out; omega)).trans (X5.out.below (Later.drew _)); have cc := XX.c4; go_simp; try (with_reducible rfl))
    simp only [Act.put]; try simp only [sA_, sZ_, sS_]
    refine wpAnyR_only (i := 3) rfl (by kernel_rfl) (by rfl) fun K hK => ?_
    go_simp
    have Cv1 := hide (dnum17_any (n := 2) (x := s.st) D5.out (Nat.le_trans HBS.out (Below.size HB0.out)) (by have h9 := len4 s l; simp only [List.length_append, List.length_cons, List.length_nil] at h9 ⊢; omega) ⟨by decide, by decide⟩ HI.out.1)
    refine Cv1.out.mono ?_
    rintro e v1 ⟨xv1, rfl, hd, hb, _⟩
    have Dv1 := hide hd
    have V1B : Hid (Below B1 w5.drew v1) := Below.trans HB0.out hb
    refine hK.out _ _ hb ?_
    clear hd hb Cv1
    clear hK K
    try (simp only [Act.put]; try simp only [sA_, sZ_, sS_])
    refine wpAnyR_only (i := 6) rfl (by kernel_rfl) (by rfl) fun K hK => ?_
    go_simp
    have Cv2 := hide (dnum17_any (n := 3) (x := s.step) Dv1.out (Nat.le_trans HBS.out (Below.size V1B.out)) (by have h9 := len4 s l; simp only [List.length_append, List.length_cons, List.length_nil] at h9 ⊢; omega) ⟨by decide, by decide⟩ HI.out.2.1)
    refine Cv2.out.mono ?_
    rintro e v2 ⟨xv2, rfl, hd, hb, _⟩
    have Dv2 := hide hd
    have V2B : Hid (Below B1 w5.drew v2) := Below.trans V1B.out hb
    refine hK.out _ _ hb ?_
    clear hd hb Cv2
    clear hK K
    try (simp only [Act.put]; try simp only [sA_, sZ_, sS_])
    refine wpAnyR_only (i := 9) rfl (by kernel_rfl) (by rfl) fun K hK => ?_
    go_simp
    have Cv3 := hide (dnum17_any (n := 4) (x := s.tr) Dv2.out (Nat.le_trans HBS.out (Below.size V2B.out)) (by have h9 := len4 s l; simp only [List.length_append, List.length_cons, List.length_nil] at h9 ⊢; omega) ⟨by decide, by decide⟩ HI.out.2.2)
    refine Cv3.out.mono ?_
    rintro e v3 ⟨xv3, rfl, hd, hb, _⟩
    have Dv3 := hide hd
    have V3B : Hid (Below B1 w5.drew v3) := Below.trans V2B.out hb
    refine hK.out _ _ hb ?_
    clear hd hb Cv3
    clear hK K
    try (simp only [Act.put]; try simp only [sA_, sZ_, sS_])
    refine wpAnyR_take (nt_pre_below B1) (i := 10) (d := some 3) (v := ?vaa10) rfl rfl (by kernel_rfl) (by kernel_rfl) (by kernel_rfl) (fun _ _ _ h => h) (by rfl) ?yaa10 ?_
    case yaa10 => (intro w' hw'; go_simp; try (with_reducible rfl))
    simp only [Act.put]; try simp only [sA_, sZ_, sS_]
    refine wpAnyR_done (by kernel_rfl) ?_ _
    have D6 : Hid (DR v3 B1 xv3 (four18 s l ++ hitsP s.hit 0)) := by
      have h9 := Dv3.out
      rw [show four18 s l ++ hitsP s.hit 0 = [] ++ [prow 1 (defB ⟨s.name, l⟩)] ++ pnum 2 s.st ++ pnum 3 s.step ++ pnum 4 s.tr from by simp [four18, hitsP]]
      exact h9
    have B36 : Hid (Below B1 w3 v3) := Below.trans B35.out ((show Below B1 w5 w5.drew from ⟨rfl, rfl, rfl, Nat.le_refl _, fun _ _ => rfl⟩).trans V3B.out)
    have X6 : Hid (SBox 34 d s v3) := by
      have h9 := V3B.out
      exact (Below.block h9 d (by have := HDB.out; omega)).trans (X5.out.below (Later.drew _))
    have HB6 : Hid (B1 ≤ v3.heap.size) := Nat.le_trans HBS.out (Below.size V3B.out)
    go_wp2_with (refine wpList_val rfl (by rfl) (exec_load_hits _ (by rfl) (by rfl) X6.out) ?_)
    go_loopw [3, 25] (fun s3 s25 wr => ∃ q : Nat, q ≤ 8 ∧ s25 = .int .i64 (q : Int) ∧ Hid (DR wr B1 s3 (four18 s l ++ hitsP s.hit q)) ∧ Hid (Below B1 w3 wr) ∧ Hid (B1 ≤ wr.heap.size)) (fun _ s25 _ => 8 - (Go.RowKit.intOf s25).toNat)
    case atStart => exact ⟨0, by omega, rfl, D6, B36, HB6⟩
    case round =>
      obtain ⟨q, hq, rfl, HD, HB, HBL⟩ := hrel
      obtain ⟨A9, n9, c9, rfl⟩ := DR.slice HD.out
      have HLL : Hid ((four18 s l ++ hitsP s.hit q).length ≤ 100000000) := by
        have h1 := len4 s l
        have h2 := hitsP_len s.hit q
        show (four18 s l ++ hitsP s.hit q).length ≤ _
        rw [List.length_append]
        unfold four18
        omega
      by_cases hqn : q < 8
      · obtain ⟨b, hb⟩ : ∃ b, s.hit.get q = b := ⟨_, rfl⟩
        have HBB := hide hb
        have EX : Hid (∀ (op : Oper) (a : Act) (W : World) (p z : Operand), op.op = .index 25 p z → a.eval p = s.hit.val → a.eval z = .int .i64 (q : Int) → (execOp a.eval op).run Tryz.prog W = .ok (.value (.bool b)) W) := fun op a W p z h1 h2 h3 => by rw [← hb]; exact exec_index_hits s.hit hqn p z h1 h2 h3
        clear hb
        cases b with
        | true =>
          have CN := hide (dnum17_any (n := 5) (x := (q : Int) + 1) HD.out HBL.out HLL.out ⟨by decide, by decide⟩ ⟨by omega, by omega⟩)
          go_wp2_with (refine wpList_val rfl (by rfl) (EX.out _ _ _ _ _ (by rfl) (by rfl) (by rfl)) ?_)
          refine CN.out.mono ?_
          rintro e w8 ⟨x8, rfl, hd8, hb8, _⟩
          have HD8 : Hid (DR w8 B1 x8 (four18 s l ++ hitsP s.hit (q + 1))) := by
            rw [hitsP_succ, HBB.out, if_pos rfl, ← List.append_assoc]
            exact hd8
          have HB8 : Hid (Below B1 w3 w8) := Below.trans HB.out hb8
          have HBL8 : Hid (B1 ≤ w8.heap.size) := Nat.le_trans HBL.out (Below.size hb8)
          clear hd8 hb8 CN
          go_wp2
          go_roundw
          case rel => exact ⟨q + 1, by omega, by go_num, HD8, HB8, HBL8⟩
          case measure => simp [Go.RowKit.intOf]; omega
        | false =>
          go_wp2_with (refine wpList_val rfl (by rfl) (EX.out _ _ _ _ _ (by rfl) (by rfl) (by rfl)) ?_)
          go_roundw
          case rel => exact ⟨q + 1, by omega, by go_num, (by rw [hitsP_succ, HBB.out]; simp only [Bool.false_eq_true, if_false, List.append_nil]; exact HD), HB, HBL⟩
          case measure => simp [Go.RowKit.intOf]; omega
      · obtain rfl : q = 8 := by omega
        have HRO : Hid (proom (four18 s l ++ hitsP s.hit 8) ≤ 10000000) := by
          have h1 := hitsP_room s.hit 8
          have h2 := HRM.out
          have h3 : (defB ⟨s.name, l⟩).length ≤ _ := prec_len (defF ⟨s.name, l⟩)
          have h4 := proom_num 2 s.st
          have h5 := proom_num 3 s.step
          have h6 := proom_num 4 s.tr
          show proom _ ≤ _
          unfold four18
          simp only [proom_append]
          have h7 : proom [prow 1 (defB ⟨s.name, l⟩)] = 20 + (defB ⟨s.name, l⟩).length := by simp [proom, prow]
          omega
        have CW := hide (dwrite_any HD.out HRO.out)
        rw [four18_F HQ.out] at CW
        have HSO : Hid (sagaO (s.q l) = prec (s.q l).F) := by show sagaO _ = _; unfold sagaO; rw [HQ.out]; rfl
        go_wp2_with (fail)
        refine CW.out.mono ?_
        rintro e w9 ⟨A9, n9, c9, rfl, ho9, hh9, hc9, hl9⟩
        have H9 := hide (And.intro ho9 (And.intro hh9 (And.intro hc9 hl9)))
        clear ho9 hh9 hc9 hl9 CW
        go_wp2
        go_ret
        rw [HSO.out]
        have LW3 : Later w w3 := L3.out
        have hsz : w.heap.size ≤ B1 := by have := HDB.out; have := HDW.out; omega
        have b1 : Below w.heap.size w3 wr := Below.mono HB.out hsz
        have b2 : Below w.heap.size wr w9 := Below.mono H9.out.2.2.2 (Nat.le_trans hsz HBL.out)
        exact ⟨A9, n9, c9, rfl, own_base H9.out.1 (Nat.le_trans hsz HBL.out), H9.out.2.1, H9.out.2.2.1, (Below.trans LW3 b1).trans b2⟩
end
end Go.Proofs.YtdkiopajilakcaaGreatDoor
/- The walks over droverref01.Open and number. -/
namespace Go.Proofs.YtdkiopajilakcaaGreatDoor
open Go.RowKit

def openB (l : List Nat) : Bool := l.all (fun x => decide (128 ≤ x)) && decide (l.length ≤ 9)
theorem num_three : ∀ (l : List Nat) (i a : Nat), i ≤ 9 → ((num l i a).2.2 = 3 ↔ (∀ x ∈ l, 128 ≤ x) ∧ l.length + i ≤ 9)
  | [], i, a, h => by simp [num, h]
  | c :: r, i, a, h => by
    unfold num
    by_cases h1 : (i = 9 ∧ 1 < c) ∨ (0 < i ∧ c = 0)
    · rw [if_pos h1]
      constructor
      · intro h2; cases h2
      · rintro ⟨h2, h3⟩
        have := h2 c (by simp)
        simp at h3
        omega
    · rw [if_neg h1]
      by_cases h2 : c < 128
      · rw [if_pos h2]
        constructor
        · intro h3; cases h3
        · rintro ⟨h3, _⟩
          have := h3 c (by simp)
          omega
      · rw [if_neg h2]
        have h9 : i + 1 ≤ 9 := by omega
        rw [num_three r (i + 1) _ h9]
        simp only [List.mem_cons, forall_eq_or_imp, List.length_cons]
        constructor
        · rintro ⟨h3, h4⟩; exact ⟨⟨by omega, h3⟩, by omega⟩
        · rintro ⟨⟨_, h3⟩, h4⟩; exact ⟨h3, by omega⟩
theorem num_cases : ∀ (l : List Nat) (i a : Nat), ((num l i a).2.2 = 0 ∧ 0 < (num l i a).2.1) ∨ num l i a = (0, 0, 3) ∨ num l i a = (0, 0, 4)
  | [], i, a => by simp [num]
  | c :: r, i, a => by
    unfold num
    split
    · simp
    · split
      · simp
      · exact num_cases r (i + 1) _
theorem num_open (l : List Nat) : (num l 0 0).2.2 = 3 ↔ openB l = true := by
  rw [num_three l 0 0 (by omega)]
  simp [openB]

set_option maxHeartbeats 800000 in
set_option maxRecDepth 100000 in
theorem nt_ropen_any (A : Option Addr) (n c B : Nat) (l : List Nat) (w : World) (hl : Holds w B A n l) (hn : n ≤ 1099511627000) :
    Calls Tryz.prog 93 #[.slice A n c] w fun e w' => e = .returned (.bool (openB l)) ∧ w' = w := by
  have H := hide hl
  clear hl
  go_enter Tryz.func93, Tryz.ntmps93
  go_wp2
  go_loop [7] (fun i => ∃ q : Nat, q ≤ n ∧ i = .int .i64 (q : Int) ∧ (l.take q).all (fun x => decide (128 ≤ x)) = true) (fun i => n - (Go.RowKit.intOf i).toNat)
  case atStart => exact ⟨0, by omega, rfl, rfl⟩
  case round =>
    obtain ⟨q, hq, rfl, hall⟩ := hrel
    have HA := hide hall
    clear hall
    by_cases hlt : q < n
    · obtain ⟨b, off, rfl, _, hcs⟩ := H.out.2.2 (by omega)
      have hc := hcs q hlt
      have hlen : q < l.length := by rw [H.out.1]; exact hlt
      have hx : l[q]? = some (l.getD q 0) := by simp [List.getD, hlen]
      have hs : l.getD q 0 < 256 := H.out.2.1 _ (List.mem_of_getElem? hx)
      clear hcs hlen
      generalize l.getD q 0 = x at hc hx hs
      have HX := hide hx
      clear hx
      by_cases h1 : x < 128
      · have hno : false = openB l := by
          symm
          rw [Bool.eq_false_iff]
          intro h
          unfold openB at h
          rw [Bool.and_eq_true, List.all_eq_true] at h
          have := h.1 x (List.mem_of_getElem? HX.out)
          simp at this
          omega
        have HNO := hide hno
        clear hno
        go_wp2
        go_ret
        exact ⟨ret_bool HNO.out, rfl⟩
      · have hnx : (l.take (q + 1)).all (fun x => decide (128 ≤ x)) = true := by
          rw [List.take_add_one, HX.out, List.all_append, HA.out]
          simp
          omega
        have HNX := hide hnx
        clear hnx
        go_wp2
        go_round
        case rel => exact ⟨q + 1, by omega, by go_num, HNX.out⟩
        case measure => simp [Go.RowKit.intOf]; omega
    · have hall : l.all (fun x => decide (128 ≤ x)) = true := by
        have h1 := HA.out
        rwa [List.take_of_length_le (by have := H.out.1; omega)] at h1
      have HL : Hid (decide (n ≤ 9) = openB l) := by show _ = _; unfold openB; rw [hall, H.out.1]; rfl
      clear hall
      by_cases h9 : n ≤ 9
      · go_wp2
        go_ret
        exact ⟨ret_bool (by rw [← HL.out, decide_eq_true h9]; simp; omega), rfl⟩
      · go_wp2
        go_ret
        exact ⟨ret_bool (by rw [← HL.out, decide_eq_false h9]; simp; omega), rfl⟩

set_option maxHeartbeats 800000 in
set_option maxRecDepth 100000 in
theorem rnumber_any (A : Option Addr) (n c B : Nat) (l : List Nat) (w : World) (hl : Holds w B A n l) (hn : n ≤ 1099511627000) :
    Calls Tryz.prog 49 #[.slice A n c] w fun e w' => e = .returned (.tuple #[.int .u64 (num l 0 0).1, .int .i64 (num l 0 0).2.1, .int .i64 (num l 0 0).2.2]) ∧ w = w' := by
  obtain ⟨⟨v, k, er⟩, hq⟩ : ∃ q, num l 0 0 = q := ⟨_, rfl⟩
  have C := refgetuint_any A n c B l w hl hn
  have D := nt_ropen_any A n c B l w hl hn
  have hcs := num_cases l 0 0
  have ho := num_open l
  rw [hq] at C hcs ho
  simp only at C hcs ho
  have HC := hide C
  have HQ := hide hq
  rw [hq]
  clear C hl hq
  rcases hcs with ⟨rfl, hk⟩ | hcs | hcs
  · have HD := hide D
    clear D ho
    go_enter Tryz.func49, Tryz.ntmps49
    go_wp2_with (fail)
    refine HC.out.mono ?_
    rintro e w1 ⟨rfl, rfl⟩
    go_wp2
    go_ret3
    exact ⟨rfl, rfl⟩
  · obtain ⟨rfl, rfl, rfl⟩ : v = 0 ∧ k = 0 ∧ er = 3 := by simpa using hcs
    rw [ho.1 rfl] at D
    have HD := hide D
    clear D ho hcs
    go_enter Tryz.func49, Tryz.ntmps49
    go_wp2_with (fail)
    refine HC.out.mono ?_
    rintro e w1 ⟨rfl, rfl⟩
    go_wp2_with (fail)
    refine HD.out.mono ?_
    rintro e w1 ⟨rfl, rfl⟩
    go_wp2
    go_ret3
    exact ⟨rfl, rfl⟩
  · obtain ⟨rfl, rfl, rfl⟩ : v = 0 ∧ k = 0 ∧ er = 4 := by simpa using hcs
    have hf : openB l = false := by
      rw [Bool.eq_false_iff]
      intro h
      have := ho.2 h
      omega
    rw [hf] at D
    have HD := hide D
    clear D ho hcs hf
    go_enter Tryz.func49, Tryz.ntmps49
    go_wp2_with (fail)
    refine HC.out.mono ?_
    rintro e w1 ⟨rfl, rfl⟩
    go_wp2_with (fail)
    refine HD.out.mono ?_
    rintro e w1 ⟨rfl, rfl⟩
    go_wp2
    go_ret3
    exact ⟨rfl, rfl⟩
end Go.Proofs.YtdkiopajilakcaaGreatDoor
/- The walk over droverref01.Read: the fields of bytes, as the document reads them. -/
namespace Go.Proofs.YtdkiopajilakcaaGreatDoor
open Go.RowKit

def RReadIs (w : World) (q : Nat × List PF) (e : Ending) (w' : World) : Prop :=
  ∃ A n c fs, e = .returned (.tuple #[.slice A n c, .int .i64 (q.1 : Nat)]) ∧ fs.map Fd.pf = q.2 ∧ FHolds w' w'.heap.size A n fs ∧ n ≤ c ∧ Below w.heap.size w w'
theorem Tryz.infoRd : (Tryz.prog.info? 61).map (fun i => (i.zero, i.size, i.bytes)) = some (some (.agg #[.int .i64 0, .bool false, .int .u64 0, .slice none 0 0]), 4, 48) := by kernel_rfl
def RReadAt (w : World) (n : Nat) (l : List Nat) (b v : Value) (wr : World) : Prop :=
  ∃ A' n' c' done rest, b = .slice A' n' c' ∧ n' ≤ c' ∧ Holds wr w.heap.size A' n' rest ∧ readOn (done.map Fd.pf) (pread rest) = pread l ∧
    wr.ownsRow w.heap.size 61 4 v done.length (fcells done) ∧ (∀ f ∈ done, FdOwn wr w.heap.size f) ∧ done.length + n' ≤ n ∧ Below w.heap.size w wr
theorem rnumber_is (A : Option Addr) (n c B : Nat) (l : List Nat) (x k y : Nat) (w : World) (hl : Holds w B A n l) (hn : n ≤ 1099511627000) (h : num l 0 0 = (x, k, y)) :
    Calls Tryz.prog 49 #[.slice A n c] w fun e w' => e = .returned (.tuple #[.int .u64 x, .int .i64 k, .int .i64 y]) ∧ w = w' :=
  (rnumber_any A n c B l w hl hn).mono fun e w' ⟨he, hw⟩ => ⟨by rw [he, h], hw⟩
theorem rread_nil {w : World} {l : List Nat} {er : Nat} (h : pread l = (er, [])) {w' : World} (hb : Below w.heap.size w w') : RReadIs w (pread l) (.returned (.tuple #[.slice none 0 0, .int .i64 (er : Int)])) w' :=
  ⟨none, 0, 0, [], by rw [h], by rw [h]; rfl, ⟨rfl, by simp, fun h => by omega⟩, Nat.le_refl _, hb⟩

theorem lit0 (W : World) {b : Nat} (hb : W.heap.size = b) : (W.alloc (.cells #[] 5 (0, 0))).ownsRow b 5 1 (.slice (some ⟨b, 0, none⟩) 0 0) 0 [] := by
  subst hb
  exact World.ownsRow_lit W #[] 0 (Nat.le_refl _) (by simp [maxLen]) rfl
theorem cut_to_u (A : Option Addr) (n c k : Nat) (hc : k ≤ c) : ∃ A' : Option Addr, (¬ c = 0 → A' = A.map (·.add 0)) ∧
    ∀ w, (Instr.slice 28 (.slice A n c) none (some (.int .u64 (k : Int))) none).run Tryz.prog w = .ok (.slice A' k c) w := by
  refine ⟨if c = 0 then A else A.map (·.add 0), fun h => by rw [if_neg h], fun w => ?_⟩
  rw [run_slice_h w _ _ _ _ sliceU8 .u64 _ (by omega) (by omega), elemU8, sizeU8]
  cases A with
  | none => simp [Result.andThen, sliced]
  | some a =>
    by_cases h : c = 0
    · subst h
      simp [Result.andThen, sliced]
    · simp [Result.andThen, sliced, h]
theorem cut_from_u (A : Option Addr) (n c k : Nat) (hk : k ≤ n) : ∃ A' : Option Addr, (¬ c = k → A' = A.map (·.add k)) ∧
    ∀ w, (Instr.slice 28 (.slice A n c) (some (.int .u64 (k : Int))) none none).run Tryz.prog w = .ok (.slice A' (n - k) (c - k)) w := by
  refine ⟨if c = k then A else A.map (·.add k), fun h => by rw [if_neg h], fun w => ?_⟩
  rw [run_slice_l w _ _ _ _ sliceU8 .u64 _ (by omega) (by omega), elemU8, sizeU8]
  cases A with
  | none => simp [Result.andThen, sliced]
  | some a =>
    by_cases h : c = k
    · subst h
      simp [Result.andThen, sliced]
    · simp [Result.andThen, sliced, h]

set_option maxHeartbeats 4000000 in
set_option maxRecDepth 100000 in
theorem rread_any (A : Option Addr) (n c : Nat) (l : List Nat) (w : World) (hl : Holds w w.heap.size A n l) (hn : n ≤ 1000000) (hc : n ≤ c) :
    Calls Tryz.prog 20 #[.slice A n c] w (RReadIs w (pread l)) := by
  obtain ⟨i0, hi, hz0, hz1, hz2⟩ := info_parts Tryz.infoRd
  obtain ⟨j0, hj, hy0, hy1, hy2⟩ := info_parts Tryz.infoU8
  have H0 : Hid (RReadAt w n l (.slice A n c) (.slice none 0 0) w) := ⟨A, n, c, [], l, rfl, hc, hl, (readOn_start l).symm, by simpa [fcells] using World.ownsRow_nil _ _ _ _, by simp, by simp, Below.refl _ _⟩
  clear hl
  go_enter Tryz.func20, Tryz.ntmps20
  go_wp2
  go_loopw [0, 4] (fun b v wr => RReadAt w n l b v wr) (fun b _ _ => lenV b)
  case atStart => exact H0.out
  case round =>
    obtain ⟨A1, n1, c1, done, rest, rfl, hc1, hh, hread, hown, hoks, hcnt, hbel⟩ := hrel
    have HH := hide hh
    have HR := hide hread
    have Hown := hide hown
    have Hoks := hide hoks
    have HBL := hide hbel
    have hsz := hbel.size
    clear hh hread hown hoks H0 hbel
    by_cases hlt : 0 < n1
    · have hne : rest ≠ [] := by
        intro h
        have := HH.out.1
        rw [h] at this
        simp at this
        omega
      have Hne := hide hne
      clear hne
      obtain ⟨⟨K, m, e1⟩, hnum⟩ : ∃ q, num rest 0 0 = q := ⟨_, rfl⟩
      have HN := hide hnum
      by_cases h1 : e1 = 0
      · subst h1
        obtain ⟨q1, _, q3⟩ := num_ok HH.out.2.1 hnum
        have hm : m ≤ n1 := by
          have := (num_bound rest 0 0).1
          rw [hnum] at this
          have := HH.out.1
          simp only at *
          omega
        have hm1 : 1 ≤ m := by rw [q1]; exact (enc_len K).1
        obtain ⟨h, hhk⟩ : ∃ h, h = K / 2 := ⟨_, rfl⟩
        have hq : (K : Int) / 2 = (h : Int) := by omega
        have hh0 : h < 9223372036854775808 := by omega
        have HK := hide hhk
        have Q3 := hide q3
        clear hnum hhk q1 q3
        by_cases h2 : h < 1 ∨ 1000 < h
        · have hr := pfirst_2 HN.out (by rw [← HK.out]; exact h2)
          have hpr := hide (readOn_err HH.out.2.1 (done.map Fd.pf) Hne.out (by rw [hr]; simp))
          rw [HR.out, hr] at hpr
          clear hr
          by_cases h21 : h < 1
          · have hd1 : decide ((h : Int) < 1) = true := by simp; omega
            clear h2 h21
            go_wp2_with (fail)
            refine (rnumber_is A1 n1 c1 _ rest K m 0 _ HH.out (by omega) HN.out).mono ?_
            rintro e w1 ⟨rfl, rfl⟩
            go_wp2
            go_ret2
            exact rread_nil (er := 4) hpr.out HBL.out
          · have hd1 : decide ((h : Int) < 1) = false := by simp; omega
            have hd2 : decide (1000 < (h : Int)) = true := by simp; omega
            clear h2 h21
            go_wp2_with (fail)
            refine (rnumber_is A1 n1 c1 _ rest K m 0 _ HH.out (by omega) HN.out).mono ?_
            rintro e w1 ⟨rfl, rfl⟩
            go_wp2
            go_ret2
            exact rread_nil (er := 4) hpr.out HBL.out
        · have H2 := hide h2
          have hd1 : decide ((h : Int) < 1) = false := by simp; omega
          have hd2 : decide (1000 < (h : Int)) = false := by simp; omega
          clear h2
          obtain ⟨A', hA', hsl⟩ := cut_from A1 n1 c1 m hm
          have HL2 := hide (HH.out.drop hm hc1 A' hA')
          have HS2 : Hid (∀ x ∈ rest.drop m, x < 256) := fun x hx => HH.out.2.1 x (List.mem_of_mem_drop hx)
          obtain ⟨⟨V, z, e2⟩, hnum2⟩ : ∃ q, num (rest.drop m) 0 0 = q := ⟨_, rfl⟩
          have HN2 := hide hnum2
          clear hA'
          by_cases h3 : e2 = 0
          · subst h3
            have q4 := (num_ok HS2.out hnum2).2.2
            have hz : z ≤ n1 - m := by
              have := (num_bound (rest.drop m) 0 0).1
              rw [hnum2] at this
              have := HH.out.1
              simp only [List.length_drop] at *
              omega
            have Q4 := hide q4
            obtain ⟨A2, hA2, hsl2⟩ := cut_from A' (n1 - m) (c1 - m) z hz
            have HL3 := hide (HL2.out.drop hz (by omega) A2 hA2)
            rw [List.drop_drop] at HL3
            clear hnum2 q4 hA2
            by_cases h4 : K % 2 = 0
            · have hr := pfirst_4 HN.out (by rw [← HK.out]; exact H2.out) HN2.out h4
              have hpr := hide (readOn_next HH.out.2.1 (done.map Fd.pf) Hne.out (by rw [hr]))
              rw [HR.out, hr, ← HK.out] at hpr
              have hb4 : ((K : Int) % 2 == 1) = false := by simp; omega
              clear hr h4
              go_wp2_with (fail)
              refine (rnumber_is A1 n1 c1 _ rest K m 0 _ HH.out (by omega) HN.out).mono ?_
              rintro e w1 ⟨rfl, rfl⟩
              go_wp2_with (fail)
              refine (rnumber_is A' (n1 - m) (c1 - m) _ (rest.drop m) V z 0 _ HL2.out (by omega) HN2.out).mono ?_
              rintro e w1 ⟨rfl, rfl⟩
              go_wp2_with (at_builtin; refine wpList_append_own_at _ rfl (.tmp 71) (.tmp 73) 58 rfl w.heap.size 61 i0 _ 4 48 Tryz.underlying58 hi hz0 hz1 hz2 rfl (by omega) _ done.length (fcells done) rfl ((Hown.out.alloc _).alloc _) ⟨wr.heap.size + 1, 0, none⟩ 1 1 [.int .i64 h, .bool false, .int .u64 V, .slice none 0 0] rfl rfl (by have := cells_new (wr.alloc (.cells #[.int .i64 h, .bool false, .int .u64 V, .slice none 0 0] 61)) [.int .i64 h, .bool false, .int .u64 V, .slice none 0 0] 61; rw [World.size_alloc] at this; exact this) (by intro u hu; simp at hu; rcases hu with rfl | rfl | rfl | rfl <;> rfl) (by simp only [maxLen]; omega) (by omega) (by simp; omega) ?_; intro v2 w2 o2 g2 _ _)
              have O2 := hide o2
              have G2 := hide g2
              clear o2 g2
              go_roundw
              case rel =>
                have b1 : Below wr.heap.size wr ((wr.alloc (.cells #[.int .i64 h, .bool false, .int .u64 V, .slice none 0 0] 61)).alloc (.cells #[.int .i64 h, .bool false, .int .u64 V, .slice none 0 0] 61)) := ((Below.refl _ _).alloc (Nat.le_refl _) _).alloc (by simp) _
                have b2 : Below w.heap.size wr w2 := (b1.mono hsz).trans ((Below.refl _ _).grown G2.out (by simp; omega) fun g hg => (Hown.out.lt g hg).1)
                refine ⟨A2, n1 - m - z, c1 - m - z, done ++ [⟨h, false, V, none, 0, 0, []⟩], rest.drop (m + z), rfl, by omega, HL3.out.below b2, ?_, ?_, ?_, ?_, HBL.out.trans b2⟩
                · rw [hpr.out, List.map_append]
                  rfl
                · rw [fcells_snoc, List.length_append]
                  exact O2.out
                · intro f hf
                  rcases List.mem_append.1 hf with hf | hf
                  · exact ((Hoks.out f hf).below b1).kept ((Hown.out.alloc _).alloc _) G2.out (by decide)
                  · simp at hf
                    subst hf
                    exact own_plain hh0 Q4.out
                · simp
                  omega
              case measure => simp [lenV]; omega
            · have H4 := hide h4
              have hb4 : ((K : Int) % 2 == 1) = true := by simp; omega
              obtain ⟨R, hR⟩ : ∃ R, n1 - m - z = R := ⟨_, rfl⟩
              obtain ⟨cR, hcR⟩ : ∃ cR, c1 - m - z = cR := ⟨_, rfl⟩
              rw [hR, hcR] at hsl2
              rw [hR] at HL3
              have hRc : R ≤ cR := by omega
              have hRn : R ≤ 1000000 := by omega
              have hlenr := HH.out.1
              clear h4
              by_cases h5 : R < V
              · have hr := pfirst_5 HN.out (by rw [← HK.out]; exact H2.out) HN2.out H4.out (by omega)
                have hpr := hide (readOn_err HH.out.2.1 (done.map Fd.pf) Hne.out (by rw [hr]; simp))
                rw [HR.out, hr] at hpr
                clear hr hR hcR hlenr
                go_wp2_with (fail)
                refine (rnumber_is A1 n1 c1 _ rest K m 0 _ HH.out (by omega) HN.out).mono ?_
                rintro e w1 ⟨rfl, rfl⟩
                go_wp2_with (fail)
                refine (rnumber_is A' (n1 - m) (c1 - m) _ (rest.drop m) V z 0 _ HL2.out (by omega) HN2.out).mono ?_
                rintro e w1 ⟨rfl, rfl⟩
                go_wp2
                go_ret2
                exact rread_nil (er := 3) hpr.out (HBL.out.trans (((Below.refl _ _).alloc hsz _)))
              · have hr := pfirst_6 HN.out (by rw [← HK.out]; exact H2.out) HN2.out H4.out (by omega)
                have hpr := hide (readOn_next HH.out.2.1 (done.map Fd.pf) Hne.out (by rw [hr]))
                rw [HR.out, hr, ← HK.out] at hpr
                obtain ⟨A4, hA4, hsl4⟩ := cut_to_u A2 R cR V (by omega)
                have HL4 := hide (HL3.out.to (h := V) (by omega) hRc hA4)
                obtain ⟨A5, hA5, hsl5⟩ := cut_from_u A2 R cR V (by omega)
                have HL5 := hide (HL3.out.drop (k := V) (by omega) hRc A5 hA5)
                have hRV : V ≤ R := by omega
                have HRR := hide hR
                have HCR := hide hcR
                clear hr hA4 hA5 hR hcR
                go_wp2_with (fail)
                refine (rnumber_is A1 n1 c1 _ rest K m 0 _ HH.out (by omega) HN.out).mono ?_
                rintro e w1 ⟨rfl, rfl⟩
                go_wp2_with (fail)
                refine (rnumber_is A' (n1 - m) (c1 - m) _ (rest.drop m) V z 0 _ HL2.out (by omega) HN2.out).mono ?_
                rintro e w1 ⟨rfl, rfl⟩
                go_wp2_with (at_builtin; refine wpList_append_bytes _ rfl (.tmp 62) (.tmp 65) 28 rfl (wr.heap.size + 1) 5 j0 (.int .u8 0) Tryz.underlying28 hj hy0 hy1 hy2 rfl _ 0 [] rfl (lit0 (wr.alloc (.cells #[.int .i64 h, .bool true, .int .u64 0, .slice none 0 0] 61)) (World.size_alloc _ _)) w.heap.size A4 V cR _ rfl (HL4.out.below (((Below.refl _ _).alloc hsz _).alloc (by simp; omega) _)) (by omega) (by simp) ?_)
                intro v2 w2 o2 g2
                have o2' : w2.ownsRow (wr.heap.size + 1) 5 1 v2 V (bvs ((rest.drop (m + z)).take V)) := by simpa using o2
                have hsm2 : ∀ x ∈ (rest.drop (m + z)).take V, x < 256 := fun x hx => HH.out.2.1 x (List.mem_of_mem_drop (List.mem_of_mem_take hx))
                obtain ⟨AV, cV, rfl, hcV, _, hHV⟩ := Holds.of_own o2' hsm2
                have h1 := g2.below (lit0 (wr.alloc (.cells #[.int .i64 h, .bool true, .int .u64 0, .slice none 0 0] 61)) (World.size_alloc _ _)) (by simp)
                have hb2 : Below wr.heap.size wr w2 := (((Below.refl _ _).alloc (Nat.le_refl _) _).alloc (by simp) _).trans (h1.mono (by omega))
                have hx2 : w2.heap[wr.heap.size]? = some (.cells #[.int .i64 h, .bool true, .int .u64 0, .slice none 0 0] 61 (0, 0)) := (h1.block wr.heap.size (by omega)).trans ((Below.block ((Below.refl _ (wr.alloc (.cells #[.int .i64 h, .bool true, .int .u64 0, .slice none 0 0] 61))).alloc (Nat.le_refl _) _) wr.heap.size (by simp)).trans (heap_alloc_new _ _))
                have r0 := cell_of_row w2 wr.heap.size 0 _ _ _ hx2
                have r1 := cell_of_row w2 wr.heap.size 1 _ _ _ hx2
                have r2 := cell_of_row w2 wr.heap.size 2 _ _ _ hx2
                have r3 := cell_of_row w2 wr.heap.size 3 _ _ _ hx2
                have f3 := frozen_of_row w2 wr.heap.size 3 _ _ hx2
                have hszz : wr.heap.size < w2.heap.size := lt_of_block hx2
                have O2 := hide o2'
                have HX2 := hide hx2
                have HB2 := hide hb2
                clear o2 o2' g2 hx2 hb2 hHV h1
                have hB3 : Below wr.heap.size wr (w2.setCell ⟨wr.heap.size, 3, none⟩ (.slice AV V cV)) := by
                  have b2 : Below wr.heap.size wr w2 := HB2.out
                  go_grown
                have HB3 := hide hB3
                clear hB3
                go_wp2_with (at_builtin; refine wpList_append_own_at _ rfl (.tmp 71) (.tmp 73) 58 rfl w.heap.size 61 i0 _ 4 48 Tryz.underlying58 hi hz0 hz1 hz2 rfl (by omega) _ done.length (fcells done) rfl ((own_below_any Hown.out HB3.out).alloc _) ⟨w2.heap.size, 0, none⟩ 1 1 [.int .i64 h, .bool true, .int .u64 0, .slice AV V cV] rfl rfl (by have := cells_new (w2.setCell ⟨wr.heap.size, 3, none⟩ (.slice AV V cV)) [.int .i64 h, .bool true, .int .u64 0, .slice AV V cV] 61; simpa using this) (by intro u hu; simp at hu; rcases hu with rfl | rfl | rfl | rfl <;> rfl) (by simp only [maxLen]; omega) (by omega) (by simp; omega) ?_; intro v4 w4 o4 g4 _ _)
                have O4 := hide o4
                have G4 := hide g4
                clear o4 g4
                go_roundw
                case rel =>
                  have b1 : Below wr.heap.size wr ((w2.setCell ⟨wr.heap.size, 3, none⟩ (.slice AV V cV)).alloc (.cells #[.int .i64 h, .bool true, .int .u64 0, .slice AV V cV] 61)) := HB3.out.alloc (by simp; omega) _
                  have b2 : Below w.heap.size wr w4 := (b1.mono hsz).trans ((Below.refl _ _).grown G4.out (by simp; omega) fun g hg => (Hown.out.lt g hg).1)
                  refine ⟨A5, R - V, cR - V, done ++ [⟨h, true, 0, AV, V, cV, (rest.drop (m + z)).take V⟩], rest.drop (m + z + V), rfl, by omega, ?_, ?_, ?_, ?_, ?_, HBL.out.trans b2⟩
                  · have h1 := HL5.out.below b2
                    rwa [List.drop_drop] at h1
                  · rw [hpr.out, List.map_append]
                    rfl
                  · rw [fcells_snoc, List.length_append]
                    exact O4.out
                  · intro f hf
                    rcases List.mem_append.1 hf with hf | hf
                    · exact ((Hoks.out f hf).below b1).kept ((own_below_any Hown.out HB3.out).alloc _) G4.out (by decide)
                    · simp at hf
                      subst hf
                      have hF := own_text (w' := (w2.setCell ⟨wr.heap.size, 3, none⟩ (.slice AV V cV))) O2.out (fun x hx => HH.out.2.1 x (List.mem_of_mem_drop (List.mem_of_mem_take hx))) hh0 (fun g hg => by
                        rw [Below.heap_setCell _ _ _ _ (by simp; omega)])
                      exact ((hF.base (by omega)).below ((Below.refl _ _).alloc (Nat.le_refl _) _)).kept ((own_below_any Hown.out HB3.out).alloc _) G4.out (by decide)
                  · simp
                    have := HRR.out
                    omega
                case measure => simp [lenV]; have := HRR.out; omega
          · have hr := pfirst_3 HN.out (by rw [← HK.out]; exact H2.out) HN2.out h3
            have hpr := hide (readOn_err HH.out.2.1 (done.map Fd.pf) Hne.out (by rw [hr]; exact h3))
            rw [HR.out, hr] at hpr
            have hne : ((e2 : Int) != 0) = true := by simp; omega
            clear hr h3 hnum2
            go_wp2_with (fail)
            refine (rnumber_is A1 n1 c1 _ rest K m 0 _ HH.out (by omega) HN.out).mono ?_
            rintro e w1 ⟨rfl, rfl⟩
            go_wp2_with (fail)
            refine (rnumber_is A' (n1 - m) (c1 - m) _ (rest.drop m) V z e2 _ HL2.out (by omega) HN2.out).mono ?_
            rintro e w1 ⟨rfl, rfl⟩
            go_wp2
            go_ret2
            exact rread_nil hpr.out HBL.out
      · have hr := pfirst_1 HN.out h1
        have hpr := hide (readOn_err HH.out.2.1 (done.map Fd.pf) Hne.out (by rw [hr]; exact h1))
        rw [HR.out, hr] at hpr
        have hne : ((e1 : Int) != 0) = true := by simp; omega
        clear hr h1 hnum
        go_wp2_with (fail)
        refine (rnumber_is A1 n1 c1 _ rest K m e1 _ HH.out (by omega) HN.out).mono ?_
        rintro e w1 ⟨rfl, rfl⟩
        go_wp2
        go_ret2
        exact rread_nil hpr.out HBL.out
    · have hnil := holds_nil HH.out hlt
      have hr : pread l = (0, done.map Fd.pf) := by rw [← HR.out, hnil, readOn_end]
      obtain ⟨A', c', hv, h1, h2⟩ := FHolds.of_own Hown.out fun f hf => (Hoks.out f hf).ok
      have HRR := hide hr
      have H2 := hide h2
      clear hr hnil h2
      subst hv
      go_wp2
      go_ret2
      exact ⟨A', done.length, c', done, by rw [HRR.out]; rfl, by rw [HRR.out], H2.out, h1, HBL.out⟩
end Go.Proofs.YtdkiopajilakcaaGreatDoor
/- A message in a block of its own, to be read into. -/
namespace Go.Proofs.YtdkiopajilakcaaGreatDoor
open Go.RowKit

structure OwnOps (P : Nat → Prop) (w : World) (sv ov : Value) (ps : List (OpD × Value)) : Prop where
  row : w.ownsRow 0 104 10 ov ps.length (ps.flatMap fun p => p.1.cells p.2)
  own : ∀ q, ov.ownBlock = some q → P q
  each : ∀ p ∈ ps, p.1.wf ∧ OwnSteps P w p.2 p.1.steps ∧ ∀ q, p.2.ownBlock = some q → sv.ownBlock ≠ some q
theorem OwnOps.mono {P Q : Nat → Prop} {w : World} {sv ov : Value} {ps : List (OpD × Value)} (h : OwnOps P w sv ov ps) (hq : ∀ k, k < w.heap.size → P k → Q k) : OwnOps Q w sv ov ps :=
  ⟨h.row, fun q e => hq q (own_lt h.row e).1 (h.own q e), fun p hp => ⟨(h.each p hp).1, (h.each p hp).2.1.mono hq, (h.each p hp).2.2⟩⟩
theorem OwnOps.blk {P : Nat → Prop} {w w' : World} {sv ov : Value} {ps : List (OpD × Value)} (h : OwnOps P w sv ov ps) (hk : ∀ q, ov.ownBlock = some q → w'.heap[q]? = w.heap[q]?) (hs : ∀ p ∈ ps, ∀ q, p.2.ownBlock = some q → w'.heap[q]? = w.heap[q]?) : OwnOps P w' sv ov ps :=
  ⟨own_blk h.row hk, h.own, fun p hp => ⟨(h.each p hp).1, (h.each p hp).2.1.blk (hs p hp), (h.each p hp).2.2⟩⟩
theorem OwnOps.keep {P : Nat → Prop} {w w' : World} {sv ov : Value} {ps : List (OpD × Value)} (h : OwnOps P w sv ov ps) (hk : Kept P w w') : OwnOps P w' sv ov ps :=
  h.blk (fun q e => hk.2 q (own_lt h.row e).1 (h.own q e)) fun p hp q e => hk.2 q (own_lt (h.each p hp).2.1.1 e).1 ((h.each p hp).2.1.2.1 q e)
def OwnInts (P : Nat → Prop) (w : World) (iv : Value) (l : List Int) : Prop := w.ownsRow 0 3 1 iv l.length (l.map fun x => .int .i64 x) ∧ ∀ q, iv.ownBlock = some q → P q
theorem OwnInts.mono {P Q : Nat → Prop} {w : World} {iv : Value} {l : List Int} (h : OwnInts P w iv l) (hq : ∀ k, k < w.heap.size → P k → Q k) : OwnInts Q w iv l := ⟨h.1, fun q e => hq q (own_lt h.1 e).1 (h.2 q e)⟩
theorem OwnInts.blk {P : Nat → Prop} {w w' : World} {iv : Value} {l : List Int} (h : OwnInts P w iv l) (hk : ∀ q, iv.ownBlock = some q → w'.heap[q]? = w.heap[q]?) : OwnInts P w' iv l := ⟨own_blk h.1 hk, h.2⟩
theorem OwnInts.keep {P : Nat → Prop} {w w' : World} {iv : Value} {l : List Int} (h : OwnInts P w iv l) (hk : Kept P w w') : OwnInts P w' iv l := h.blk fun q e => hk.2 q (own_lt h.1 e).1 (h.2 q e)

section
variable {g : Nat} {P : Nat → Prop} {m : MsgD} {w : World} {sv ov iv : Value} {ps : List (OpD × Value)}
end
end Go.Proofs.YtdkiopajilakcaaGreatDoor
/- The walk over Read: a message of bytes. -/
namespace Go.Proofs.YtdkiopajilakcaaGreatDoor
open Go.RowKit

end Go.Proofs.YtdkiopajilakcaaGreatDoor
/- How much a message has, up to some, and how long its names are: droverref04.weigh, Steps. -/
namespace Go.Proofs.YtdkiopajilakcaaGreatDoor
open Go.RowKit

def OpD.lightP (mx : Int) (o : OpD) : Prop := (o.steps.length : Int) ≤ mx ∧ (o.name.size : Int) / 20 ≤ mx ∧ ∀ s ∈ o.steps, (s.name.size : Int) / 20 ≤ mx
theorem OpD.lightP.of {mx n : Int} {o : OpD} (h : (o.steps.length : Int) < n ∧ (o.name.size : Int) / 20 < n ∧ ∀ s ∈ o.steps, (s.name.size : Int) / 20 ≤ n) (hn : n ≤ mx) : o.lightP mx :=
  ⟨by have := h.1; omega, by have := h.2.1; omega, fun s hs => by have := h.2.2 s hs; omega⟩
end Go.Proofs.YtdkiopajilakcaaGreatDoor
/- The document's examples: lives; which inputs are looked at: small. -/
namespace Go.Proofs.YtdkiopajilakcaaGreatDoor
open Go.RowKit

end Go.Proofs.YtdkiopajilakcaaGreatDoor
/- What small inputs are; what is read of what was written. -/
namespace Go.Proofs.YtdkiopajilakcaaGreatDoor
open Go.RowKit

theorem defG_op (x : OpD) : opG { OpD.zero with name := x.name, steps := x.steps } = defG x.defn := by
  unfold opG
  simp [OpD.zero, OpD.defn, mayB]
end Go.Proofs.YtdkiopajilakcaaGreatDoor
/- Messages and their bytes, on data alone: good ones come back; they are apart. -/
namespace Go.Proofs.YtdkiopajilakcaaGreatDoor
open Go.RowKit

end Go.Proofs.YtdkiopajilakcaaGreatDoor
/- What the document's readers say of bytes, on data alone: each field as the last of its number; the same as what the program reads, for bytes that are written again. -/
namespace Go.Proofs.YtdkiopajilakcaaGreatDoor
open Go.RowKit

def pv (ps : List PF) (m : Int) : Nat := (pfind ps m).1.2.2.1
def pb (ps : List PF) (m : Int) : List Nat := (pfind ps m).1.2.2.2
theorem pv_nil (m : Int) : pv [] m = 0 := rfl
theorem pb_nil (m : Int) : pb [] m = [] := rfl
theorem pfind_none {ps qs : List PF} {m : Int} (h : ∀ p ∈ qs, p.1 ≠ m) : pfind (ps ++ qs) m = pfind ps m := by
  rw [pfind_append]
  have : (pfind qs m).2 = false := by
    unfold pfind
    rw [List.find?_eq_none.2 (fun p hp => by simpa using h p (List.mem_reverse.1 hp))]
  rw [this]
  simp
theorem pfind_num (ps : List PF) (n v m : Int) : pfind (ps ++ pnum n v) m = if n = m ∧ v ≠ 0 then ((n, false, zig v, []), true) else pfind ps m := by
  unfold pnum
  by_cases hv : v = 0
  · simp [hv]
  · rw [if_neg hv, pfind_snoc]
    simp [hv]
theorem pfind_flag (ps : List PF) (n : Int) (b : Bool) (m : Int) : pfind (ps ++ pflag n b) m = if n = m ∧ b = true then ((n, false, 1, []), true) else pfind ps m := by
  unfold pflag
  cases b
  · simp
  · rw [if_pos rfl, pfind_snoc]
    simp
theorem pfind_text (ps : List PF) (n : Int) (l : List Nat) (m : Int) : pfind (ps ++ ptext n l) m = if n = m ∧ l ≠ [] then ((n, true, 0, l), true) else pfind ps m := by
  unfold ptext
  by_cases hl : l = []
  · simp [hl]
  · rw [if_neg hl, pfind_snoc]
    simp [hl]
theorem pfind_rows {α : Type} (ps : List PF) (n : Int) (f : α → List Nat) (l : List α) {m : Int} (h : n ≠ m) : pfind (ps ++ l.map fun a => prow n (f a)) m = pfind ps m :=
  pfind_none fun p hp => by
    obtain ⟨a, _, rfl⟩ := List.mem_map.1 hp
    exact h
theorem pv_num (ps : List PF) (n v m : Int) : pv (ps ++ pnum n v) m = if n = m ∧ v ≠ 0 then zig v else pv ps m := by unfold pv; rw [pfind_num]; split <;> rfl
theorem pv_flag (ps : List PF) (n : Int) (b : Bool) (m : Int) : pv (ps ++ pflag n b) m = if n = m ∧ b = true then 1 else pv ps m := by unfold pv; rw [pfind_flag]; split <;> rfl
theorem pv_text (ps : List PF) (n : Int) (l : List Nat) {m : Int} (h : n ≠ m) : pv (ps ++ ptext n l) m = pv ps m := by unfold pv; rw [pfind_text, if_neg (fun e => h e.1)]
theorem pb_num (ps : List PF) (n v : Int) {m : Int} (h : n ≠ m) : pb (ps ++ pnum n v) m = pb ps m := by unfold pb; rw [pfind_num, if_neg (fun e => h e.1)]
theorem pb_flag (ps : List PF) (n : Int) (b : Bool) {m : Int} (h : n ≠ m) : pb (ps ++ pflag n b) m = pb ps m := by unfold pb; rw [pfind_flag, if_neg (fun e => h e.1)]
theorem pb_text (ps : List PF) (n : Int) (l : List Nat) (m : Int) : pb (ps ++ ptext n l) m = if n = m ∧ l ≠ [] then l else pb ps m := by unfold pb; rw [pfind_text]; split <;> rfl
theorem pb_rows {α : Type} (ps : List PF) (n : Int) (f : α → List Nat) (l : List α) {m : Int} (h : n ≠ m) : pb (ps ++ l.map fun a => prow n (f a)) m = pb ps m := by unfold pb; rw [pfind_rows _ _ _ _ h]
theorem zag_ite (v : Int) : zag (if v ≠ 0 then zig v else 0) = v := by
  by_cases h : v = 0
  · subst h
    rw [if_neg (by simp)]
    exact zag_zig 0
  · rw [if_pos h, zag_zig]
theorem flag_ite (b : Bool) : decide ((if b = true then 1 else 0) = 1) = b := by cases b <;> simp
theorem text_ite (l : List Nat) : (if l ≠ [] then l else []) = l := by
  by_cases h : l = []
  · simp [h]
  · rw [if_pos h]

def stepQ (b : List Nat) : StepD := ⟨str (pb (pread b).2 1), zag (pv (pread b).2 2), zag (pv (pread b).2 3), zag (pv (pread b).2 4), decide (pv (pread b).2 5 = 1), decide (pv (pread b).2 6 = 1)⟩
def defQ (b : List Nat) : DefD := ⟨str (pb (pread b).2 1), ((pread b).2.filter fun p => p.1 == 2).map fun p => stepQ p.2.2.2⟩
theorem filter_text (n : Int) (l : List Nat) (m : Int) : (ptext n l).filter (fun p => p.1 == m) = if n = m then ptext n l else [] := by
  unfold ptext
  by_cases hv : l = []
  · simp [hv]
  · by_cases h : n = m <;> simp [hv, h]
theorem filter_rows {α : Type} (n : Int) (f : α → List Nat) (l : List α) (m : Int) : (l.map fun a => prow n (f a)).filter (fun p => p.1 == m) = if n = m then l.map (fun a => prow n (f a)) else [] := by
  by_cases h : n = m
  · rw [if_pos h, List.filter_eq_self]
    intro p hp
    obtain ⟨a, _, rfl⟩ := List.mem_map.1 hp
    simp [prow, h]
  · rw [if_neg h, List.filter_eq_nil_iff]
    intro p hp
    obtain ⟨a, _, rfl⟩ := List.mem_map.1 hp
    simp [prow, h]
theorem stepF_left (s : StepD) : stepF s = [] ++ ptext 1 (nums s.name) ++ pnum 2 s.stub ++ pnum 3 s.retry ++ pnum 4 s.wait ++ pflag 5 s.undo ++ pflag 6 s.pivot := by simp [stepF]
theorem defF_left (d : DefD) : defF d = [] ++ ptext 1 (nums d.name) ++ d.steps.map fun s => prow 2 (stepB s) := by simp [defF]
set_option maxHeartbeats 1000000 in
theorem stepQ_B {k : Nat} {s : StepD} (h : s.sm k) (hk : k ≤ 5000) : stepQ (stepB s) = s := by
  unfold stepQ stepB
  rw [pread_fine (stepF_fine h hk), stepF_left]
  simp only [pv_num, pv_flag, pv_text, pb_text, pb_num, pb_flag, pv_nil, pb_nil, true_and, false_and, if_false, Int.reduceEq, zag_ite, flag_ite, text_ite, str_nums_self, ne_eq, not_false_eq_true]
theorem defQ_B {k : Nat} {d : DefD} (h : d.sm k) (hk : k ≤ 5000) : defQ (defB d) = d := by
  unfold defQ defB
  rw [pread_fine (defF_fine h hk), defF_left]
  simp only [pb_rows _ _ _ _ (show (2 : Int) ≠ 1 by decide), pb_text, pb_nil, true_and, text_ite, str_nums_self]
  simp only [List.filter_append, filter_text, filter_rows, Int.reduceEq, reduceIte, List.nil_append, List.map_map]
  congr 1
  rw [List.map_congr_left (g := id)]
  · simp
  · intro s hs
    exact stepQ_B (h.2.2 s hs) hk
end Go.Proofs.YtdkiopajilakcaaGreatDoor
/- What the document's readers say, on data: none of it is great; bytes that are written again are read alike by both. -/
namespace Go.Proofs.YtdkiopajilakcaaGreatDoor
open Go.RowKit

theorem pread_bad {l : List Nat} (h : (pread l).1 ≠ 0) : (pread l).2 = [] := by
  have h1 := readOn_start l
  unfold readOn at h1
  rw [if_pos h] at h1
  rw [h1]
theorem pbytes_ge {p : PF} (h : pgood p = true) : 2 + p.2.2.2.length ≤ (pbytes p).length := by
  have h1 := (pgood_iff p).1 h
  have e1 := (enc_len (2 * p.1.toNat + 1)).1
  have e2 := (enc_len p.2.2.2.length).1
  have e3 := (enc_len (2 * p.1.toNat)).1
  have e4 := (enc_len p.2.2.1).1
  unfold pbytes
  rw [if_pos h]
  split
  · simp; omega
  · rename_i ht
    have h2 := h1.2.2
    rw [if_neg ht] at h2
    rw [h2]
    simp; omega
theorem prec_ge : ∀ ps : List PF, (∀ p ∈ ps, pgood p = true) → (ps.map fun p => 2 + p.2.2.2.length).sum ≤ (prec ps).length
  | [], _ => by simp
  | p :: r, h => by
    have h1 := pbytes_ge (h p (by simp))
    have h2 := prec_ge r fun q hq => h q (by simp [hq])
    unfold prec at h2 ⊢
    simp only [List.map_cons, List.sum_cons, List.flatten_cons, List.length_append] at *
    omega
theorem le_sum_mem {x : Nat} : ∀ {l : List Nat}, x ∈ l → x ≤ l.sum
  | [], h => by cases h
  | y :: r, h => by
    rw [List.sum_cons]
    rcases List.mem_cons.1 h with rfl | h
    · omega
    · have := le_sum_mem h
      omega
theorem pread_sum {l : List Nat} (hs : ∀ x ∈ l, x < 256) : ((pread l).2.map fun p => 2 + p.2.2.2.length).sum ≤ l.length := by
  by_cases h : (pread l).1 = 0
  · obtain ⟨h1, h2⟩ := pread_ok l.length l (Nat.le_refl _) hs h
    have h3 := prec_ge (pread l).2 fun p hp => (h2 p hp).1
    rw [h1] at h3
    exact h3
  · rw [pread_bad h]; simp
theorem pread_fits {l : List Nat} (hs : ∀ x ∈ l, x < 256) : ∀ p ∈ (pread l).2, pfits p ∧ (∀ x ∈ p.2.2.2, x < 256) ∧ p.2.2.2.length ≤ l.length := by
  intro p hp
  by_cases h : (pread l).1 = 0
  · obtain ⟨_, h2⟩ := pread_ok l.length l (Nat.le_refl _) hs h
    refine ⟨(h2 p hp).2.2, (h2 p hp).2.1, ?_⟩
    have h3 := pread_sum hs
    have h4 : 2 + p.2.2.2.length ≤ ((pread l).2.map fun p => 2 + p.2.2.2.length).sum := le_sum_mem (List.mem_map.2 ⟨p, hp, rfl⟩)
    omega
  · rw [pread_bad h] at hp; cases hp
theorem pread_count {l : List Nat} (hs : ∀ x ∈ l, x < 256) : 2 * (pread l).2.length ≤ l.length := by
  have h := pread_sum hs
  have h2 : ∀ ps : List PF, 2 * ps.length ≤ (ps.map fun p => 2 + p.2.2.2.length).sum := by
    intro ps
    induction ps with
    | nil => simp
    | cons p r ih => simp only [List.length_cons, List.map_cons, List.sum_cons]; omega
  have := h2 (pread l).2
  omega
theorem pfind_in (ps : List PF) (m : Int) : (pfind ps m).1 = pz ∨ (pfind ps m).1 ∈ ps := by
  unfold pfind
  split
  · rename_i p hp
    exact .inr (List.mem_reverse.1 (List.mem_of_find?_eq_some hp))
  · exact .inl rfl
theorem pb_le {l : List Nat} (hs : ∀ x ∈ l, x < 256) (m : Int) : (pb (pread l).2 m).length ≤ l.length ∧ ∀ x ∈ pb (pread l).2 m, x < 256 := by
  unfold pb
  rcases pfind_in (pread l).2 m with h | h
  · rw [h]; simp [pz]
  · exact ⟨(pread_fits hs _ h).2.2, (pread_fits hs _ h).2.1⟩
theorem pv_lt {l : List Nat} (hs : ∀ x ∈ l, x < 256) (m : Int) : pv (pread l).2 m < 18446744073709551616 := by
  unfold pv
  rcases pfind_in (pread l).2 m with h | h
  · rw [h]; simp [pz]
  · exact (pread_fits hs _ h).1.1
theorem zag_i64 {l : List Nat} (hs : ∀ x ∈ l, x < 256) (m : Int) : I64 (zag (pv (pread l).2 m)) := zag_lt _ (pv_lt hs m)
theorem size_str {l : List Nat} : (str l).size = l.length := by
  unfold str
  show (Array.size _) = _
  simp

theorem stepQ_sm {b : List Nat} (hs : ∀ x ∈ b, x < 256) : (stepQ b).sm b.length :=
  ⟨by unfold stepQ; rw [size_str]; exact (pb_le hs 1).1, zag_i64 hs 2, zag_i64 hs 3, zag_i64 hs 4⟩
theorem defQ_sm {b : List Nat} (hs : ∀ x ∈ b, x < 256) : (defQ b).sm b.length := by
  refine ⟨by unfold defQ; rw [size_str]; exact (pb_le hs 1).1, ?_, fun s hss => ?_⟩
  · unfold defQ
    rw [List.length_map]
    have h1 := List.length_filter_le (fun p : PF => p.1 == 2) (pread b).2
    have h2 := pread_count hs
    omega
  · unfold defQ at hss
    obtain ⟨p, hp, rfl⟩ := List.mem_map.1 hss
    have h1 := pread_fits hs p (List.mem_filter.1 hp).1
    have h2 := stepQ_sm h1.2.1
    exact ⟨Nat.le_trans h2.1 h1.2.2, h2.2⟩
theorem sum_filter (f : PF → Bool) (g : PF → Nat) : ∀ ps : List PF, ((ps.filter f).map g).sum ≤ (ps.map g).sum
  | [] => by simp
  | p :: r => by
    have ih := sum_filter f g r
    by_cases h : f p = true
    · rw [List.filter_cons_of_pos h]
      simp only [List.map_cons, List.sum_cons]
      omega
    · rw [List.filter_cons_of_neg h]
      simp only [List.map_cons, List.sum_cons]
      omega
theorem defQ_room {b : List Nat} (hs : ∀ x ∈ b, x < 256) : proom (defF (defQ b)) ≤ 20 + 71 * b.length := by
  have h1 := proom_text 1 (nums (defQ b).name)
  have hn : (defQ b).name.size ≤ b.length := (defQ_sm hs).1
  rw [nums_len] at h1
  have h2 : ∀ ps : List PF, (∀ p ∈ ps, ∀ x ∈ p.2.2.2, x < 256) → proom (ps.map fun p => prow 2 (stepB (stepQ p.2.2.2))) ≤ 70 * (ps.map fun p => 2 + p.2.2.2.length).sum := by
    intro ps
    induction ps with
    | nil => intro _; simp [proom]
    | cons p r ih =>
      intro hp
      have ih2 := ih fun q hq => hp q (by simp [hq])
      have h3 := stepB_len (stepQ p.2.2.2)
      have h4 := (stepQ_sm (hp p (by simp))).1
      simp only [proom, List.map_cons, List.sum_cons, prow] at ih2 ⊢
      omega
  have h3 := h2 ((pread b).2.filter fun p => p.1 == 2) fun p hp => (pread_fits hs p (List.mem_filter.1 hp).1).2.1
  have h4 := sum_filter (fun p => p.1 == 2) (fun p => 2 + p.2.2.2.length) (pread b).2
  have h5 := pread_sum hs
  have h6 : (defQ b).steps.map (fun s => prow 2 (stepB s)) = ((pread b).2.filter fun p => p.1 == 2).map fun p => prow 2 (stepB (stepQ p.2.2.2)) := by
    unfold defQ
    simp only [List.map_map]
    rfl
  simp only [defF, List.flatten_cons, List.flatten_nil, proom_append]
  rw [h6]
  have : proom [] = 0 := rfl
  omega
def readDefQ (l : List Nat) : Nat × DefD := if (pread l).1 ≠ 0 then ((pread l).1, .zero) else if defB (defQ l) = l ∧ defG (defQ l) = true then (0, defQ l) else (4, .zero)
theorem readDefQ_eq {l : List Nat} (hs : ∀ x ∈ l, x < 256) (hl : l.length ≤ 5000) : readDefQ l = readDef l := by
  unfold readDefQ readDef
  split
  · rfl
  · by_cases h : defG (defR l) = true ∧ defB (defR l) = l
    · have e : defQ l = defR l := by
        have h1 := defQ_B (defG_sm h.1) (by omega)
        rwa [h.2] at h1
      rw [e, if_pos ⟨h.2, h.1⟩, if_pos h]
    · rw [if_neg h, if_neg]
      rintro ⟨h1, h2⟩
      have e : defR l = defQ l := by
        have h3 := defR_B (defQ_sm hs) hl
        rwa [h1] at h3
      exact h ⟨by rw [e]; exact h2, by rw [e]; exact h1⟩
end Go.Proofs.YtdkiopajilakcaaGreatDoor
/- The walk over droverref09.def: a definition out of bytes, as the document reads it. -/
namespace Go.Proofs.YtdkiopajilakcaaGreatDoor
open Go.RowKit

section
variable {fs : List Fd} {ps : List PF} {A : Option Addr} {n c : Nat} {m : Int} {w : World}
theorem rval_is (hp : fs.map Fd.pf = ps) (hf : FHolds w w.heap.size A n fs) (hn : n ≤ 1099511627000) : Calls Tryz.prog 95 #[.slice A n c, .int .i64 m] w fun e w' => e = .returned (.int .i64 (zag (pv ps m))) ∧ Later w w' := by subst hp; exact rval_any hf hn
theorem ris_is (hp : fs.map Fd.pf = ps) (hf : FHolds w w.heap.size A n fs) (hn : n ≤ 1099511627000) : Calls Tryz.prog 96 #[.slice A n c, .int .i64 m] w fun e w' => e = .returned (.bool (decide (pv ps m = 1))) ∧ Later w w' := by subst hp; exact nt_ris_any hf hn
theorem rbytes_is (hp : fs.map Fd.pf = ps) (hf : FHolds w w.heap.size A n fs) (hn : n ≤ 1099511627000) : Calls Tryz.prog 94 #[.slice A n c, .int .i64 m] w fun e w' => ∃ A' n' c', e = .returned (.slice A' n' c') ∧ Holds w' w'.heap.size A' n' (pb ps m) ∧ n' ≤ c' ∧ Later w w' := by subst hp; exact rbytes_any hf hn
end
theorem own_on {w w1 : World} {base e size n : Nat} {v : Value} {xs : List Value} (ho : w.ownsRow base e size v n xs) (hb : Below w.heap.size w w1) : w1.ownsRow base e size v n xs := by
  refine ⟨ho.1, ?_⟩
  rcases ho.2 with h | ⟨g, cap, cur, hv, h1, h2, h3⟩
  · exact .inl h
  · exact .inr ⟨g, cap, cur, hv, h1, (hb.block g (lt_of_block h2)).trans h2, h3⟩
theorem own_off {w w1 : World} {base e size n g : Nat} {v : Value} {xs : List Value} (ho : w.ownsRow base e size v n xs) (hg : w.grownBy w1 (some g)) (hlt : g < base) : w1.ownsRow base e size v n xs := by
  refine ⟨ho.1, ?_⟩
  rcases ho.2 with h | ⟨k, cap, cur, hv, h1, h2, h3⟩
  · exact .inl h
  · exact .inr ⟨k, cap, cur, hv, h1, (hg.block k (lt_of_block h2) (by intro e; have := Option.some.inj e; omega)).trans h2, h3⟩
theorem built_step (a : ByteArray) (b c d : Int) (e f : Bool) : Tryz.prog.built 42 [(0, .string a), (1, .int .i64 b), (2, .int .i64 c), (3, .int .i64 d), (4, .bool e), (5, .bool f)] = some #[.string a, .int .i64 b, .int .i64 c, .int .i64 d, .bool e, .bool f] := by kernel_rfl
theorem Tryz.infoStepQ : (Tryz.prog.info? 42).map (fun i => (i.zero, i.size, i.bytes)) = some (some (.agg #[.string ⟨#[]⟩, .int .i64 0, .int .i64 0, .int .i64 0, .bool false, .bool false]), 6, 48) := by kernel_rfl
theorem stepsq_one (l : List StepD) : ∀ u ∈ l.flatMap StepD.cells, u.oneCell' = true := by
  intro u hu
  obtain ⟨s, _, h⟩ := List.mem_flatMap.1 hu
  exact s.one u h
def stq (ps : List PF) (q : Nat) : List StepD := ((ps.take q).filter fun p => p.1 == 2).map fun p => stepQ p.2.2.2
theorem stq_hit {ps : List PF} {q : Nat} {p : PF} (h : ps[q]? = some p) (hp : p.1 = 2) : stq ps (q + 1) = stq ps q ++ [stepQ p.2.2.2] := by
  unfold stq
  rw [List.take_add_one, h]
  simp [List.filter_append, hp]
theorem stq_miss {ps : List PF} {q : Nat} {p : PF} (h : ps[q]? = some p) (hp : ¬ p.1 = 2) : stq ps (q + 1) = stq ps q := by
  unfold stq
  rw [List.take_add_one, h]
  simp [List.filter_append, hp]
theorem stq_le (ps : List PF) (q : Nat) : (stq ps q).length ≤ q := by
  unfold stq
  rw [List.length_map]
  have h1 := List.length_filter_le (fun p : PF => p.1 == 2) (ps.take q)
  rw [List.length_take] at h1
  omega
theorem own_form {w : World} {base e size n : Nat} {v : Value} {xs : List Value} (ho : w.ownsRow base e size v n xs) : ∃ A m c, v = .slice A m c := by
  rcases ho.2 with ⟨h, _⟩ | ⟨g, cap, cur, h, _⟩ <;> exact ⟨_, _, _, h⟩
theorem set1 {w : World} {g T : Nat} {a b c : Value} (h : w.heap[g]? = some (.cells #[a, b] T (0, 0))) : (w.setCell ⟨g, 1, none⟩ c).heap[g]? = some (.cells #[a, c] T (0, 0)) := by
  have h1 := heap_setCells g [c] 1 w _ h
  simp [putAt] at h1
  exact h1

set_option maxHeartbeats 4000000 in
set_option maxRecDepth 100000 in
theorem rdef_any {A : Option Addr} {n c : Nat} {l : List Nat} {w : World} (hl : Holds w w.heap.size A n l) (hn : n ≤ 5000) (hc : n ≤ c) :
    Calls Tryz.prog 50 #[.slice A n c] w fun e w' => ∃ sv, e = .returned (.agg #[.string (defQ l).name, sv]) ∧ StepsAt (w.heap.size ≤ ·) w' sv (defQ l).steps ∧ Later w w' := by
  obtain ⟨i0, hi, hz0, hz1, hz2⟩ := info_parts Tryz.infoStepQ
  have HB0 : Hid (Later w (w.alloc (.cells #[.string ⟨#[]⟩, .slice none 0 0] 24 (0, 0)))) := (Below.refl _ _).alloc (Nat.le_refl _) _
  have CR := hide (rread_any A n c l _ (hl.later HB0.out) (by omega) hc)
  have HS := hide hl.2.1
  have hln := hl.1
  clear hl
  go_enter Tryz.func50, Tryz.ntmps50
  go_wp2_with (fail)
  refine CR.out.mono ?_
  rintro e w1 ⟨A1, n1, c1, fs, rfl, hp1, hf1, hc1, hb1⟩
  have HF1 := hide hf1
  have HP1 := hide hp1
  have HB1 : Hid (Later w w1) := Later.trans HB0.out hb1
  have hn1 : n1 ≤ 5000 := by
    have h1 := hf1.1
    have h2 := pread_count HS.out
    rw [← hp1, List.length_map] at h2
    omega
  have HQ1 : Hid (w1.heap[w.heap.size]? = some (.cells #[.string ⟨#[]⟩, .slice none 0 0] 24 (0, 0))) := (Below.block hb1 w.heap.size (by simp)).trans (heap_alloc_new _ _)
  clear hf1 hp1 hb1 CR
  go_wp2_with (fail)
  refine (rbytes_is HP1.out HF1.out (by omega)).mono ?_
  rintro e w2 ⟨A2, n2, c2, rfl, hh2, _, hl2⟩
  have d1 := run_str w2 w2.heap.size A2 n2 c2 _ hh2
  obtain ⟨nm, hnm⟩ : ∃ nm, str (pb (pread l).2 1) = nm := ⟨_, rfl⟩
  rw [hnm] at d1
  have HNM := hide hnm
  have HF2 := hide (HF1.out.later hl2)
  have HB2 : Hid (Later w w2) := Later.trans HB1.out hl2
  obtain ⟨B5, hB5⟩ : ∃ B5, w2.heap.size = B5 := ⟨_, rfl⟩
  have HQ2 : Hid (w2.heap[w.heap.size]? = some (.cells #[.string ⟨#[]⟩, .slice none 0 0] 24 (0, 0))) := (Below.block hl2 w.heap.size (lt_of_block HQ1.out)).trans HQ1.out
  have hB5' : w.heap.size < B5 := by rw [← hB5]; exact lt_of_block HQ2.out
  clear hh2 hl2 hnm
  go_wp2
  try rw [hB5]
  have HX0 : Hid ((w2.alloc (.cells #[.string nm, .slice none 0 0] 24 (0, 0))).heap[B5]? = some (.cells #[.string nm, .slice none 0 0] 24 (0, 0))) := by rw [← hB5]; exact heap_alloc_new _ _
  have HL0 : Hid (Below B5 w2 (w2.alloc (.cells #[.string nm, .slice none 0 0] 24 (0, 0)))) := by rw [← hB5]; exact Later.alloc _ _
  have HFB : Hid (∀ w', Below B5 w2 w' → FHolds w' B5 A1 n1 fs) := fun w' h => by have h1 := HF2.out.below (by rw [hB5]; exact h); rwa [hB5] at h1
  have HBB : Hid (∀ w', Below B5 w2 w' → Later w w') := fun w' h => Later.trans HB2.out (by rw [← hB5] at h; exact h)
  have HFL : Hid (fs.length = n1) := HF2.out.1
  clear HF2 HF1 d1
  go_loopw [21] (fun i wr => ∃ (q : Nat) (sv : Value), q ≤ n1 ∧ i = .int .i64 (q : Int) ∧ wr.heap[B5]? = some (.cells #[.string nm, sv] 24 (0, 0)) ∧ wr.ownsRow (B5 + 1) 42 6 sv (stq (fs.map Fd.pf) q).length ((stq (fs.map Fd.pf) q).flatMap StepD.cells) ∧ Below B5 w2 wr) (fun i _ => n1 - (Go.RowKit.intOf i).toNat)
  case atStart => exact ⟨0, _, by omega, by go_num, HX0.out, World.ownsRow_nil _ _ _ _, HL0.out⟩
  case round =>
    obtain ⟨q, sv, hq, rfl, hx, ho, hb⟩ := hrel
    have HX := hide hx
    have HO := hide ho
    have HB := hide hb
    have HBS : Hid (B5 < wr.heap.size) := lt_of_block hx
    clear hx ho hb HX0 HL0
    by_cases hlt : q < n1
    · obtain ⟨f, b, off, hfk, hok, hA1, hbB, q0, q1, q2, q3, _⟩ := FHolds.at_ (HFB.out wr HB.out) (k := q) hlt
      obtain ⟨num, text, fv, fa, fn, fc, fb⟩ := f
      simp only at q0 q1 q2 q3
      subst hA1
      have hpk : (fs.map Fd.pf)[q]? = some (num, text, fv, fb) := by rw [List.getElem?_map, hfk]; rfl
      have HOK := hide hok
      have HHK := hide (fun (h : num = 2) => stq_hit hpk h)
      have HMK := hide (fun (h : ¬ num = 2) => stq_miss hpk h)
      have hfbl : fn ≤ 5000 ∧ ∀ x ∈ fb, x < 256 := by
        have h1 := pread_fits HS.out (num, text, fv, fb) (by rw [← HP1.out]; exact List.mem_of_getElem? hpk)
        have h2 : fb.length = fn := hok.2.2.2.1
        simp only at h1
        exact ⟨by omega, h1.2.1⟩
      have HFN := hide hfbl.2
      have hfn := hfbl.1
      clear hfk hok hpk hfbl
      by_cases hm : num = 2
      · subst hm
        have hm2 : ((2 : Int) != 2) = false := by simp
        have HM2 := hide (HHK.out rfl)
        have HE7 : Hid (Later wr (wr.alloc (.cells #[.int .i64 2, .bool text, .int .u64 fv, .slice fa fn fc] 61 (0, 0)))) := Later.alloc _ _
        have CR8 := hide (rread_any fa fn fc fb (wr.alloc (.cells #[.int .i64 2, .bool text, .int .u64 fv, .slice fa fn fc] 61 (0, 0))) ((HOK.out.2.2.2.more (Nat.le_of_lt HBS.out)).later HE7.out) (by omega) HOK.out.2.2.1)
        have HCN : Hid ((stq (fs.map Fd.pf) q).length ≤ 5000) := by have h1 := stq_le (fs.map Fd.pf) q; show _ ≤ _; omega
        have HNN : Hid (n1 ≤ 5000) := hn1
        clear HHK HMK
        go_wp2_with (fail)
        refine CR8.out.mono ?_
        rintro e w8 ⟨A8, n8, c8, fs8, rfl, hp8, hf8, _, hb8⟩
        have HP8 := hide hp8
        have HF8 := hide (hf8.later (Later.drew w8))
        have HE8 : Hid (Later wr w8.drew) := Later.trans HE7.out (Later.trans hb8 (Later.drew w8))
        have HN8 : Hid (n8 ≤ 5000) := by
          have h1 := hf8.1
          have h2 := pread_count HFN.out
          have h3 : fb.length = fn := HOK.out.2.2.2.1
          rw [← hp8, List.length_map] at h2
          show _ ≤ _
          omega
        clear hp8 hf8 hb8 CR8 q0 q1 q2 q3
        go_wp2
        refine wp_region_S (fun j => j == 17 || j == 19) (by kernel_rfl) ?_
        refine wpAnyS_take (i := 0) (d := some 34) (v := ?var0) rfl rfl (by kernel_rfl) (by kernel_rfl) (by kernel_rfl) (by kernel_rfl) (by kernel_rfl) (fun _ _ _ h => h) (by rfl) ?yar0 ?_
        case yar0 => (intro w' hw'; go_simp; try (with_reducible rfl))
        simp only [Act.put]; try simp only [sA_, sZ_, sS_]
        refine wpAnyS_take (i := 1) (d := some 35) (v := sv) rfl rfl (by kernel_rfl) (by kernel_rfl) (by kernel_rfl) (by kernel_rfl) (by kernel_rfl) (fun _ _ _ h => h) (by rfl) ?yar1 ?_
        case yar1 => (intro w' hw'; have hc := cell_of_row w' B5 1 _ _ _ ((Below.block (HE8.out.trans hw') B5 HBS.out).trans HX.out); simp only [List.getElem?_toArray, List.getElem?_cons_zero, List.getElem?_cons_succ] at hc; go_simp; try (with_reducible rfl))
        simp only [Act.put]; try simp only [sA_, sZ_, sS_]
        refine wpAnyS_take (i := 2) (d := some 36) (v := ?var2) rfl rfl (by kernel_rfl) (by kernel_rfl) (by kernel_rfl) (by kernel_rfl) (by kernel_rfl) (fun _ _ _ h => h) (by rfl) ?yar2 ?_
        case yar2 => (intro w' hw'; go_simp; try (with_reducible rfl))
        simp only [Act.put]; try simp only [sA_, sZ_, sS_]
        refine wpAnyS_take (i := 5) (d := some 39) (v := ?var5) rfl rfl (by kernel_rfl) (by kernel_rfl) (by kernel_rfl) (by kernel_rfl) (by kernel_rfl) (fun _ _ _ h => h) (by rfl) ?yar5 ?_
        case yar5 => (intro w' hw'; go_simp; try (with_reducible rfl))
        simp only [Act.put]; try simp only [sA_, sZ_, sS_]
        refine wpAnyS_take (i := 7) (d := some 41) (v := ?var7) rfl rfl (by kernel_rfl) (by kernel_rfl) (by kernel_rfl) (by kernel_rfl) (by kernel_rfl) (fun _ _ _ h => h) (by rfl) ?yar7 ?_
        case yar7 => (intro w' hw'; go_simp; try (with_reducible rfl))
        simp only [Act.put]; try simp only [sA_, sZ_, sS_]
        refine wpAnyS_take (i := 9) (d := some 43) (v := ?var9) rfl rfl (by kernel_rfl) (by kernel_rfl) (by kernel_rfl) (by kernel_rfl) (by kernel_rfl) (fun _ _ _ h => h) (by rfl) ?yar9 ?_
        case yar9 => (intro w' hw'; go_simp; try (with_reducible rfl))
        simp only [Act.put]; try simp only [sA_, sZ_, sS_]
        refine wpAnyS_take (i := 11) (d := some 45) (v := ?var11) rfl rfl (by kernel_rfl) (by kernel_rfl) (by kernel_rfl) (by kernel_rfl) (by kernel_rfl) (fun _ _ _ h => h) (by rfl) ?yar11 ?_
        case yar11 => (intro w' hw'; go_simp; try (with_reducible rfl))
        simp only [Act.put]; try simp only [sA_, sZ_, sS_]
        refine wpAnyS_take (i := 13) (d := some 47) (v := ?var13) rfl rfl (by kernel_rfl) (by kernel_rfl) (by kernel_rfl) (by kernel_rfl) (by kernel_rfl) (fun _ _ _ h => h) (by rfl) ?yar13 ?_
        case yar13 => (intro w' hw'; go_simp; try (with_reducible rfl))
        simp only [Act.put]; try simp only [sA_, sZ_, sS_]
        refine wpAnyS_only (i := 3) rfl (by kernel_rfl) (by rfl) fun K hK => ?_
        go_simp
        refine (rbytes_is HP8.out HF8.out (by have := HN8.out; omega)).mono ?_
        rintro e w9 ⟨A9, n9, c9, rfl, hh9, _, hl⟩
        have HH9 := hide hh9
        have HF9 := hide (HF8.out.later hl)
        have HD9 : Hid (Later w8.drew w9) := hl
        refine hK.out _ _ hl ?_
        clear hl hh9
        clear hK K
        try (simp only [Act.put]; try simp only [sA_, sZ_, sS_])
        refine wpAnyS_take (i := 4) (d := some 38) (v := .string (str (pb (pread fb).2 1))) rfl rfl (by kernel_rfl) (by kernel_rfl) (by kernel_rfl) (by kernel_rfl) (by kernel_rfl) (fun _ _ _ h => h) (by rfl) ?yar4 ?_
        case yar4 => (intro w' hw'; have d1 := run_str w' w'.heap.size A9 n9 c9 (pb (pread fb).2 1) (HH9.out.later hw'); go_simp)
        simp only [Act.put]; try simp only [sA_, sZ_, sS_]
        refine wpAnyS_only (i := 6) rfl (by kernel_rfl) (by rfl) fun K hK => ?_
        go_simp
        refine (rval_is HP8.out HF9.out (by have := HN8.out; omega)).mono ?_
        rintro e w10 ⟨rfl, hl⟩
        have HF10 := hide (HF9.out.later hl)
        have HD10 : Hid (Later w8.drew w10) := HD9.out.trans hl
        refine hK.out _ _ hl ?_
        clear hl
        clear hK K
        try (simp only [Act.put]; try simp only [sA_, sZ_, sS_])
        refine wpAnyS_only (i := 8) rfl (by kernel_rfl) (by rfl) fun K hK => ?_
        go_simp
        refine (rval_is HP8.out HF10.out (by have := HN8.out; omega)).mono ?_
        rintro e w11 ⟨rfl, hl⟩
        have HF11 := hide (HF10.out.later hl)
        have HD11 : Hid (Later w8.drew w11) := HD10.out.trans hl
        refine hK.out _ _ hl ?_
        clear hl
        clear hK K
        try (simp only [Act.put]; try simp only [sA_, sZ_, sS_])
        refine wpAnyS_only (i := 10) rfl (by kernel_rfl) (by rfl) fun K hK => ?_
        go_simp
        refine (rval_is HP8.out HF11.out (by have := HN8.out; omega)).mono ?_
        rintro e w12 ⟨rfl, hl⟩
        have HF12 := hide (HF11.out.later hl)
        have HD12 : Hid (Later w8.drew w12) := HD11.out.trans hl
        refine hK.out _ _ hl ?_
        clear hl
        clear hK K
        try (simp only [Act.put]; try simp only [sA_, sZ_, sS_])
        refine wpAnyS_only (i := 12) rfl (by kernel_rfl) (by rfl) fun K hK => ?_
        go_simp
        refine (ris_is HP8.out HF12.out (by have := HN8.out; omega)).mono ?_
        rintro e w13 ⟨rfl, hl⟩
        have HF13 := hide (HF12.out.later hl)
        have HD13 : Hid (Later w8.drew w13) := HD12.out.trans hl
        refine hK.out _ _ hl ?_
        clear hl
        clear hK K
        try (simp only [Act.put]; try simp only [sA_, sZ_, sS_])
        refine wpAnyS_only (i := 14) rfl (by kernel_rfl) (by rfl) fun K hK => ?_
        go_simp
        refine (ris_is HP8.out HF13.out (by have := HN8.out; omega)).mono ?_
        rintro e w14 ⟨rfl, hl⟩
        have HF14 := hide (HF13.out.later hl)
        have HD14 : Hid (Later w8.drew w14) := HD13.out.trans hl
        refine hK.out _ _ hl ?_
        clear hl
        clear hK K
        try (simp only [Act.put]; try simp only [sA_, sZ_, sS_])
        refine wpAnyS_take (i := 15) (d := some 49) (v := .agg (stepQ fb).cells.toArray) rfl rfl (by kernel_rfl) (by kernel_rfl) (by kernel_rfl) (by kernel_rfl) (by kernel_rfl) (fun _ _ _ h => h) (by rfl) ?yar15 ?_
        case yar15 => (intro w' hw'; exact exec_build_parts 42 _ (by rfl) _ (by rfl) _ (built_step _ _ _ _ _ _))
        simp only [Act.put]; try simp only [sA_, sZ_, sS_]
        refine wpAnyS_only (i := 16) rfl (by kernel_rfl) (by rfl) fun K hK => ?_
        refine wp_buildSlice_one 22 42 _ (by rfl) i0 _ 6 Tryz.underlying22 hi hz0 hz1 (by decide) (by decide) (stepQ fb).cells.toArray (by rfl) (by rfl) ?_
        obtain ⟨w15, hw15⟩ : ∃ w15, w15 = w14.alloc (.cells (stepQ fb).cells.toArray 42 (0, 0)) := ⟨_, rfl⟩
        have HD15 : Hid (Later w8.drew w15) := by rw [hw15]; exact HD14.out.trans ((Below.refl _ _).alloc (Nat.le_refl _) _)
        have F15 : Hid (FlatAt (fun _ => True) w15 6 (.slice (some ⟨w14.heap.size, 0, none⟩) 1 1) 1 (stepQ fb).cells.toArray.toList) := by rw [hw15]; exact flat_one w14 42 6 (stepQ fb).cells.toArray (by rfl) (by exact (stepQ fb).one) _ trivial
        have hl15 : Later w14 w15 := by rw [hw15]; exact (Below.refl _ _).alloc (Nat.le_refl _) _
        rw [← hw15]
        refine hK.out _ _ hl15 ?_
        clear hw15 hl15
        clear hK K
        try (simp only [Act.put]; try simp only [sA_, sZ_, sS_])
        refine wpAnyS_write (i := 17) rfl rfl (by kernel_rfl) (by rfl) fun K hK => ?_
        refine wp_append_flat _ _ 22 (by rfl) (B5 + 1) 42 i0 _ 6 48 Tryz.underlying22 hi hz0 hz1 hz2 (by rfl) (by decide) sv (stq (fs.map Fd.pf) q).length ((stq (fs.map Fd.pf) q).flatMap StepD.cells) (by rfl) (own_on (HO.out) (HE8.out.trans HD15.out)) w14.heap.size 1 1 (stepQ fb).cells.toArray.toList (by rfl) _ F15.out (by omega) (by have := HCN.out; have := HNN.out; unfold maxLen; omega) (by have := HCN.out; have := HNN.out; omega) (by have h1 := HE8.out.size; have h2 := HD15.out.size; have h3 := HBS.out; have : w8.drew.heap.size = w8.heap.size := rfl; omega) ?_
        intro v16 w16 ho16 hg16 _
        obtain ⟨A16, m16, c16, rfl⟩ := own_form ho16
        have HO16 := hide ho16
        have HX16 : Hid (w16.heap[B5]? = some (.cells #[.string nm, sv] 24 (0, 0))) := by
          show _ = _
          rw [hg16.block B5 (by have h1 := HE8.out.size; have h2 := HD15.out.size; have h3 := HBS.out; have : w8.drew.heap.size = w8.heap.size := rfl; omega) (by intro e; have h3 := HBS.out; have := (own_on HO.out (HE8.out.trans HD15.out)).lt B5 e.symm; omega)]
          exact (Below.block (HE8.out.trans HD15.out) B5 HBS.out).trans HX.out
        have HL16 : Hid (Below B5 wr w16) := Below.grown (Below.mono (HE8.out.trans HD15.out) (Nat.le_of_lt HBS.out)) hg16 (by have h1 := HE8.out.size; have h2 := HD15.out.size; have h3 := HBS.out; have : w8.drew.heap.size = w8.heap.size := rfl; omega) (fun k hk => by have := (own_on HO.out (HE8.out.trans HD15.out)).lt k hk; omega)
        refine hK.out _ _ ?_
        clear ho16 hg16
        clear hK K
        try (simp only [Act.put]; try simp only [sA_, sZ_, sS_])
        refine wpAnyS_pure (i := 18) (d := some 52) (v := ?var18) rfl rfl (by kernel_rfl) (by kernel_rfl) (by kernel_rfl) (by kernel_rfl) (fun _ _ _ h => h) (by rfl) ?yar18 ?_
        case yar18 => (intro w'; go_simp; try (with_reducible rfl))
        simp only [Act.put]; try simp only [sA_, sZ_, sS_]
        refine wpAnyS_write (i := 19) rfl rfl (by kernel_rfl) (by rfl) fun K hK => ?_
        have hc2 := cell_of_row w16 B5 1 _ _ _ HX16.out
        have hf2 := frozen_of_row w16 B5 1 _ _ HX16.out
        simp only [List.getElem?_toArray, List.getElem?_cons_zero, List.getElem?_cons_succ] at hc2
        go_simp
        obtain ⟨w17, hw17⟩ : ∃ w17, w17 = w16.setCell ⟨B5, 1, none⟩ (.slice A16 m16 c16) := ⟨_, rfl⟩
        have hg17 : w16.grownBy w17 (some B5) := by rw [hw17]; exact grown_set w16 B5 1 _
        have HX17 : Hid (w17.heap[B5]? = some (.cells #[.string nm, .slice A16 m16 c16] 24 (0, 0))) := by rw [hw17]; exact set1 HX16.out
        have HO17 : Hid (w17.ownsRow (B5 + 1) 42 6 (.slice A16 m16 c16) ((stq (fs.map Fd.pf) q).length + 1) ((stq (fs.map Fd.pf) q).flatMap StepD.cells ++ (stepQ fb).cells.toArray.toList)) := own_off HO16.out hg17 (by omega)
        have HL17 : Hid (Below B5 wr w17) := Below.grown HL16.out hg17 (by have := HL16.out.size; have := HBS.out; omega) (fun k hk => by have := Option.some.inj hk; omega)
        try rw [← hw17]
        refine hK.out _ _ ?_
        clear hg17 hw17 hc2 hf2
        clear hK K
        try simp only [Act.put]
        refine wpAnyS_done (by kernel_rfl) ?_ _
        have HO18 : Hid (w17.ownsRow (B5 + 1) 42 6 (.slice A16 m16 c16) (stq (fs.map Fd.pf) (q + 1)).length ((stq (fs.map Fd.pf) (q + 1)).flatMap StepD.cells)) := by
          show World.ownsRow _ _ _ _ _ _ _
          rw [HM2.out, List.length_append, List.flatMap_append]
          simpa using HO17.out
        go_wp2
        go_roundw
        case rel => exact ⟨q + 1, _, by omega, by go_num, HX17.out, HO18.out, HB.out.trans HL17.out⟩
        case measure => simp [Go.RowKit.intOf]; omega
      · have hm2 : (num != 2) = true := by simpa using hm
        have HM2 := hide (HMK.out hm)
        clear hm
        go_wp2
        go_roundw
        case rel => exact ⟨q + 1, sv, by omega, by go_num, (Below.block (Later.alloc wr _) B5 HBS.out).trans HX.out, by rw [HM2.out]; exact HO.out.alloc _, HB.out.alloc (by have := HBS.out; omega) _⟩
        case measure => simp [Go.RowKit.intOf]; omega
    · obtain rfl : q = n1 := by omega
      have hall : stq (fs.map Fd.pf) q = (defQ l).steps := by
        have h1 := HFL.out
        unfold stq defQ
        rw [List.take_of_length_le (by rw [List.length_map]; omega), HP1.out]
      rw [hall] at HO
      obtain ⟨AS, mS, cS, rfl⟩ := own_form HO.out
      have hc0 := cell_of_row wr B5 0 _ _ _ HX.out
      have hc1 := cell_of_row wr B5 1 _ _ _ HX.out
      simp only [List.getElem?_toArray, List.getElem?_cons_zero, List.getElem?_cons_succ] at hc0 hc1
      have HBW := hide (HBB.out wr HB.out)
      have HZZ : Hid (wr.heap[w.heap.size]? = some (.cells #[.string ⟨#[]⟩, .slice none 0 0] 24 (0, 0))) := (HB.out.block w.heap.size hB5').trans HQ2.out
      have HNMD : Hid (nm = (defQ l).name) := HNM.out.symm
      have he0 := cell_of_row wr w.heap.size 0 _ _ _ HZZ.out
      have he1 := cell_of_row wr w.heap.size 1 _ _ _ HZZ.out
      have hf0 := frozen_of_row wr w.heap.size 0 _ _ HZZ.out
      have hf1 := frozen_of_row wr w.heap.size 1 _ _ HZZ.out
      simp only [List.getElem?_toArray, List.getElem?_cons_zero, List.getElem?_cons_succ] at he0 he1
      have HO17 := hide (own_off (own_off HO.out (grown_set wr w.heap.size 0 (.string nm)) (by omega)) (grown_set _ w.heap.size 1 (.slice AS mS cS)) (by omega))
      have HL17 : Hid (Later w ((wr.setCell ⟨w.heap.size, 0, none⟩ (.string nm)).setCell ⟨w.heap.size, 1, none⟩ (.slice AS mS cS))) := (HBW.out.setCell (p := ⟨w.heap.size, 0, none⟩) (Nat.le_refl _) _).setCell (p := ⟨w.heap.size, 1, none⟩) (Nat.le_refl _) _
      have HST : Hid (StepsAt (w.heap.size ≤ ·) ((wr.setCell ⟨w.heap.size, 0, none⟩ (.string nm)).setCell ⟨w.heap.size, 1, none⟩ (.slice AS mS cS)) (.slice AS mS cS) (defQ l).steps) := (FlatAt.of_own HO17.out (stepsq_one _)).mono (fun b _ h => by have h1 : B5 + 1 ≤ b := h; show w.heap.size ≤ b; omega)
      go_wp2
      exact bodyPost_ret (v := .agg #[.string nm, .slice AS mS cS]) (by simp [results, Tryz.results50, go_sem, he0, he1]) rfl ⟨.slice AS mS cS, by rw [← HNMD.out], HST.out, HL17.out⟩
end Go.Proofs.YtdkiopajilakcaaGreatDoor
/- The walk over droverref09.op: an operation out of bytes, as the document reads it. -/
namespace Go.Proofs.YtdkiopajilakcaaGreatDoor
open Go.RowKit

section
variable {P : Program}
end
end Go.Proofs.YtdkiopajilakcaaGreatDoor
/- The walk over droverref09.OpBytes. -/
namespace Go.Proofs.YtdkiopajilakcaaGreatDoor
open Go.RowKit

end Go.Proofs.YtdkiopajilakcaaGreatDoor
/- The walk over droverref09.may: may all these numbers be? -/
namespace Go.Proofs.YtdkiopajilakcaaGreatDoor
open Go.RowKit

theorem all_next {l : List Int} {q : Nat} {x : Int} (h : (l.take q).all mayB = true) (hx : l[q]? = some x) (h0 : 0 ≤ x) (h1 : x ≤ 1099511627776) : (l.take (q + 1)).all mayB = true := by
  rw [List.take_add_one, hx, List.all_append, h]
  simp [mayB, h0, h1]
theorem all_no {l : List Int} {q : Nat} {x : Int} (hx : l[q]? = some x) (h0 : mayB x = false) : false = l.all mayB := by
  symm
  rw [Bool.eq_false_iff]
  intro h
  rw [List.all_eq_true] at h
  rw [h x (List.mem_of_getElem? hx)] at h0
  cases h0

set_option maxHeartbeats 1000000 in
set_option maxRecDepth 100000 in
theorem rmay_any {w : World} {A : Option Addr} {n c : Nat} {F : Nat → Prop} {l : List Int} (h : IncsAt F w (.slice A n c) l) (hn : n = l.length) :
    Calls Tryz.prog 97 #[.slice A n c] w fun e w' => e = .returned (.bool (l.all mayB)) ∧ w' = w := by
  have hnb : n ≤ 9223372036854775807 := by
    obtain ⟨_, _, hv, h1, h2, _⟩ := FlatAt.shape h
    injection hv with _ e2 e3
    unfold maxLen at h2
    omega
  have H := hide h
  have HN := hide hn
  clear h hn
  go_enter Tryz.func97, Tryz.ntmps97
  go_wp2
  go_loop [7] (fun i => ∃ q : Nat, q ≤ n ∧ i = .int .i64 (q : Int) ∧ (l.take q).all mayB = true) (fun i => n - (Go.RowKit.intOf i).toNat)
  case atStart => exact ⟨0, by omega, rfl, rfl⟩
  case round =>
    obtain ⟨q, hq, rfl, hall⟩ := hrel
    have HA := hide hall
    clear hall
    by_cases hlt : q < n
    · obtain ⟨x, b, off, c', hx, hv, _, _, _, hc⟩ := IncsAt.at_ H.out (i := q) (by rw [← HN.out]; exact hlt)
      obtain ⟨rfl, rfl⟩ : A = some ⟨b, off, none⟩ ∧ c = c' := by injection hv with e1 _ e3; exact ⟨e1, e3⟩
      have HX := hide hx
      clear hx hv
      by_cases h0 : x < 0
      · have HQ := hide (all_no HX.out (by simp [mayB]; omega))
        go_wp2
        go_ret
        exact ⟨ret_bool HQ.out, rfl⟩
      · by_cases h1 : 1099511627776 < x
        · have HQ := hide (all_no HX.out (by simp [mayB]; omega))
          go_wp2
          go_ret
          exact ⟨ret_bool HQ.out, rfl⟩
        · have HQ := hide (all_next HA.out HX.out (by omega) (by omega))
          go_wp2
          go_round
          case rel => exact ⟨q + 1, by omega, by go_num, HQ.out⟩
          case measure => simp [Go.RowKit.intOf]; omega
    · have hall : true = l.all mayB := by
        have h1 := HA.out
        rw [List.take_of_length_le (by have := HN.out; omega)] at h1
        exact h1.symm
      have HALL := hide hall
      clear hall
      go_wp2
      go_ret
      exact ⟨ret_bool HALL.out, rfl⟩
end Go.Proofs.YtdkiopajilakcaaGreatDoor
/- The walk over droverref09.GoodOp. -/
namespace Go.Proofs.YtdkiopajilakcaaGreatDoor
open Go.RowKit

theorem steps_no {l : List StepD} {q : Nat} {s : StepD} (hs : l[q]? = some s) (h : stepG s = false) : l.all stepG = false := by
  rw [Bool.eq_false_iff]
  intro h2
  rw [List.all_eq_true] at h2
  rw [h2 s (List.mem_of_getElem? hs)] at h
  cases h
theorem steps_next {l : List StepD} {q : Nat} {s : StepD} (h : (l.take q).all stepG = true) (hs : l[q]? = some s) (hg : stepG s = true) : (l.take (q + 1)).all stepG = true := by
  rw [List.take_add_one, hs, List.all_append, h]
  simp [hg]

set_option maxHeartbeats 800000 in
set_option maxRecDepth 100000 in
theorem rgoodop_any {G : Nat → Prop} {sA : Option Addr} {m sc : Nat} {x : OpD} {w : World} (hl : StepsAt G w (.slice sA m sc) x.steps) (hm : m = x.steps.length) :
    Calls Tryz.prog 51 #[.agg #[.int .i64 x.kind, .int .i64 x.client, .int .i64 x.request, .string x.name, .slice sA m sc, .int .i64 x.saga, .int .i64 x.step, .int .i64 x.try_, .bool x.back, .bool x.good]] w fun e w' => e = .returned (.bool (opG x)) ∧ Later w w' := by
  obtain ⟨t, ht⟩ : ∃ t, [x.client, x.request, x.saga, x.step, x.try_].all mayB = t := ⟨_, rfl⟩
  have hnb : m ≤ 9223372036854775807 := by
    obtain ⟨_, _, hv, h1, h2, _⟩ := FlatAt.shape hl
    injection hv with _ e2 e3
    unfold maxLen at h2
    omega
  have HLL := hide hl
  have HM := hide hm
  have HX0 : Hid ((w.alloc (.cells #[.int .i64 x.kind, .int .i64 x.client, .int .i64 x.request, .string x.name, .slice sA m sc, .int .i64 x.saga, .int .i64 x.step, .int .i64 x.try_, .bool x.back, .bool x.good] 104 (0, 0))).heap[w.heap.size]? = some (.cells #[.int .i64 x.kind, .int .i64 x.client, .int .i64 x.request, .string x.name, .slice sA m sc, .int .i64 x.saga, .int .i64 x.step, .int .i64 x.try_, .bool x.back, .bool x.good] 104 (0, 0))) := heap_alloc_new _ _
  have HL0 : Hid (Later w (w.alloc (.cells #[.int .i64 x.kind, .int .i64 x.client, .int .i64 x.request, .string x.name, .slice sA m sc, .int .i64 x.saga, .int .i64 x.step, .int .i64 x.try_, .bool x.back, .bool x.good] 104 (0, 0)))) := Later.alloc _ _
  have C := rmay_any (incs_new [x.client, x.request, x.saga, x.step, x.try_] (w.alloc (.cells #[.int .i64 x.kind, .int .i64 x.client, .int .i64 x.request, .string x.name, .slice sA m sc, .int .i64 x.saga, .int .i64 x.step, .int .i64 x.try_, .bool x.back, .bool x.good] 104 (0, 0))) (by simp)) rfl
  rw [ht] at C
  simp only [World.size_alloc, List.map_cons, List.map_nil, List.length_cons, List.length_nil, Nat.zero_add, Nat.reduceAdd] at C
  have HC := hide C
  have HT := hide ht
  clear hl hm C ht
  by_cases k0 : 0 ≤ x.kind
  · by_cases k1 : x.kind ≤ 5
    · have K0 := hide k0
      have K1 := hide k1
      go_enter Tryz.func51, Tryz.ntmps51
      go_wp2_with (fail)
      refine HC.out.mono ?_
      rintro e w1 ⟨rfl, hw1⟩
      have HL1 : Hid (Later w w1) := by rw [hw1]; exact HL0.out.trans (Later.alloc _ _)
      have hx1 : w1.heap[w.heap.size]? = some (.cells #[.int .i64 x.kind, .int .i64 x.client, .int .i64 x.request, .string x.name, .slice sA m sc, .int .i64 x.saga, .int .i64 x.step, .int .i64 x.try_, .bool x.back, .bool x.good] 104 (0, 0)) := by rw [hw1]; exact (Below.block (Later.alloc _ _) w.heap.size (lt_of_block HX0.out)).trans HX0.out
      have c3 := box_at hx1 3 _ rfl
      have c4 := box_at hx1 4 _ rfl
      clear hw1 hx1 HC
      cases t with
      | false =>
        clear c3 c4
        go_wp2
        go_ret
        exact ⟨ret_bool (by have h := HT.out; simp only [List.all_cons, List.all_nil] at h; unfold opG; simp only [Bool.and_true] at h; simp only [Bool.and_assoc] at h ⊢; rw [h]; simp), HL1.out⟩
      | true =>
        by_cases n1 : x.name.size ≤ 16
        · by_cases n2 : m ≤ 8
          · have N1 := hide n1
            have N2 := hide n2
            go_wp2
            clear c3 c4
            go_loopw [46] (fun i wr => ∃ q : Nat, q ≤ m ∧ i = .int .i64 (q : Int) ∧ (x.steps.take q).all stepG = true ∧ Later w wr) (fun i _ => m - (Go.RowKit.intOf i).toNat)
            case atStart => exact ⟨0, by omega, rfl, rfl, HL1.out⟩
            case round =>
              obtain ⟨q, hq, rfl, hall, hlat⟩ := hrel
              have HA := hide hall
              have HLW := hide hlat
              clear hall hlat
              by_cases hlt : q < m
              · obtain ⟨s, b, off, c', hsk, hv, _, _, hbw, hr⟩ := StepsAt.at_ (HLL.out.kept (Kept.of_below HLW.out G)) (i := q) (by rw [← HM.out]; exact hlt)
                obtain ⟨rfl, rfl⟩ : sA = some ⟨b, off, none⟩ ∧ sc = c' := by injection hv with e1 _ e3; exact ⟨e1, e3⟩
                obtain ⟨r0, r1, r2, r3, r4, r5⟩ := range_step hr
                have HSK := hide hsk
                obtain ⟨t2, ht2⟩ : ∃ t, [s.stub, s.retry, s.wait].all mayB = t := ⟨_, rfl⟩
                have C := rmay_any (incs_new [s.stub, s.retry, s.wait] (wr.alloc (.cells #[.string s.name, .int .i64 s.stub, .int .i64 s.retry, .int .i64 s.wait, .bool s.undo, .bool s.pivot] 42 (0, 0))) (by simp)) rfl
                rw [ht2] at C
                simp only [World.size_alloc, List.map_cons, List.map_nil, List.length_cons, List.length_nil, Nat.zero_add, Nat.reduceAdd] at C
                have HC := hide C
                have HT2 := hide ht2
                have HW8 : Hid (Later w (wr.alloc (.cells #[.string s.name, .int .i64 s.stub, .int .i64 s.retry, .int .i64 s.wait, .bool s.undo, .bool s.pivot] 42 (0, 0)))) := HLW.out.trans (Later.alloc _ _)
                clear hsk hv hr C ht2
                by_cases n3 : s.name.size ≤ 16
                · have N3 := hide n3
                  go_wp2_with (fail)
                  refine HC.out.mono ?_
                  rintro e w2 ⟨rfl, hw2⟩
                  have HL2 : Hid (Later w w2) := by rw [hw2]; exact HW8.out.trans (Later.alloc _ _)
                  have hsg : stepG s = t2 := by
                    have h := HT2.out
                    simp only [List.all_cons, List.all_nil, Bool.and_true] at h
                    unfold stepG
                    rw [decide_eq_true N3.out, ← h]
                    simp [Bool.and_assoc]
                  have HSG := hide hsg
                  clear hw2 hsg HC r0 r1 r2 r3 r4 r5
                  cases t2 with
                  | false =>
                    have HNO := hide (steps_no HSK.out HSG.out)
                    go_wp2
                    go_ret
                    exact ⟨ret_bool (by unfold opG defG; rw [show x.defn.steps = x.steps from rfl, HNO.out]; simp), HL2.out⟩
                  | true =>
                    have HNX := hide (steps_next HA.out HSK.out HSG.out)
                    go_wp2
                    go_roundw
                    case rel => exact ⟨q + 1, by omega, by go_num, HNX.out, HL2.out⟩
                    case measure => simp [Go.RowKit.intOf]; omega
                · have HNO := hide (steps_no HSK.out (by unfold stepG; rw [decide_eq_false n3]; rfl))
                  clear HC
                  go_wp2
                  go_ret
                  exact ⟨ret_bool (by unfold opG defG; rw [show x.defn.steps = x.steps from rfl, HNO.out]; simp), HW8.out⟩
              · have hall : x.steps.all stepG = true := by
                  have h1 := HA.out
                  rwa [List.take_of_length_le (by have := HM.out; omega)] at h1
                have HALL := hide hall
                clear hall
                go_wp2
                go_ret
                refine ⟨ret_bool ?_, HLW.out⟩
                have h := HT.out
                simp only [List.all_cons, List.all_nil, Bool.and_true, Bool.and_eq_true] at h
                unfold opG defG
                have h8 : x.defn.steps.length ≤ 8 := by have h1 := HM.out; have h2 := N2.out; show x.steps.length ≤ 8; omega
                have h16 : x.defn.name.size ≤ 16 := N1.out
                rw [show x.defn.steps.all stepG = true from HALL.out, decide_eq_true K0.out, decide_eq_true K1.out, decide_eq_true h8, decide_eq_true h16]
                simp [h]
          · have N2 := hide n2
            go_wp2
            go_ret
            exact ⟨ret_bool (by have h8 : ¬ x.defn.steps.length ≤ 8 := by { have h1 := HM.out; have h2 := N2.out; show ¬ x.steps.length ≤ 8; omega }; unfold opG defG; rw [decide_eq_false h8]; simp), HL1.out⟩
        · have N1 := hide n1
          go_wp2
          go_ret
          exact ⟨ret_bool (by have h8 : ¬ x.defn.name.size ≤ 16 := N1.out; unfold opG defG; rw [decide_eq_false h8]; simp), HL1.out⟩
    · have K1 := hide k1
      go_enter Tryz.func51, Tryz.ntmps51
      go_wp2
      go_ret
      exact ⟨ret_bool (by unfold opG; rw [decide_eq_false (Int.not_le.2 K1.out)]; simp), HL0.out⟩
  · have K0 := hide k0
    go_enter Tryz.func51, Tryz.ntmps51
    go_wp2
    go_ret
    exact ⟨ret_bool (by unfold opG; rw [decide_eq_false (Int.not_le.2 K0.out)]; simp), HL0.out⟩
end Go.Proofs.YtdkiopajilakcaaGreatDoor
/- The walks over droverref09.ReadDef and ReadOp: definitions and operations out of bytes, or the error, as the document reads them. -/
namespace Go.Proofs.YtdkiopajilakcaaGreatDoor
open Go.RowKit

def zdef : Array Value := #[.string ⟨#[]⟩, .slice none 0 0]
theorem put_zdef (a b : Value) : putAt zdef 0 [a, b] = #[a, b] := by simp [zdef, putAt]
theorem built_def0 : Tryz.prog.built 24 [] = some zdef := by kernel_rfl
theorem built_opdef (s : ByteArray) (v : Value) : Tryz.prog.built 104 [(3, .agg #[.string s, v])] = some #[.int .i64 0, .int .i64 0, .int .i64 0, .string s, v, .int .i64 0, .int .i64 0, .int .i64 0, .bool false, .bool false] := by kernel_rfl
theorem defG_opz (d : DefD) : opG { OpD.zero with name := d.name, steps := d.steps } = defG d := by
  have h := defG_op { OpD.zero with name := d.name, steps := d.steps }
  simpa [OpD.defn] using h

set_option maxHeartbeats 4000000 in
set_option maxRecDepth 100000 in
theorem rreaddef_any {A : Option Addr} {n c : Nat} {l : List Nat} {w : World} (hl : Holds w w.heap.size A n l) (hn : n ≤ 5000) (hc : n ≤ c) :
    Calls Tryz.prog 22 #[.slice A n c] w fun e w' => ∃ sv, e = .returned (.tuple #[.agg #[.string (readDefQ l).2.name, sv], .int .i64 ((readDefQ l).1 : Nat)]) ∧ StepsAt (w.heap.size ≤ ·) w' sv (readDefQ l).2.steps ∧ Later w w' := by
  obtain ⟨W0, hW0⟩ : ∃ W0, W0 = w.alloc (.cells zdef 24 (0, 0)) := ⟨_, rfl⟩
  have HB0 : Hid (Later w W0) := by rw [hW0]; exact Later.alloc _ _
  have HZ0 : Hid (W0.heap[w.heap.size]? = some (.cells zdef 24 (0, 0))) := by rw [hW0]; exact heap_alloc_new _ _
  have HSZ : Hid (w.heap.size < W0.heap.size) := lt_of_block HZ0.out
  have CR := hide (rread_any A n c l _ (hl.later HB0.out) (by omega) hc)
  have HIN0 : Hid (∀ w', Later w w' → Holds w' w'.heap.size A n l) := fun w' h => hl.later h
  have HS := hide hl.2.1
  have hln := hl.1
  have HW0 := hide hW0
  have HQ1 : Hid ((pread l).1 ≠ 0 → readDefQ l = ((pread l).1, .zero)) := fun h => by unfold readDefQ; rw [if_pos h]
  have HQ2 : Hid ((pread l).1 = 0 → ¬ (defB (defQ l) = l ∧ defG (defQ l) = true) → readDefQ l = (4, .zero)) := fun h h2 => by unfold readDefQ; rw [if_neg (by simpa using h), if_neg h2]
  have HQ3 : Hid ((pread l).1 = 0 → defB (defQ l) = l → defG (defQ l) = true → readDefQ l = (0, defQ l)) := fun h h2 h3 => by unfold readDefQ; rw [if_neg (by simpa using h), if_pos ⟨h2, h3⟩]
  clear hl
  go_enter Tryz.func22, Tryz.ntmps22
  go_wp2_with (fail)
  rw [show w.alloc (.cells #[.string ⟨#[]⟩, .slice none 0 0] 24 (0, 0)) = W0 from HW0.out.symm]
  refine CR.out.mono ?_
  rintro e w1 ⟨A1, n1, c1, fs, rfl, _, _, _, hb1⟩
  have HL1 : Hid (Later W0 w1) := hb1
  clear hb1 CR hW0
  obtain ⟨er, her⟩ : ∃ er, (pread l).1 = er := ⟨_, rfl⟩
  rw [her] at HQ1 HQ2 HQ3 ⊢
  clear her
  by_cases he : er = 0
  · subst he
    go_wp2_with (fail)
    refine (rdef_any (HIN0.out _ (Later.trans HB0.out HL1.out)) hn hc).mono ?_
    rintro e w2 ⟨sv, rfl, hst, hl2⟩
    obtain ⟨As, cs, rfl, _, _, _⟩ := FlatAt.shape hst
    obtain ⟨ms, hms⟩ : ∃ ms, (defQ l).steps.length = ms := ⟨_, rfl⟩
    rw [hms] at hst ⊢
    have HMS : Hid (ms = (defQ l).steps.length) := hms.symm
    obtain ⟨B6, hB6⟩ : ∃ B6, w2.heap.size = B6 := ⟨_, rfl⟩
    have HL2 : Hid (Later W0 w2) := HL1.out.trans hl2
    have HZ2 : Hid ((w2.alloc (.cells zdef 24 (0, 0))).heap[w2.heap.size]? = some (.cells zdef 24 (0, 0))) := heap_alloc_new _ _
    have HB6' := hide hB6
    clear hB6
    go_wp2_with (refine wpList_store_box (by rfl) 24 _ _ (by rfl) w2.heap.size 0 #[.string (defQ l).name, (.slice As ms cs)] (by rfl) (by rfl) 24 zdef HZ2.out (by kernel_rfl) (by exact Nat.le_of_ble_eq_true rfl) (by intro u hu; simp at hu; rcases hu with rfl | rfl <;> rfl) ?_; intro w25 hb25 hg25; rw [put_zdef] at hb25)
    have hB6 := HB6'.out
    obtain ⟨w3, hw3⟩ : ∃ w3, w3 = w25.drew := ⟨_, rfl⟩
    have HL3 : Hid (Later w2 w3) := by rw [hw3]; exact (Below.grown ((Below.refl _ _).alloc (Nat.le_refl _) _) hg25 (by simp) (fun k hk => by have := Option.some.inj hk; omega)).trans (Below.mono (Later.drew _) (by have := hg25.size; simp at this; omega))
    have HB6 : Hid (w3.heap[B6]? = some (.cells #[.string (defQ l).name, (.slice As ms cs)] 24 (0, 0))) := by rw [hw3, ← hB6]; exact hb25
    have HBS : Hid (B6 < w3.heap.size) := lt_of_block HB6.out
    have HST : Hid (∀ w', Later w3 w' → StepsAt (fun b => w.heap.size < b) w' (.slice As ms cs) (defQ l).steps) := fun w' h => (hst.kept (Kept.of_below (HL3.out.trans h) _)).mono (fun b _ hb => by have h1 := HL1.out.size; have h2 := HSZ.out; have h3 : w1.heap.size ≤ b := hb; show w.heap.size < b; omega)
    have HIN : Hid (∀ w', Later w3 w' → Holds w' w'.heap.size A n l) := fun w' h => HIN0.out w' (Later.trans HB0.out (Later.trans HL2.out (HL3.out.trans h)))
    have HZ : Hid (∀ w', Later w3 w' → w'.heap[w.heap.size]? = some (.cells zdef 24 (0, 0))) := fun w' h => (Below.block (Later.trans HL2.out (HL3.out.trans h)) w.heap.size HSZ.out).trans HZ0.out
    have HLW : Hid (∀ w', Later w3 w' → Later w w') := fun w' h => Later.trans HB0.out (Later.trans HL2.out (HL3.out.trans h))
    have HSM := hide ((defQ_sm HS.out).mono (show l.length ≤ 5000 by omega))
    have HLEN : Hid (5000 ≤ 5000) := Nat.le_refl _
    have HR1 : Hid (proom (defF (defQ l)) ≤ 1000000) := Nat.le_trans (defQ_room HS.out) (by omega)
    have HD0 : Hid (Later w3 w3) := Below.refl _ _
    have HW3 := hide hw3
    clear hw3
    clear hst hms hl2 hb25 hg25
    by_cases heq : defB (defQ l) = l
    · have HEQ : Hid (((str (defB (defQ l))).toList == (str l).toList) = true) := by rw [heq]; exact str_beq l
      obtain ⟨g, hg⟩ : ∃ g, defG (defQ l) = g := ⟨_, rfl⟩
      have HGD := hide hg
      have HE2 := hide heq
      clear hg heq
      cases g with
      | true =>
        have HRS := hide (HQ3.out (by trivial) HE2.out HGD.out)
        try rw [hB6]
        refine wp_region_L (by kernel_rfl) ?_
        rw [← HW3.out]
        refine wpAnyL_take (i := 0) (d := some 18) (v := .agg #[.string (defQ l).name, (.slice As ms cs)]) rfl rfl (by kernel_rfl) (by kernel_rfl) (by kernel_rfl) (fun _ _ _ h => h) (by rfl) ?yaaeg0 ?_
        case yaaeg0 => (intro w' hw'; exact exec_load_box 24 _ (by rfl) B6 0 (by rfl) 24 _ ((Below.block (HD0.out.trans hw') B6 HBS.out).trans HB6.out) 2 _ Tryz.underlying24 (by rfl) (by kernel_rfl) [.string (defQ l).name, (.slice As ms cs)] (by rfl) (by rfl))
        simp only [Act.put]; try simp only [sA_, sZ_, sS_]
        refine wpAnyL_take (i := 3) (d := some 21) (v := ?vaaeg3) rfl rfl (by kernel_rfl) (by kernel_rfl) (by kernel_rfl) (fun _ _ _ h => h) (by rfl) ?yaaeg3 ?_
        case yaaeg3 => (intro w' hw'; go_simp; try (with_reducible rfl))
        simp only [Act.put]; try simp only [sA_, sZ_, sS_]
        refine wpAnyL_take (i := 4) (d := some 22) (v := .string (str l)) rfl rfl (by kernel_rfl) (by kernel_rfl) (by kernel_rfl) (fun _ _ _ h => h) (by rfl) ?yaaeg4 ?_
        case yaaeg4 => (intro w' hw'; have d1 := run_str w' w'.heap.size A n c l (HIN.out _ (HD0.out.trans hw')); go_simp)
        simp only [Act.put]; try simp only [sA_, sZ_, sS_]
        refine wpAnyL_only (i := 1) rfl (by kernel_rfl) (by rfl) fun K hK => ?_
        go_simp
        refine (rdefb_any (HST.out _ HD0.out) HMS.out HSM.out HLEN.out HR1.out).mono ?_
        rintro e w5 ⟨A5, n5, c5, rfl, _, hh5, _, hl5⟩
        have HH5 := hide hh5
        have HD5 : Hid (Later w3 w5) := HD0.out.trans hl5
        refine hK.out _ _ hl5 ?_
        clear hh5 hl5
        clear hK K
        try (simp only [Act.put]; try simp only [sA_, sZ_, sS_])
        refine wpAnyL_take (i := 2) (d := some 20) (v := .string (str (defB (defQ l)))) rfl rfl (by kernel_rfl) (by kernel_rfl) (by kernel_rfl) (fun _ _ _ h => h) (by rfl) ?yaaeg2 ?_
        case yaaeg2 => (intro w' hw'; have d1 := run_str w' w'.heap.size A5 n5 c5 (defB (defQ l)) (HH5.out.later hw'); go_simp)
        simp only [Act.put]; try simp only [sA_, sZ_, sS_]
        refine wpAnyL_take (i := 5) (d := some 23) (v := .bool false) rfl rfl (by kernel_rfl) (by kernel_rfl) (by kernel_rfl) (fun _ _ _ h => h) (by rfl) ?yaaeg5 ?_
        case yaaeg5 => (intro w' hw'; have e1 := HEQ.out; go_simp; try (with_reducible rfl))
        simp only [Act.put]; try simp only [sA_, sZ_, sS_]
        refine wpAnyL_take (i := 6) (d := some 24) (v := ?vaaeg6) rfl rfl (by kernel_rfl) (by kernel_rfl) (by kernel_rfl) (fun _ _ _ h => h) (by rfl) ?yaaeg6 ?_
        case yaaeg6 => (intro w' hw'; go_simp; try (with_reducible rfl))
        simp only [Act.put]; try simp only [sA_, sZ_, sS_]
        refine wpAnyL_take (i := 7) (d := some 25) (v := .agg #[.string (defQ l).name, (.slice As ms cs)]) rfl rfl (by kernel_rfl) (by kernel_rfl) (by kernel_rfl) (fun _ _ _ h => h) (by rfl) ?yaaeg7 ?_
        case yaaeg7 => (intro w' hw'; exact exec_load_box 24 _ (by rfl) B6 0 (by rfl) 24 _ ((Below.block (HD5.out.trans hw') B6 HBS.out).trans HB6.out) 2 _ Tryz.underlying24 (by rfl) (by kernel_rfl) [.string (defQ l).name, (.slice As ms cs)] (by rfl) (by rfl))
        simp only [Act.put]; try simp only [sA_, sZ_, sS_]
        refine wpAnyL_take (i := 8) (d := some 26) (v := .agg #[.int .i64 0, .int .i64 0, .int .i64 0, .string (defQ l).name, (.slice As ms cs), .int .i64 0, .int .i64 0, .int .i64 0, .bool false, .bool false]) rfl rfl (by kernel_rfl) (by kernel_rfl) (by kernel_rfl) (fun _ _ _ h => h) (by rfl) ?yaaeg8 ?_
        case yaaeg8 => (intro w' hw'; exact exec_build_parts 104 _ (by rfl) _ (by rfl) _ (built_opdef _ _))
        simp only [Act.put]; try simp only [sA_, sZ_, sS_]
        refine wpAnyL_only (i := 9) rfl (by kernel_rfl) (by rfl) fun K hK => ?_
        go_simp
        have CG := (show Calls Tryz.prog 51 _ _ _ from rgoodop_any (x := { OpD.zero with name := (defQ l).name, steps := (defQ l).steps }) (HST.out _ HD5.out) HMS.out)
        rw [defG_opz] at CG
        rw [HGD.out] at CG
        refine CG.mono ?_
        rintro e w6 ⟨rfl, hl6⟩
        have HD6 : Hid (Later w3 w6) := HD5.out.trans hl6
        refine hK.out _ _ hl6 ?_
        clear hl6 CG
        clear hK K
        try (simp only [Act.put]; try simp only [sA_, sZ_, sS_])
        refine wpAnyL_take (i := 10) (d := some 28) (v := ?vaaeg10) rfl rfl (by kernel_rfl) (by kernel_rfl) (by kernel_rfl) (fun _ _ _ h => h) (by rfl) ?yaaeg10 ?_
        case yaaeg10 => (intro w' hw'; go_simp; try (with_reducible rfl))
        simp only [Act.put]; try simp only [sA_, sZ_, sS_]
        refine wpAnyL_take (i := 11) (d := some 29) (v := ?vaaeg11) rfl rfl (by kernel_rfl) (by kernel_rfl) (by kernel_rfl) (fun _ _ _ h => h) (by rfl) ?yaaeg11 ?_
        case yaaeg11 => (intro w' hw'; go_simp; try (with_reducible rfl))
        simp only [Act.put]; try simp only [sA_, sZ_, sS_]
        refine wpAnyL_done (by kernel_rfl) ?_ _
        have HZ6 := hide (HZ.out _ HD6.out)
        go_wp2_with (first | (refine wpList_load_box (by rfl) 24 _ (by rfl) B6 0 (by rfl) 24 _ ((Below.block HD6.out B6 HBS.out).trans HB6.out) 2 _ Tryz.underlying24 (by rfl) (by kernel_rfl) [.string (defQ l).name, (.slice As ms cs)] (by rfl) (by rfl) ?_) | (refine wpList_store_box (by rfl) 24 _ _ (by rfl) w.heap.size 0 #[.string (defQ l).name, (.slice As ms cs)] (by rfl) (by rfl) 24 zdef HZ6.out (by kernel_rfl) (by exact Nat.le_of_ble_eq_true rfl) (by intro u hu; simp at hu; rcases hu with rfl | rfl <;> rfl) ?_; intro w20 hb20 hg20; rw [put_zdef] at hb20))
        refine bodyPost_ret (results_box2 Tryz.results22 _ _ w.heap.size 24 _ _ (by rfl) hb20 Tryz.underlying24 (by rfl) (by kernel_rfl) _ (by rfl)) (by rfl) ?_
        exact ⟨.slice As ms cs, by rw [HRS.out]; rfl, by rw [HRS.out]; exact ((HST.out _ HD6.out).kept (Kept.of_grown hg20 (fun g e h => by have := Option.some.inj e; have h1 : w.heap.size < g := h; omega))).mono (fun b _ h => Nat.le_of_lt h), Below.grown (HLW.out _ HD6.out) hg20 (HLW.out _ HD6.out).size (fun k hk => by have := Option.some.inj hk; omega)⟩
      | false =>
        have HRS := hide (HQ2.out (by trivial) (fun h => by have h1 := h.2; rw [HGD.out] at h1; cases h1))
        try rw [hB6]
        refine wp_region_L (by kernel_rfl) ?_
        rw [← HW3.out]
        refine wpAnyL_take (i := 0) (d := some 18) (v := .agg #[.string (defQ l).name, (.slice As ms cs)]) rfl rfl (by kernel_rfl) (by kernel_rfl) (by kernel_rfl) (fun _ _ _ h => h) (by rfl) ?yaaeb0 ?_
        case yaaeb0 => (intro w' hw'; exact exec_load_box 24 _ (by rfl) B6 0 (by rfl) 24 _ ((Below.block (HD0.out.trans hw') B6 HBS.out).trans HB6.out) 2 _ Tryz.underlying24 (by rfl) (by kernel_rfl) [.string (defQ l).name, (.slice As ms cs)] (by rfl) (by rfl))
        simp only [Act.put]; try simp only [sA_, sZ_, sS_]
        refine wpAnyL_take (i := 3) (d := some 21) (v := ?vaaeb3) rfl rfl (by kernel_rfl) (by kernel_rfl) (by kernel_rfl) (fun _ _ _ h => h) (by rfl) ?yaaeb3 ?_
        case yaaeb3 => (intro w' hw'; go_simp; try (with_reducible rfl))
        simp only [Act.put]; try simp only [sA_, sZ_, sS_]
        refine wpAnyL_take (i := 4) (d := some 22) (v := .string (str l)) rfl rfl (by kernel_rfl) (by kernel_rfl) (by kernel_rfl) (fun _ _ _ h => h) (by rfl) ?yaaeb4 ?_
        case yaaeb4 => (intro w' hw'; have d1 := run_str w' w'.heap.size A n c l (HIN.out _ (HD0.out.trans hw')); go_simp)
        simp only [Act.put]; try simp only [sA_, sZ_, sS_]
        refine wpAnyL_only (i := 1) rfl (by kernel_rfl) (by rfl) fun K hK => ?_
        go_simp
        refine (rdefb_any (HST.out _ HD0.out) HMS.out HSM.out HLEN.out HR1.out).mono ?_
        rintro e w5 ⟨A5, n5, c5, rfl, _, hh5, _, hl5⟩
        have HH5 := hide hh5
        have HD5 : Hid (Later w3 w5) := HD0.out.trans hl5
        refine hK.out _ _ hl5 ?_
        clear hh5 hl5
        clear hK K
        try (simp only [Act.put]; try simp only [sA_, sZ_, sS_])
        refine wpAnyL_take (i := 2) (d := some 20) (v := .string (str (defB (defQ l)))) rfl rfl (by kernel_rfl) (by kernel_rfl) (by kernel_rfl) (fun _ _ _ h => h) (by rfl) ?yaaeb2 ?_
        case yaaeb2 => (intro w' hw'; have d1 := run_str w' w'.heap.size A5 n5 c5 (defB (defQ l)) (HH5.out.later hw'); go_simp)
        simp only [Act.put]; try simp only [sA_, sZ_, sS_]
        refine wpAnyL_take (i := 5) (d := some 23) (v := .bool false) rfl rfl (by kernel_rfl) (by kernel_rfl) (by kernel_rfl) (fun _ _ _ h => h) (by rfl) ?yaaeb5 ?_
        case yaaeb5 => (intro w' hw'; have e1 := HEQ.out; go_simp; try (with_reducible rfl))
        simp only [Act.put]; try simp only [sA_, sZ_, sS_]
        refine wpAnyL_take (i := 6) (d := some 24) (v := ?vaaeb6) rfl rfl (by kernel_rfl) (by kernel_rfl) (by kernel_rfl) (fun _ _ _ h => h) (by rfl) ?yaaeb6 ?_
        case yaaeb6 => (intro w' hw'; go_simp; try (with_reducible rfl))
        simp only [Act.put]; try simp only [sA_, sZ_, sS_]
        refine wpAnyL_take (i := 7) (d := some 25) (v := .agg #[.string (defQ l).name, (.slice As ms cs)]) rfl rfl (by kernel_rfl) (by kernel_rfl) (by kernel_rfl) (fun _ _ _ h => h) (by rfl) ?yaaeb7 ?_
        case yaaeb7 => (intro w' hw'; exact exec_load_box 24 _ (by rfl) B6 0 (by rfl) 24 _ ((Below.block (HD5.out.trans hw') B6 HBS.out).trans HB6.out) 2 _ Tryz.underlying24 (by rfl) (by kernel_rfl) [.string (defQ l).name, (.slice As ms cs)] (by rfl) (by rfl))
        simp only [Act.put]; try simp only [sA_, sZ_, sS_]
        refine wpAnyL_take (i := 8) (d := some 26) (v := .agg #[.int .i64 0, .int .i64 0, .int .i64 0, .string (defQ l).name, (.slice As ms cs), .int .i64 0, .int .i64 0, .int .i64 0, .bool false, .bool false]) rfl rfl (by kernel_rfl) (by kernel_rfl) (by kernel_rfl) (fun _ _ _ h => h) (by rfl) ?yaaeb8 ?_
        case yaaeb8 => (intro w' hw'; exact exec_build_parts 104 _ (by rfl) _ (by rfl) _ (built_opdef _ _))
        simp only [Act.put]; try simp only [sA_, sZ_, sS_]
        refine wpAnyL_only (i := 9) rfl (by kernel_rfl) (by rfl) fun K hK => ?_
        go_simp
        have CG := (show Calls Tryz.prog 51 _ _ _ from rgoodop_any (x := { OpD.zero with name := (defQ l).name, steps := (defQ l).steps }) (HST.out _ HD5.out) HMS.out)
        rw [defG_opz] at CG
        rw [HGD.out] at CG
        refine CG.mono ?_
        rintro e w6 ⟨rfl, hl6⟩
        have HD6 : Hid (Later w3 w6) := HD5.out.trans hl6
        refine hK.out _ _ hl6 ?_
        clear hl6 CG
        clear hK K
        try (simp only [Act.put]; try simp only [sA_, sZ_, sS_])
        refine wpAnyL_take (i := 10) (d := some 28) (v := ?vaaeb10) rfl rfl (by kernel_rfl) (by kernel_rfl) (by kernel_rfl) (fun _ _ _ h => h) (by rfl) ?yaaeb10 ?_
        case yaaeb10 => (intro w' hw'; go_simp; try (with_reducible rfl))
        simp only [Act.put]; try simp only [sA_, sZ_, sS_]
        refine wpAnyL_take (i := 11) (d := some 29) (v := ?vaaeb11) rfl rfl (by kernel_rfl) (by kernel_rfl) (by kernel_rfl) (fun _ _ _ h => h) (by rfl) ?yaaeb11 ?_
        case yaaeb11 => (intro w' hw'; go_simp; try (with_reducible rfl))
        simp only [Act.put]; try simp only [sA_, sZ_, sS_]
        refine wpAnyL_done (by kernel_rfl) ?_ _
        have HZ6 := hide (HZ.out _ HD6.out)
        have HLX := hide (HLW.out _ HD6.out)
        go_wp2_with (first | (refine wpList_build_parts (by rfl) 24 _ (by rfl) _ (by rfl) _ built_def0 ?_) | (refine wpList_store_box (by rfl) 24 _ _ (by rfl) w.heap.size 0 zdef (by rfl) (by rfl) 24 zdef HZ6.out (by kernel_rfl) (by exact Nat.le_of_ble_eq_true rfl) (by intro u hu; simp [zdef] at hu; rcases hu with rfl | rfl <;> rfl) ?_; intro w20 hb20 hg20; rw [show putAt zdef 0 zdef.toList = zdef from by simp [zdef, putAt]] at hb20))
        refine bodyPost_ret (results_box2 Tryz.results22 _ _ w.heap.size 24 _ _ (by rfl) hb20 Tryz.underlying24 (by rfl) (by kernel_rfl) _ (by rfl)) (by rfl) ?_
        exact ⟨.slice none 0 0, by rw [HRS.out]; rfl, by rw [HRS.out]; exact StepsAt.nil_ _ _, Below.grown HLX.out hg20 HLX.out.size (fun k hk => by have := Option.some.inj hk; omega)⟩
    · have HEQ : Hid (((str (defB (defQ l))).toList == (str l).toList) = false) := str_bne (defB_small ((defQ_sm HS.out).mono (show l.length ≤ 5000 by omega)) (Nat.le_refl _)) HS.out heq
      have HRS := hide (HQ2.out (by trivial) (fun h => heq h.1))
      clear heq
      try rw [hB6]
      refine wp_region_L (by kernel_rfl) ?_
      rw [← HW3.out]
      refine wpAnyL_take (i := 0) (d := some 18) (v := .agg #[.string (defQ l).name, (.slice As ms cs)]) rfl rfl (by kernel_rfl) (by kernel_rfl) (by kernel_rfl) (fun _ _ _ h => h) (by rfl) ?yaanb0 ?_
      case yaanb0 => (intro w' hw'; exact exec_load_box 24 _ (by rfl) B6 0 (by rfl) 24 _ ((Below.block (HD0.out.trans hw') B6 HBS.out).trans HB6.out) 2 _ Tryz.underlying24 (by rfl) (by kernel_rfl) [.string (defQ l).name, (.slice As ms cs)] (by rfl) (by rfl))
      simp only [Act.put]; try simp only [sA_, sZ_, sS_]
      refine wpAnyL_take (i := 3) (d := some 21) (v := ?vaanb3) rfl rfl (by kernel_rfl) (by kernel_rfl) (by kernel_rfl) (fun _ _ _ h => h) (by rfl) ?yaanb3 ?_
      case yaanb3 => (intro w' hw'; go_simp; try (with_reducible rfl))
      simp only [Act.put]; try simp only [sA_, sZ_, sS_]
      refine wpAnyL_take (i := 4) (d := some 22) (v := .string (str l)) rfl rfl (by kernel_rfl) (by kernel_rfl) (by kernel_rfl) (fun _ _ _ h => h) (by rfl) ?yaanb4 ?_
      case yaanb4 => (intro w' hw'; have d1 := run_str w' w'.heap.size A n c l (HIN.out _ (HD0.out.trans hw')); go_simp)
      simp only [Act.put]; try simp only [sA_, sZ_, sS_]
      refine wpAnyL_only (i := 1) rfl (by kernel_rfl) (by rfl) fun K hK => ?_
      go_simp
      refine (rdefb_any (HST.out _ HD0.out) HMS.out HSM.out HLEN.out HR1.out).mono ?_
      rintro e w5 ⟨A5, n5, c5, rfl, _, hh5, _, hl5⟩
      have HH5 := hide hh5
      have HD5 : Hid (Later w3 w5) := HD0.out.trans hl5
      refine hK.out _ _ hl5 ?_
      clear hh5 hl5
      clear hK K
      try (simp only [Act.put]; try simp only [sA_, sZ_, sS_])
      refine wpAnyL_take (i := 2) (d := some 20) (v := .string (str (defB (defQ l)))) rfl rfl (by kernel_rfl) (by kernel_rfl) (by kernel_rfl) (fun _ _ _ h => h) (by rfl) ?yaanb2 ?_
      case yaanb2 => (intro w' hw'; have d1 := run_str w' w'.heap.size A5 n5 c5 (defB (defQ l)) (HH5.out.later hw'); go_simp)
      simp only [Act.put]; try simp only [sA_, sZ_, sS_]
      refine wpAnyL_take (i := 5) (d := some 23) (v := .bool true) rfl rfl (by kernel_rfl) (by kernel_rfl) (by kernel_rfl) (fun _ _ _ h => h) (by rfl) ?yaanb5 ?_
      case yaanb5 => (intro w' hw'; have e1 := HEQ.out; go_simp; try (with_reducible rfl))
      simp only [Act.put]; try simp only [sA_, sZ_, sS_]
      refine wpAnyL_take (i := 6) (d := some 24) (v := ?vaanb6) rfl rfl (by kernel_rfl) (by kernel_rfl) (by kernel_rfl) (fun _ _ _ h => h) (by rfl) ?yaanb6 ?_
      case yaanb6 => (intro w' hw'; go_simp; try (with_reducible rfl))
      simp only [Act.put]; try simp only [sA_, sZ_, sS_]
      refine wpAnyL_pass (i := 7) (d := some 25) rfl rfl (by kernel_rfl) (by kernel_rfl) (by kernel_rfl) (fun _ _ _ h => h) (by rfl) ?_
      try (simp only [Act.put]; try simp only [sA_, sZ_, sS_])
      refine wpAnyL_pass (i := 8) (d := some 26) rfl rfl (by kernel_rfl) (by kernel_rfl) (by kernel_rfl) (fun _ _ _ h => h) (by rfl) ?_
      try (simp only [Act.put]; try simp only [sA_, sZ_, sS_])
      refine wpAnyL_pass (i := 9) (d := some 27) rfl rfl (by kernel_rfl) (by kernel_rfl) (by kernel_rfl) (fun _ _ _ h => h) (by rfl) ?_
      try (simp only [Act.put]; try simp only [sA_, sZ_, sS_])
      refine wpAnyL_pass (i := 10) (d := some 28) rfl rfl (by kernel_rfl) (by kernel_rfl) (by kernel_rfl) (fun _ _ _ h => h) (by rfl) ?_
      try (simp only [Act.put]; try simp only [sA_, sZ_, sS_])
      refine wpAnyL_take (i := 11) (d := some 29) (v := ?vaanb11) rfl rfl (by kernel_rfl) (by kernel_rfl) (by kernel_rfl) (fun _ _ _ h => h) (by rfl) ?yaanb11 ?_
      case yaanb11 => (intro w' hw'; go_simp; try (with_reducible rfl))
      simp only [Act.put]; try simp only [sA_, sZ_, sS_]
      refine wpAnyL_done (by kernel_rfl) ?_ _
      have HZ6 := hide (HZ.out _ HD5.out)
      have HLX := hide (HLW.out _ HD5.out)
      go_wp2_with (first | (refine wpList_build_parts (by rfl) 24 _ (by rfl) _ (by rfl) _ built_def0 ?_) | (refine wpList_store_box (by rfl) 24 _ _ (by rfl) w.heap.size 0 zdef (by rfl) (by rfl) 24 zdef HZ6.out (by kernel_rfl) (by exact Nat.le_of_ble_eq_true rfl) (by intro u hu; simp [zdef] at hu; rcases hu with rfl | rfl <;> rfl) ?_; intro w20 hb20 hg20; rw [show putAt zdef 0 zdef.toList = zdef from by simp [zdef, putAt]] at hb20))
      refine bodyPost_ret (results_box2 Tryz.results22 _ _ w.heap.size 24 _ _ (by rfl) hb20 Tryz.underlying24 (by rfl) (by kernel_rfl) _ (by rfl)) (by rfl) ?_
      exact ⟨.slice none 0 0, by rw [HRS.out]; rfl, by rw [HRS.out]; exact StepsAt.nil_ _ _, Below.grown HLX.out hg20 HLX.out.size (fun k hk => by have := Option.some.inj hk; omega)⟩
  · have HRS := hide (HQ1.out he)
    have hne : ((er : Int) != 0) = true := by simp; omega
    have HZ6 : Hid (w1.heap[w.heap.size]? = some (.cells zdef 24 (0, 0))) := (Below.block HL1.out w.heap.size HSZ.out).trans HZ0.out
    have HLX : Hid (Later w w1) := Later.trans HB0.out HL1.out
    clear he
    go_wp2_with (first | (refine wpList_build_parts (by rfl) 24 _ (by rfl) _ (by rfl) _ built_def0 ?_) | (refine wpList_store_box (by rfl) 24 _ _ (by rfl) w.heap.size 0 zdef (by rfl) (by rfl) 24 zdef HZ6.out (by kernel_rfl) (by exact Nat.le_of_ble_eq_true rfl) (by intro u hu; simp [zdef] at hu; rcases hu with rfl | rfl <;> rfl) ?_; intro w20 hb20 hg20; rw [show putAt zdef 0 zdef.toList = zdef from by simp [zdef, putAt]] at hb20))
    refine bodyPost_ret (results_box2 Tryz.results22 _ _ w.heap.size 24 _ _ (by rfl) hb20 Tryz.underlying24 (by rfl) (by kernel_rfl) _ (by rfl)) (by rfl) ?_
    exact ⟨.slice none 0 0, by rw [HRS.out]; rfl, by rw [HRS.out]; exact StepsAt.nil_ _ _, Below.grown HLX.out hg20 HLX.out.size (fun k hk => by have := Option.some.inj hk; omega)⟩

end Go.Proofs.YtdkiopajilakcaaGreatDoor
/- Two operations of a region that may both come up next, both of which leave a world of the relation. -/
namespace Go.Proofs.YtdkiopajilakcaaGreatDoor
open Go.RowKit

section
variable {P : Program} {ops : Array Oper} {Q : Exit → Act → World → Prop} {md : Region.Mode} {S : Nat → Bool} {R : World → World → Prop}
theorem wpAnyV_two {i j : Nat} {oi oj : Oper} {fuel : Nat} {listed : Array Bool} {a : Act} {w : World} (hoi : ops[i]? = some oi) (hoj : ops[j]? = some oj) (hr : Region.ready md ops listed = [i, j])
    (hwi : Region.wanted oi (yielded ops a.tmps) = true) (hwj : Region.wanted oj (yielded ops a.tmps) = true)
    (hi : ∀ K' : Act → World → Prop, Hid (∀ a' w', R w w' → wpAnyV R S P md ops Q fuel (listed.setIfInBounds i true) a' w' → K' a' w') → Oper.wp P oi a w K' Q)
    (hj : ∀ K' : Act → World → Prop, Hid (∀ a' w', R w w' → wpAnyV R S P md ops Q fuel (listed.setIfInBounds j true) a' w' → K' a' w') → Oper.wp P oj a w K' Q) : wpAnyV R S P md ops Q (fuel + 1) listed a w := by
  refine ⟨fun h0 => absurd (hr ▸ h0) (by simp), fun k hk => ?_⟩
  rw [hr] at hk
  rcases List.mem_cons.1 hk with rfl | hk
  · refine wpOp_step hoi fun K' hK => ?_
    rw [if_pos hwi]
    exact hi K' fun a' w' hl hn => hK a' w' ⟨fun _ => hl, hn⟩
  · obtain rfl : k = j := by simpa using hk
    refine wpOp_step hoj fun K' hK => ?_
    rw [if_pos hwj]
    exact hj K' fun a' w' hl hn => hK a' w' ⟨fun _ => hl, hn⟩
end
end Go.Proofs.YtdkiopajilakcaaGreatDoor
