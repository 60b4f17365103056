/- The walk over droverlaw08.ViewMeets: any two sets that are enough have a node in common. -/
import Derived.Test.YtnmkndnaomgmhaaVotM
namespace Go.Proofs.Ytnmkndnaomgmhaa
open Go.RowKit

theorem bits_new : ∀ j : Nat, j < 5 → ∀ V : Nat, V < 2 ^ j → V.testBit j = false ∧ (V ||| 2 ^ j).testBit j = true ∧ V ||| 2 ^ j < 2 ^ (j + 1) ∧ V < 2 ^ (j + 1) := by decide +kernel
theorem meet_step : ∀ j : Nat, j < 5 → ∀ V : Nat, V < 2 ^ j → ∀ U : Nat, U < 2 ^ j →
    ((V ||| 2 ^ j) &&& (U ||| 2 ^ j) != 0) = true ∧ ((V ||| 2 ^ j) &&& U != 0) = (V &&& U != 0) ∧ (V &&& (U ||| 2 ^ j) != 0) = (V &&& U != 0) := by decide +kernel
theorem meet_all : ∀ q : Nat, q < 4 → ∀ V : Nat, V < 2 ^ (2 + q) → ∀ U : Nat, U < 2 ^ (2 + q) → quorI (2 + (q : Int)) ≤ (cntV V : Int) → quorI (2 + (q : Int)) ≤ (cntV U : Int) → (V &&& U != 0) = true := by decide +kernel
theorem spare : ∀ q : Nat, q < 4 → decide (quorI (2 + (q : Int)) ≤ 2 + (q : Int) - faulI (2 + (q : Int))) = true := by decide +kernel
theorem pow_lt32 : ∀ j : Nat, j < 6 → ∀ V : Nat, V < 2 ^ j → V < 32 := by decide +kernel
/-- Where the loop of ViewMeets stands: the first j nodes were asked. -/
structure Meet (w0 w : World) (x y : Nat) (n : Int) (j V U : Nat) (c : Value) : Prop where
  xs : VAt w (.pointer (some ⟨x, 0, none⟩)) n V
  ys : VAt w (.pointer (some ⟨y, 0, none⟩)) n U
  lx : V < 2 ^ j
  ly : U < 2 ^ j
  com : c = .bool (V &&& U != 0)
  ne : x ≠ y
  ox : w0.heap.size ≤ x
  oy : w0.heap.size ≤ y
  bel : Below w0.heap.size w0 w
theorem vat_other {w w' : World} {g h : Nat} {n : Int} {V : Nat} (hv : VAt w (.pointer (some ⟨g, 0, none⟩)) n V) (hg : w.grownBy w' (some h)) (hne : g ≠ h) : VAt w' (.pointer (some ⟨g, 0, none⟩)) n V :=
  hv.kept (hg.block g (lt_of_block hv.block) (fun e => hne (Option.some.inj e)))
theorem addB_new {n : Int} {j V : Nat} (hn : okNode ((j : Int) + 1) n = true) (hb : V.testBit j = false) : addB n V ((j : Int) + 1) = true ∧ addV n V ((j : Int) + 1) = V ||| 2 ^ j := by
  have e : ((j : Int) + 1).toNat - 1 = j := by omega
  constructor
  · rw [addB, hasB, hn, e, hb]
    rfl
  · rw [addV, if_pos hn, e]
theorem has_new {n : Int} {j V : Nat} (hn : okNode ((j : Int) + 1) n = true) : hasB n V ((j : Int) + 1) = V.testBit j := by
  have e : ((j : Int) + 1).toNat - 1 = j := by omega
  rw [hasB, hn, e, Bool.true_and]

set_option maxHeartbeats 8000000 in
theorem law_meets (n a b : Nat) (w : World) (hn : n < 18446744073709551616) (ha : a < 18446744073709551616) (hb : b < 18446744073709551616) : Calls Try.prog 6 #[.int .u64 n, .int .u64 a, .int .u64 b] w fun e w' => e = .returned (.bool true) ∧ Below w.heap.size w w' := by
  have LV := hide lives_any
  obtain ⟨q, hq⟩ : ∃ q, q = n % 4 := ⟨_, rfl⟩
  have e1 : (n : Int) % 4 = (q : Int) := by omega
  have hq4 : q < 4 := by omega
  have hok : okN (2 + (q : Int)) = true := okN_iff.2 ⟨by omega, by omega⟩
  have CQ := hide (quorum_any (2 + (q : Int)))
  have CF := hide (faults_any (2 + (q : Int)))
  have SP := hide (spare q hq4)
  obtain ⟨yq, hyq⟩ : ∃ y, y = quorI (2 + (q : Int)) := ⟨_, rfl⟩
  obtain ⟨yf, hyf⟩ : ∃ y, y = faulI (2 + (q : Int)) := ⟨_, rfl⟩
  have BQ : Hid (0 ≤ yq ∧ yq ≤ 5 ∧ 0 ≤ yf ∧ yf ≤ 5) := by
    rw [hyq, hyf]
    exact (show ∀ q : Nat, q < 4 → 0 ≤ quorI (2 + (q : Int)) ∧ quorI (2 + (q : Int)) ≤ 5 ∧ 0 ≤ faulI (2 + (q : Int)) ∧ faulI (2 + (q : Int)) ≤ 5 by decide +kernel) q hq4
  have MA := hide (meet_all q hq4)
  rw [← hyq] at CQ SP MA
  rw [← hyf] at CF SP
  have HYQ := hide hyq
  have HOK := hide hok
  have C1 := hide (fun w => new_yes (n := 2 + (q : Int)) w hok)
  clear hq hok hyq hyf
  go_enter Try.func6, Try.ntmps6
  go_wp2_with (fail)
  simp only [e1]
  refine (C1.out _).mono ?_
  rintro e w1 ⟨rfl, hw1⟩
  have HW1 := hide hw1
  clear hw1
  go_wp2_with (fail)
  refine (C1.out _).mono ?_
  rintro e w2 ⟨rfl, hw2⟩
  have hw1 := HW1.out
  obtain ⟨x, hx⟩ : ∃ x, x = w.heap.size := ⟨_, rfl⟩
  obtain ⟨y, hy⟩ : ∃ y, y = w1.heap.size := ⟨_, rfl⟩
  have M0 : Hid (Meet w w2 x y (2 + (q : Int)) 0 0 0 (.bool false)) := by
    have s1 : w1.heap.size = w.heap.size + 1 := by rw [hw1]; simp
    have b1 : Below w.heap.size w w1 := by rw [hw1]; exact (Below.refl _ _).alloc (Nat.le_refl _) _
    have b2 : Below w1.heap.size w1 w2 := by rw [hw2]; exact (Below.refl _ _).alloc (Nat.le_refl _) _
    have v1 : VAt w1 (.pointer (some ⟨w.heap.size, 0, none⟩)) (2 + (q : Int)) 0 := by rw [hw1]; exact vat_new _ _
    have v2 : VAt w2 (.pointer (some ⟨w1.heap.size, 0, none⟩)) (2 + (q : Int)) 0 := by rw [hw2]; exact vat_new _ _
    rw [hx, hy]
    exact ⟨v1.kept (b2.block _ (by omega)), v2, by decide, by decide, rfl, by omega, by omega, by omega, b1.trans (b2.mono (by omega))⟩
  rw [← hx, ← hy]
  clear hw1 hw2 hx hy HW1
  go_wp2
  go_loopw [10, 11] (fun c i wr => ∃ j V U : Nat, i = .int .i64 ((j : Int) + 1) ∧ j ≤ 2 + q ∧ Meet w wr x y (2 + (q : Int)) j V U c) (fun _ i _ => 3 + q - (Go.RowKit.intOf i).toNat)
  case atStart => exact ⟨0, 0, 0, by go_num, by omega, M0.out⟩
  case round =>
    obtain ⟨j, V, U, rfl, hj, hm⟩ := hrel
    obtain rfl := hm.com
    have HM := hide hm
    clear hm
    by_cases hjq : j < 2 + q
    · have hnode : okNode ((j : Int) + 1) (2 + (q : Int)) = true := okNode_iff.2 ⟨by omega, by omega, by omega⟩
      have HN := hide hnode
      have NV := hide (bits_new j (by omega) V HM.out.lx)
      have NU := hide (bits_new j (by omega) U HM.out.ly)
      have MS := hide (meet_step j (by omega) V HM.out.lx U HM.out.ly)
      obtain ⟨A, hA⟩ : ∃ A, A = a / 2 ^ (j + 1) := ⟨_, rfl⟩
      obtain ⟨B, hB⟩ : ∃ B, B = b / 2 ^ (j + 1) := ⟨_, rfl⟩
      have lA : A < 18446744073709551616 := by rw [hA]; exact Nat.lt_of_le_of_lt (Nat.div_le_self _ _) ha
      have lB : B < 18446744073709551616 := by rw [hB]; exact Nat.lt_of_le_of_lt (Nat.div_le_self _ _) hb
      have fA : (a : Int) / 2 ^ (j + 1) = (A : Int) := by rw [hA]; simp [Int.natCast_ediv]
      have fB : (b : Int) / 2 ^ (j + 1) = (B : Int) := by rw [hB]; simp [Int.natCast_ediv]
      have gA : bits .and .u64 (A : Int) 1 = ((A % 2 : Nat) : Int) := by
        have := u64_and_nat A 1 lA (by omega)
        rw [Nat.and_one_is_mod] at this
        exact this
      have gB : bits .and .u64 (B : Int) 1 = ((B % 2 : Nat) : Int) := by
        have := u64_and_nat B 1 lB (by omega)
        rw [Nat.and_one_is_mod] at this
        exact this
      obtain ⟨r, hr⟩ : ∃ r, r = A % 2 := ⟨_, rfl⟩
      obtain ⟨s, hs⟩ : ∃ s, s = B % 2 := ⟨_, rfl⟩
      rw [← hr] at gA
      rw [← hs] at gB
      clear hA hB lA lB hr hs hnode
      have hj5 : j < 5 := by omega
      by_cases hrr : r = 1
      · by_cases hss : s = 1
        · by_cases hcc : (V &&& U != 0) = true
          · have hc : (V &&& U != 0) = true := by simpa using hcc
            have hr1 : ((r : Int) == 1) = true := by simp; omega
            have hs1 : ((s : Int) == 1) = true := by simp; omega
            rw [hc]
            clear hcc hrr hss
            go_wp2_with (fail)
            refine (add_yes HM.out.xs (pow_lt32 j (by omega) V HM.out.lx) (addB_new HN.out NV.out.1).1).mono ?_
            rw [(addB_new HN.out NV.out.1).2]
            rintro e w3 ⟨rfl, hv3, hg3⟩
            have XS := hide hv3
            have YS := hide (vat_other HM.out.ys hg3 HM.out.ne.symm)
            have BW := hide (HM.out.bel.grown hg3 HM.out.bel.size (fun k hk => by have := Option.some.inj hk; have := HM.out.ox; omega))
            clear hv3 hg3
            go_wp2_with (fail)
            refine (add_yes YS.out (pow_lt32 j (by omega) U HM.out.ly) (addB_new HN.out NU.out.1).1).mono ?_
            rw [(addB_new HN.out NU.out.1).2]
            rintro e w4 ⟨rfl, hv4, hg4⟩
            have YS2 := hide hv4
            have XS2 := hide (vat_other XS.out hg4 HM.out.ne)
            have BW2 := hide (BW.out.grown hg4 BW.out.size (fun k hk => by have := Option.some.inj hk; have := HM.out.oy; omega))
            clear hv4 hg4
            go_wp2
            go_roundw
            case rel => exact ⟨j + 1, (V ||| 2 ^ j), (U ||| 2 ^ j), by go_num, by omega, ⟨XS2.out, YS2.out, NV.out.2.2.1, NU.out.2.2.1, by rw [MS.out.1], HM.out.ne, HM.out.ox, HM.out.oy, BW2.out⟩⟩
            case measure => simp [Go.RowKit.intOf]; omega
          · have hc : (V &&& U != 0) = false := by simpa using hcc
            have hr1 : ((r : Int) == 1) = true := by simp; omega
            have hs1 : ((s : Int) == 1) = true := by simp; omega
            rw [hc]
            clear hcc hrr hss
            go_wp2_with (fail)
            refine (add_yes HM.out.xs (pow_lt32 j (by omega) V HM.out.lx) (addB_new HN.out NV.out.1).1).mono ?_
            rw [(addB_new HN.out NV.out.1).2]
            rintro e w3 ⟨rfl, hv3, hg3⟩
            have XS := hide hv3
            have YS := hide (vat_other HM.out.ys hg3 HM.out.ne.symm)
            have BW := hide (HM.out.bel.grown hg3 HM.out.bel.size (fun k hk => by have := Option.some.inj hk; have := HM.out.ox; omega))
            clear hv3 hg3
            go_wp2_with (fail)
            refine (add_yes YS.out (pow_lt32 j (by omega) U HM.out.ly) (addB_new HN.out NU.out.1).1).mono ?_
            rw [(addB_new HN.out NU.out.1).2]
            rintro e w4 ⟨rfl, hv4, hg4⟩
            have YS2 := hide hv4
            have XS2 := hide (vat_other XS.out hg4 HM.out.ne)
            have BW2 := hide (BW.out.grown hg4 BW.out.size (fun k hk => by have := Option.some.inj hk; have := HM.out.oy; omega))
            clear hv4 hg4
            go_wp2_with (fail)
            refine (has_any XS2.out (pow_lt32 (j + 1) (by omega) _ NV.out.2.2.1) ((j : Int) + 1)).mono ?_
            rw [has_new HN.out, NV.out.2.1]
            rintro e w5 ⟨rfl, q5, rfl⟩
            go_wp2_with (fail)
            refine (has_any (YS2.out.drewN _) (pow_lt32 (j + 1) (by omega) _ NU.out.2.2.1) ((j : Int) + 1)).mono ?_
            rw [has_new HN.out, NU.out.2.1]
            rintro e w6 ⟨rfl, q6, rfl⟩
            go_wp2
            go_roundw
            case rel => exact ⟨j + 1, (V ||| 2 ^ j), (U ||| 2 ^ j), by go_num, by omega, ⟨XS2.out.kept rfl, YS2.out.kept rfl, NV.out.2.2.1, NU.out.2.2.1, by rw [MS.out.1], HM.out.ne, HM.out.ox, HM.out.oy, (BW2.out.trans (below_drewN _ _ _))⟩⟩
            case measure => simp [Go.RowKit.intOf]; omega
        · by_cases hcc : (V &&& U != 0) = true
          · have hc : (V &&& U != 0) = true := by simpa using hcc
            have hr1 : ((r : Int) == 1) = true := by simp; omega
            have hs1 : ((s : Int) == 1) = false := by simp; omega
            rw [hc]
            clear hcc hrr hss
            go_wp2_with (fail)
            refine (add_yes HM.out.xs (pow_lt32 j (by omega) V HM.out.lx) (addB_new HN.out NV.out.1).1).mono ?_
            rw [(addB_new HN.out NV.out.1).2]
            rintro e w3 ⟨rfl, hv3, hg3⟩
            have XS := hide hv3
            have YS := hide (vat_other HM.out.ys hg3 HM.out.ne.symm)
            have BW := hide (HM.out.bel.grown hg3 HM.out.bel.size (fun k hk => by have := Option.some.inj hk; have := HM.out.ox; omega))
            clear hv3 hg3
            go_wp2_with (fail)
            have XS2 := hide XS.out
            have YS2 := hide YS.out
            have BW2 := hide BW.out
            go_wp2
            go_roundw
            case rel => exact ⟨j + 1, (V ||| 2 ^ j), U, by go_num, by omega, ⟨XS2.out, YS2.out, NV.out.2.2.1, NU.out.2.2.2, by rw [MS.out.2.1.trans hc], HM.out.ne, HM.out.ox, HM.out.oy, BW2.out⟩⟩
            case measure => simp [Go.RowKit.intOf]; omega
          · have hc : (V &&& U != 0) = false := by simpa using hcc
            have hr1 : ((r : Int) == 1) = true := by simp; omega
            have hs1 : ((s : Int) == 1) = false := by simp; omega
            rw [hc]
            clear hcc hrr hss
            go_wp2_with (fail)
            refine (add_yes HM.out.xs (pow_lt32 j (by omega) V HM.out.lx) (addB_new HN.out NV.out.1).1).mono ?_
            rw [(addB_new HN.out NV.out.1).2]
            rintro e w3 ⟨rfl, hv3, hg3⟩
            have XS := hide hv3
            have YS := hide (vat_other HM.out.ys hg3 HM.out.ne.symm)
            have BW := hide (HM.out.bel.grown hg3 HM.out.bel.size (fun k hk => by have := Option.some.inj hk; have := HM.out.ox; omega))
            clear hv3 hg3
            go_wp2_with (fail)
            have XS2 := hide XS.out
            have YS2 := hide YS.out
            have BW2 := hide BW.out
            refine (has_any XS2.out (pow_lt32 (j + 1) (by omega) _ NV.out.2.2.1) ((j : Int) + 1)).mono ?_
            rw [has_new HN.out, NV.out.2.1]
            rintro e w5 ⟨rfl, q5, rfl⟩
            go_wp2_with (fail)
            refine (has_any (YS2.out.drewN _) (pow_lt32 (j + 1) (by omega) _ NU.out.2.2.2) ((j : Int) + 1)).mono ?_
            rw [has_new HN.out, NU.out.1]
            rintro e w6 ⟨rfl, q6, rfl⟩
            go_wp2
            go_roundw
            case rel => exact ⟨j + 1, (V ||| 2 ^ j), U, by go_num, by omega, ⟨XS2.out.kept rfl, YS2.out.kept rfl, NV.out.2.2.1, NU.out.2.2.2, by rw [MS.out.2.1.trans hc], HM.out.ne, HM.out.ox, HM.out.oy, (BW2.out.trans (below_drewN _ _ _))⟩⟩
            case measure => simp [Go.RowKit.intOf]; omega
      · by_cases hss : s = 1
        · by_cases hcc : (V &&& U != 0) = true
          · have hc : (V &&& U != 0) = true := by simpa using hcc
            have hr1 : ((r : Int) == 1) = false := by simp; omega
            have hs1 : ((s : Int) == 1) = true := by simp; omega
            rw [hc]
            clear hcc hrr hss
            go_wp2_with (fail)
            have XS := hide HM.out.xs
            have YS := hide HM.out.ys
            have BW := hide HM.out.bel
            refine (add_yes YS.out (pow_lt32 j (by omega) U HM.out.ly) (addB_new HN.out NU.out.1).1).mono ?_
            rw [(addB_new HN.out NU.out.1).2]
            rintro e w4 ⟨rfl, hv4, hg4⟩
            have YS2 := hide hv4
            have XS2 := hide (vat_other XS.out hg4 HM.out.ne)
            have BW2 := hide (BW.out.grown hg4 BW.out.size (fun k hk => by have := Option.some.inj hk; have := HM.out.oy; omega))
            clear hv4 hg4
            go_wp2
            go_roundw
            case rel => exact ⟨j + 1, V, (U ||| 2 ^ j), by go_num, by omega, ⟨XS2.out, YS2.out, NV.out.2.2.2, NU.out.2.2.1, by rw [MS.out.2.2.trans hc], HM.out.ne, HM.out.ox, HM.out.oy, BW2.out⟩⟩
            case measure => simp [Go.RowKit.intOf]; omega
          · have hc : (V &&& U != 0) = false := by simpa using hcc
            have hr1 : ((r : Int) == 1) = false := by simp; omega
            have hs1 : ((s : Int) == 1) = true := by simp; omega
            rw [hc]
            clear hcc hrr hss
            go_wp2_with (fail)
            have XS := hide HM.out.xs
            have YS := hide HM.out.ys
            have BW := hide HM.out.bel
            refine (add_yes YS.out (pow_lt32 j (by omega) U HM.out.ly) (addB_new HN.out NU.out.1).1).mono ?_
            rw [(addB_new HN.out NU.out.1).2]
            rintro e w4 ⟨rfl, hv4, hg4⟩
            have YS2 := hide hv4
            have XS2 := hide (vat_other XS.out hg4 HM.out.ne)
            have BW2 := hide (BW.out.grown hg4 BW.out.size (fun k hk => by have := Option.some.inj hk; have := HM.out.oy; omega))
            clear hv4 hg4
            go_wp2_with (fail)
            refine (has_any XS2.out (pow_lt32 (j + 1) (by omega) _ NV.out.2.2.2) ((j : Int) + 1)).mono ?_
            rw [has_new HN.out, NV.out.1]
            rintro e w5 ⟨rfl, q5, rfl⟩
            go_wp2
            go_roundw
            case rel => exact ⟨j + 1, V, (U ||| 2 ^ j), by go_num, by omega, ⟨XS2.out.kept rfl, YS2.out.kept rfl, NV.out.2.2.2, NU.out.2.2.1, by rw [MS.out.2.2.trans hc], HM.out.ne, HM.out.ox, HM.out.oy, (BW2.out.trans (below_drewN _ _ _))⟩⟩
            case measure => simp [Go.RowKit.intOf]; omega
        · by_cases hcc : (V &&& U != 0) = true
          · have hc : (V &&& U != 0) = true := by simpa using hcc
            have hr1 : ((r : Int) == 1) = false := by simp; omega
            have hs1 : ((s : Int) == 1) = false := by simp; omega
            rw [hc]
            clear hcc hrr hss
            go_wp2_with (fail)
            have XS := hide HM.out.xs
            have YS := hide HM.out.ys
            have BW := hide HM.out.bel
            have XS2 := hide XS.out
            have YS2 := hide YS.out
            have BW2 := hide BW.out
            go_wp2
            go_roundw
            case rel => exact ⟨j + 1, V, U, by go_num, by omega, ⟨XS2.out, YS2.out, NV.out.2.2.2, NU.out.2.2.2, by rw [hc], HM.out.ne, HM.out.ox, HM.out.oy, BW2.out⟩⟩
            case measure => simp [Go.RowKit.intOf]; omega
          · have hc : (V &&& U != 0) = false := by simpa using hcc
            have hr1 : ((r : Int) == 1) = false := by simp; omega
            have hs1 : ((s : Int) == 1) = false := by simp; omega
            rw [hc]
            clear hcc hrr hss
            go_wp2_with (fail)
            have XS := hide HM.out.xs
            have YS := hide HM.out.ys
            have BW := hide HM.out.bel
            have XS2 := hide XS.out
            have YS2 := hide YS.out
            have BW2 := hide BW.out
            refine (has_any XS2.out (pow_lt32 (j + 1) (by omega) _ NV.out.2.2.2) ((j : Int) + 1)).mono ?_
            rw [has_new HN.out, NV.out.1]
            rintro e w5 ⟨rfl, q5, rfl⟩
            go_wp2
            go_roundw
            case rel => exact ⟨j + 1, V, U, by go_num, by omega, ⟨XS2.out.kept rfl, YS2.out.kept rfl, NV.out.2.2.2, NU.out.2.2.2, by rw [hc], HM.out.ne, HM.out.ox, HM.out.oy, (BW2.out.trans (below_drewN _ _ _))⟩⟩
            case measure => simp [Go.RowKit.intOf]; omega
    · obtain rfl : j = 2 + q := by omega
      have EV : Hid (enB (2 + (q : Int)) V = decide (yq ≤ (cntV V : Int))) := by show _ = _; rw [enB, HOK.out, HYQ.out, Bool.true_and]
      have EU : Hid (enB (2 + (q : Int)) U = decide (yq ≤ (cntV U : Int))) := by show _ = _; rw [enB, HOK.out, HYQ.out, Bool.true_and]
      have CN : Hid (cntN (2 + (q : Int)) V = cntV V) := by show _ = _; rw [cntN, if_pos HOK.out]
      have l1 : V < 32 := pow_lt32 (2 + q) (by omega) V HM.out.lx
      have l2 : U < 32 := pow_lt32 (2 + q) (by omega) U HM.out.ly
      have MA2 := hide (MA.out V HM.out.lx U HM.out.ly)
      have XS := hide HM.out.xs
      have YS := hide HM.out.ys
      have BW := hide HM.out.bel
      obtain ⟨cv, hcv⟩ : ∃ c, c = cntV V := ⟨_, rfl⟩
      obtain ⟨cu, hcu⟩ : ∃ c, c = cntV U := ⟨_, rfl⟩
      rw [← hcv] at EV CN MA2
      rw [← hcu] at EU MA2
      obtain ⟨m, hm⟩ : ∃ m, m = (V &&& U != 0) := ⟨_, rfl⟩
      rw [← hm] at MA2 ⊢
      have BQ2 := BQ.out
      clear HM hcv hcu hm MA
      have sp := SP.out
      by_cases hv : yq ≤ (cv : Int)
      · have dv : decide (yq ≤ (cv : Int)) = true := by simpa using hv
        by_cases hu : yq ≤ (cu : Int)
        · have du : decide (yq ≤ (cu : Int)) = true := by simpa using hu
          have hm1 : m = true := MA2.out hv hu
          subst hm1
          clear hv hu
          go_wp2_with (fail)
          refine (enough_any XS.out l1).mono ?_
          rw [EV.out, dv]
          rintro e w3 ⟨rfl, q3, rfl⟩
          go_wp2_with (fail)
          refine (enough_any (YS.out.drewN _) l2).mono ?_
          rw [EU.out, du]
          rintro e w4 ⟨rfl, q4, rfl⟩
          go_wp2_with (fail)
          refine (CF.out _).mono ?_
          rintro e w5 ⟨rfl, hq5⟩
          obtain rfl := hq5.symm
          go_wp2_with (fail)
          refine (CQ.out _).mono ?_
          rintro e w5 ⟨rfl, hq5⟩
          obtain rfl := hq5.symm
          go_wp2_with (fail)
          refine (enough_any (XS.out.drewN _) l1).mono ?_
          rw [EV.out, dv]
          rintro e w6 ⟨rfl, q6, rfl⟩
          go_wp2_with (fail)
          refine (count_any (XS.out.drewN _) l1).mono ?_
          rw [CN.out]
          rintro e w7 ⟨rfl, hq7⟩
          obtain rfl := hq7.symm
          go_wp2_with (fail)
          refine (CQ.out _).mono ?_
          rintro e w8 ⟨rfl, hq8⟩
          obtain rfl := hq8.symm
          go_wp2_with (fail)
          refine (LV.out _).mono ?_
          rintro e w9 ⟨rfl, hq9⟩
          obtain rfl := hq9.symm
          go_wp2
          go_ret
          exact ⟨rfl, BW.out.trans (below_drewN _ _ _)⟩
        · have du : decide (yq ≤ (cu : Int)) = false := by simpa using hu
          clear hv hu
          go_wp2_with (fail)
          refine (enough_any XS.out l1).mono ?_
          rw [EV.out, dv]
          rintro e w3 ⟨rfl, q3, rfl⟩
          go_wp2_with (fail)
          refine (enough_any (YS.out.drewN _) l2).mono ?_
          rw [EU.out, du]
          rintro e w4 ⟨rfl, q4, rfl⟩
          go_wp2_with (fail)
          refine (CF.out _).mono ?_
          rintro e w5 ⟨rfl, hq5⟩
          obtain rfl := hq5.symm
          go_wp2_with (fail)
          refine (CQ.out _).mono ?_
          rintro e w5 ⟨rfl, hq5⟩
          obtain rfl := hq5.symm
          go_wp2_with (fail)
          refine (enough_any (XS.out.drewN _) l1).mono ?_
          rw [EV.out, dv]
          rintro e w6 ⟨rfl, q6, rfl⟩
          go_wp2_with (fail)
          refine (count_any (XS.out.drewN _) l1).mono ?_
          rw [CN.out]
          rintro e w7 ⟨rfl, hq7⟩
          obtain rfl := hq7.symm
          go_wp2_with (fail)
          refine (CQ.out _).mono ?_
          rintro e w8 ⟨rfl, hq8⟩
          obtain rfl := hq8.symm
          go_wp2_with (fail)
          refine (LV.out _).mono ?_
          rintro e w9 ⟨rfl, hq9⟩
          obtain rfl := hq9.symm
          go_wp2
          go_ret
          exact ⟨rfl, BW.out.trans (below_drewN _ _ _)⟩
      · have dv : decide (yq ≤ (cv : Int)) = false := by simpa using hv
        clear hv
        go_wp2_with (fail)
        refine (enough_any XS.out l1).mono ?_
        rw [EV.out, dv]
        rintro e w3 ⟨rfl, q3, rfl⟩
        go_wp2_with (fail)
        refine (CF.out _).mono ?_
        rintro e w5 ⟨rfl, hq5⟩
        obtain rfl := hq5.symm
        go_wp2_with (fail)
        refine (CQ.out _).mono ?_
        rintro e w5 ⟨rfl, hq5⟩
        obtain rfl := hq5.symm
        go_wp2_with (fail)
        refine (enough_any (XS.out.drewN _) l1).mono ?_
        rw [EV.out, dv]
        rintro e w6 ⟨rfl, q6, rfl⟩
        go_wp2_with (fail)
        refine (count_any (XS.out.drewN _) l1).mono ?_
        rw [CN.out]
        rintro e w7 ⟨rfl, hq7⟩
        obtain rfl := hq7.symm
        go_wp2_with (fail)
        refine (CQ.out _).mono ?_
        rintro e w8 ⟨rfl, hq8⟩
        obtain rfl := hq8.symm
        go_wp2_with (fail)
        refine (LV.out _).mono ?_
        rintro e w9 ⟨rfl, hq9⟩
        obtain rfl := hq9.symm
        go_wp2
        go_ret
        exact ⟨rfl, BW.out.trans (below_drewN _ _ _)⟩
end Go.Proofs.Ytnmkndnaomgmhaa
