/- Whatever the wait and however many ticks more: what is wanted and not answered is told as lapsed just behind its ticks, once, and is asked again at each fourth tick in between; no condition. -/
import Derived.Test.YtdkiopajilakcaaGreatBaseO1
import Derived.Test.YtdkiopajilakcaaGreatBaseO2
import Derived.Test.YtdkiopajilakcaaGreatBaseO3
import Derived.Test.YtdkiopajilakcaaGreatBaseO4
import Derived.Test.YtdkiopajilakcaaGreatBaseO5
import Derived.Test.YtdkiopajilakcaaGreatBaseO6
import Derived.BigQuiet
import Derived.Test.YtdkiopajilakcaaGreatRows
import Derived.ProofKit
import Derived.OpenShut
import Derived.ShutString
import Derived.ChangeOld
/- OutboxLapses. -/
namespace Go.Proofs.YtdkiopajilakcaaGreat
open Go.RowKit Go.Maps
def LawTrue (w : World) (e : Ending) (w' : World) : Prop := e = .returned (.bool true) ∧ Later w w'
theorem tick_one {v st wt : Int} {j : Nat} (h1 : 1 ≤ wt) : tickO [pB v st wt ((j : Int) + 1) (decide (wt ≤ (j : Int)))] = (if (j : Int) + 1 = wt then [opP 5 false (pB v st wt ((j : Int) + 1) (decide (wt ≤ (j : Int))))] else []) ∧
    tickA [pB v st wt ((j : Int) + 1) (decide (wt ≤ (j : Int)))] = (if ((j : Int) + 1) % 4 = 0 ∧ (j : Int) + 1 ≠ wt then [(pB v st wt 0 false).c] else []) ∧
    tickL [pB v st wt ((j : Int) + 1) (decide (wt ≤ (j : Int)))] = [pB v st wt ((j : Int) + 1) (decide (wt ≤ (j : Int) + 1))] := by
  have hl : lapsed (pB v st wt ((j : Int) + 1) (decide (wt ≤ (j : Int)))) = decide ((j : Int) + 1 = wt) := by
    unfold lapsed pB
    simp only
    rw [show decide ((j : Int) + 1 = 0) = false by simp; omega]
    by_cases a : wt ≤ (j : Int)
    · simp [a]; omega
    · simp [a]; omega
  have ha : askP (pB v st wt ((j : Int) + 1) (decide (wt ≤ (j : Int)))) = decide (((j : Int) + 1) % 4 = 0 ∧ (j : Int) + 1 ≠ wt) := by
    unfold askP pB
    simp only
    rw [show decide ((j : Int) + 1 = 0) = false by simp; omega]
    by_cases a : wt ≤ (j : Int)
    · rw [decide_eq_true a]
      have : (j : Int) + 1 ≠ wt := by omega
      simp [this]
    · rw [decide_eq_false a]
      by_cases b : wt ≤ (j : Int) + 1
      · have : (j : Int) + 1 = wt := by omega
        simp [this]
      · have : (j : Int) + 1 ≠ wt := by omega
        simp [b, this]
  refine ⟨?_, ?_, ?_⟩
  · unfold tickO
    by_cases a : (j : Int) + 1 = wt
    · rw [if_pos a, List.filter_cons_of_pos (by rw [hl]; simp [a])]; rfl
    · rw [if_neg a, List.filter_cons_of_neg (by rw [hl]; simp [a])]; rfl
  · unfold tickA
    by_cases a : ((j : Int) + 1) % 4 = 0 ∧ (j : Int) + 1 ≠ wt
    · rw [if_pos a, List.filter_cons_of_pos (by rw [ha]; exact decide_eq_true a)]; rfl
    · rw [if_neg a, List.filter_cons_of_neg (by rw [ha]; rw [decide_eq_false a]; decide)]; rfl
  · show [tickP _] = _
    unfold tickP
    rw [hl]
    by_cases a : (j : Int) + 1 = wt
    · rw [decide_eq_true a, if_pos rfl, show decide (wt ≤ (j : Int) + 1) = true by simp; omega]; rfl
    · rw [decide_eq_false a, if_neg (by decide)]
      by_cases b : wt ≤ (j : Int)
      · rw [decide_eq_true b, show decide (wt ≤ (j : Int) + 1) = true by simp; omega]
      · rw [decide_eq_false b, show decide (wt ≤ (j : Int) + 1) = false by simp; omega]
section
variable {w : World}
set_option maxHeartbeats 16000000 in
set_option maxRecDepth 100000 in
theorem law_lapses (m m2 : Int) (hm0 : 0 ≤ m) (_hm1 : m < 18446744073709551616) (hp0 : 0 ≤ m2) (_hp1 : m2 < 18446744073709551616) : Calls Tryz.prog 5 #[.int .u64 m, .int .u64 m2] w (LawTrue w) := by
  obtain ⟨i0, hi, hz0, hz1, _⟩ := info_parts step_info
  have HI := hide hi
  have HZ0 := hide hz0
  have HZ1 := hide hz1
  obtain ⟨N, hN⟩ : ∃ N : Nat, m % 99 = (N : Int) := ⟨(m % 99).toNat, by omega⟩
  have hN98 : N ≤ 98 := by omega
  obtain ⟨M, hM⟩ : ∃ M : Nat, m2 % 10 = (M : Int) := ⟨(m2 % 10).toNat, by omega⟩
  have hM9 : M ≤ 9 := by omega
  have hc := sB_ok (st := 2) (wt := 1 + (N : Int)) (by decide) (by decide) (by omega) (by omega)
  have HC := hide hc
  have HWF := hide (sB_wf (st := 2) (wt := 1 + (N : Int)) (by decide) (by decide) (by omega) (by omega))
  have HST := hide (sB_starts (st := 2) (wt := 1 + (N : Int)) (most := 2) (by decide) (by decide) (by omega) (by omega) (by decide))
  have CN := hide (new_yes 2 w (by decide) (by decide))
  clear hi hz0 hz1 hc
  go_enter Tryz.func5, Tryz.ntmps5
  go_wp2_with (fail)
  refine CN.out.mono ?_
  rintro e w1 ⟨kg, kb, rfl, hg, hb, hl1, hbk⟩
  have H1 := hide (And.intro hg (And.intro hb (And.intro hl1 hbk)))
  have CO := hide (onew_yes 3 w1 (by decide))
  clear hg hb hl1 hbk CN
  go_wp2_with (fail)
  refine CO.out.mono ?_
  rintro e w2 ⟨og, ob, rfl, ho1, ho2, hl2, hbx⟩
  have P2 : Hid (BP w w2 kg kb og ob 2 3 ⟨0, []⟩ [] 0 0 0) := BP.start ⟨H1.out.1, H1.out.2.1⟩ H1.out.2.2.1 H1.out.2.2.2 ⟨ho1, ho2⟩ hl2 hbx
  clear ho1 ho2 hl2 hbx CO H1
  obtain ⟨W3, hW3⟩ : ∃ W3, W3 = w2.alloc (.cells (sB 2 (1 + (N : Int))).cells.toArray 79 (0, 0)) := ⟨_, rfl⟩
  obtain ⟨z, hz⟩ : ∃ z, w2.heap.size = z := ⟨_, rfl⟩
  have L23 : Hid (Later w2 W3) := by rw [hW3]; exact (Below.refl _ _).alloc (Nat.le_refl _) _
  have S3 : Hid (StepsAt (fun _ => True) W3 (.slice (some ⟨z, 0, none⟩) 1 1) [sB 2 (1 + (N : Int))]) := by rw [hW3, ← hz]; exact flat_one w2 _ 6 (sB 2 (1 + (N : Int))).cells.toArray rfl (sB_one 2 _) _ trivial
  have P3 := hide (P2.out.later L23.out)
  have CA := hide (bp_apply (o := opStart nmB [sB 2 (1 + (N : Int))]) P3.out (by decide) (by decide) S3.out HWF.out (by decide))
  rw [HST.out.1, HST.out.2] at CA
  unfold OpD.cells opStart at CA
  have HW3 := hide hW3.symm
  have HZ := hide hz
  clear hW3 hz
  go_wp2_with (refine wpList_buildSlice_one (by rfl) 33 79 _ (by rfl) i0 _ 6 Tryz.underlying33 HI.out HZ0.out HZ1.out (by omega) (by omega) (sB 2 (1 + (N : Int))).cells.toArray (by rfl) (by rfl) ?_; rw [HW3.out, HZ.out])
  refine CA.out.mono ?_
  rintro e w4 ⟨rfl, hp4, _⟩
  have P4 := hide hp4
  have CS := hide (bp_sync hp4 (by show 1 ≤ 1000000; decide))
  unfold BSync at CS
  rw [(sync_first HC.out 3).1, (sync_first HC.out 3).2] at CS
  clear hp4 CA
  go_wp2_with (refine wpList_val rfl (by rfl) (exec_field_err _ ⟨0, 1, 1, 1⟩ (by rfl) (by rfl)) ?_)
  refine CS.out.mono ?_
  rintro e w5 ⟨sv, ob5, rfl, hb5, hr5, hp5, ht5⟩
  obtain ⟨c5, cap5, rfl, hc5, hc6, _, hrow⟩ := own_com1 hr5
  have hg5 := P4.out.blocks
  have HC5 : Hid (ob5 < c5 ∧ c5 < w5.heap.size ∧ og < c5) := ⟨by omega, hc6, by omega⟩
  have HR5 := hide hrow
  have CS2 := hide (bp_sync hp5 (by show 1 ≤ 1000000; decide))
  unfold BSync at CS2
  rw [(sync_again HC.out 3 0 false).1, (sync_again HC.out 3 0 false).2] at CS2
  have hdc : (!decide ((pB 3 2 (1 + (N : Int)) 0 false).c = (⟨3, 2, 1, 1, 1, false⟩ : ComD))) = false := rfl
  have HDC := hide hdc
  clear hb5 hr5 hp5 ht5 hc5 hc6 hrow hg5 CS hdc
  go_wp2_with (first
    | (refine wpList_val rfl (by rfl) (exec_load_range 42 _ (by rfl) c5 0 (by rfl) (pB 3 2 (1 + (N : Int)) 0 false).c.cells HR5.out _ Tryz.underlying42 (by rfl) (by kernel_rfl)) ?_)
    | (refine wpList_val rfl (by rfl) (exec_neq_com (pB 3 2 (1 + (N : Int)) 0 false).c ⟨3, 2, 1, 1, 1, false⟩ _ _ _ (by rfl) (by rfl) (by rfl)) ?_; rw [HDC.out]))
  refine CS2.out.mono ?_
  rintro e w6 ⟨sv6, ob6, rfl, hb6, hr6, hp6, ht6⟩
  obtain ⟨A6, d6, rfl⟩ := own_none hr6
  have P6 := hide hp6
  have HR6 : Hid (w6.rangeAt c5 0 (pB 3 2 (1 + (N : Int)) 0 false).c.cells) := fun j u hj => (World.cell?_of_block (ht6.block c5 HC5.out.2.1 (fun e => by have := HC5.out; omega))).trans (HR5.out j u hj)
  have HC6 : Hid (c5 ≠ ob6 ∧ c5 < w6.heap.size) := ⟨by have := HC5.out; omega, by have := HC5.out; have := ht6.size; omega⟩
  clear hb6 hr6 hp6 ht6 CS2
  go_wp2_with (fail)
  go_loopw [9] (fun s9 wr => ∃ (j ob k : Nat), j ≤ N + M + 1 ∧ s9 = .int .i64 ((j : Int) + 1) ∧ k ≤ 2 ∧ Hid (BP w wr kg kb og ob 2 3 (tB 2 (1 + (N : Int))) [pB 3 2 (1 + (N : Int)) (j : Int) (decide (1 + (N : Int) ≤ (j : Int)))] 1 k j) ∧ Hid (wr.rangeAt c5 0 (pB 3 2 (1 + (N : Int)) 0 false).c.cells) ∧ Hid (c5 ≠ ob ∧ c5 < wr.heap.size)) (fun i _ => N + M + 3 - (Go.RowKit.intOf i).toNat)
  case atStart =>
    refine ⟨0, ob6, 1, by omega, rfl, by decide, ?_, HR6, HC6⟩
    rw [show decide (1 + (N : Int) ≤ ((0 : Nat) : Int)) = false by simp; omega]
    exact P6
  case round =>
    obtain ⟨j, ob, k, hj, rfl, hk2, HP, HR, HCC⟩ := hrel
    by_cases hle : (j : Int) + 1 ≤ 1 + (N : Int) + (M : Int)
    · have CT := hide (bp_tick HP.out (by show 1 ≤ 1000000; decide) (by omega) (by omega))
      unfold BTick at CT
      rw [show growL [pB 3 2 (1 + (N : Int)) (j : Int) (decide (1 + (N : Int) ≤ (j : Int)))] = [pB 3 2 (1 + (N : Int)) ((j : Int) + 1) (decide (1 + (N : Int) ≤ (j : Int)))] from rfl, (sync_again HC.out 3 _ _).1, (sync_again HC.out 3 _ _).2, List.nil_append] at CT
      obtain ⟨t1, t2, t3⟩ := tick_one (v := 3) (st := 2) (wt := 1 + (N : Int)) (j := j) (by omega)
      rw [t1, t2, t3] at CT
      have hmod : ((j : Int) + 1).tmod 4 = ((j : Int) + 1) % 4 := Int.tmod_eq_emod_of_nonneg (by omega)
      have HOC : Hid (og ≠ c5) := by have := HC5.out; show og ≠ c5; omega
      clear t1 t2 t3
      by_cases hen : (j : Int) + 1 = 1 + (N : Int)
      · rw [if_pos hen, if_neg (fun e => e.2 hen)] at CT
        have en : (((j : Int) + 1) == 1 + (N : Int)) = true := by simp [hen]
        have en2 : (((j : Int) + 1) != 1 + (N : Int)) = false := by simp [hen]
        by_cases h4 : ((j : Int) + 1) % 4 = 0
        · have e4 : (((j : Int) + 1).tmod 4 == 0) = true := by rw [hmod]; simp [h4]
          have HEN := hide hen
          clear hmod hen h4
          go_wp2_with (fail)
          refine CT.out.mono ?_
          rintro e w7 ⟨sv7, ov7, ob7, rfl, hb7, hr7, hq7, hp7, ht7⟩
          obtain ⟨A7, d7, rfl⟩ := own_none hr7
          obtain ⟨o7, e7, rfl, _, _, _, _⟩ := own_op1 hq7
          have P7 := hide hp7
          have HR7 : Hid (w7.rangeAt c5 0 (pB 3 2 (1 + (N : Int)) 0 false).c.cells) := fun i u hi => (World.cell?_of_block (ht7.block c5 HCC.out.2 (fun e => by have := HCC.out; have := HOC.out; omega))).trans (HR.out i u hi)
          have HC7 : Hid (c5 ≠ ob7 ∧ c5 < w7.heap.size) := ⟨by have := HCC.out; omega, by have := HCC.out; have := ht7.size; omega⟩
          clear hb7 hr7 hq7 hp7 ht7 CT
          go_wp2_with (fail)
          refine wp_region_L (by kernel_rfl) ?_
          refine wpAnyL_take (i := 0) (d := some 62) (v := ?vaqa0) rfl rfl (by kernel_rfl) (by kernel_rfl) (by kernel_rfl) (fun _ _ _ h => h) (by rfl) ?yaqa0 ?_
          case yaqa0 => (intro w' hw'; go_simp; try (with_reducible rfl))
          simp only [Act.put]; try simp only [List.setIfInBounds_toArray]; try simp only [List.set_cons_zero, List.set_cons_succ]
          refine wpAnyL_take (i := 1) (d := some 63) (v := ?vaqa1) rfl rfl (by kernel_rfl) (by kernel_rfl) (by kernel_rfl) (fun _ _ _ h => h) (by rfl) ?yaqa1 ?_
          case yaqa1 => (intro w' hw'; go_simp; try (with_reducible rfl))
          simp only [Act.put]; try simp only [List.setIfInBounds_toArray]; try simp only [List.set_cons_zero, List.set_cons_succ]
          refine wpAnyL_take (i := 2) (d := some 64) (v := ?vaqa2) rfl rfl (by kernel_rfl) (by kernel_rfl) (by kernel_rfl) (fun _ _ _ h => h) (by rfl) ?yaqa2 ?_
          case yaqa2 => (intro w' hw'; go_simp; try (with_reducible rfl))
          simp only [Act.put]; try simp only [List.setIfInBounds_toArray]; try simp only [List.set_cons_zero, List.set_cons_succ]
          refine wpAnyL_take (i := 3) (d := some 65) (v := ?vaqa3) rfl rfl (by kernel_rfl) (by kernel_rfl) (by kernel_rfl) (fun _ _ _ h => h) (by rfl) ?yaqa3 ?_
          case yaqa3 => (intro w' hw'; go_simp; try (with_reducible rfl))
          simp only [Act.put]; try simp only [List.setIfInBounds_toArray]; try simp only [List.set_cons_zero, List.set_cons_succ]
          refine wpAnyL_take (i := 4) (d := some 66) (v := ?vaqa4) rfl rfl (by kernel_rfl) (by kernel_rfl) (by kernel_rfl) (fun _ _ _ h => h) (by rfl) ?yaqa4 ?_
          case yaqa4 => (intro w' hw'; go_simp; try (with_reducible rfl))
          simp only [Act.put]; try simp only [List.setIfInBounds_toArray]; try simp only [List.set_cons_zero, List.set_cons_succ]
          refine wpAnyL_take (i := 5) (d := some 67) (v := ?vaqa5) rfl rfl (by kernel_rfl) (by kernel_rfl) (by kernel_rfl) (fun _ _ _ h => h) (by rfl) ?yaqa5 ?_
          case yaqa5 => (intro w' hw'; go_simp; try (with_reducible rfl))
          simp only [Act.put]; try simp only [List.setIfInBounds_toArray]; try simp only [List.set_cons_zero, List.set_cons_succ]
          refine wpAnyL_take (i := 6) (d := some 68) (v := ?vaqa6) rfl rfl (by kernel_rfl) (by kernel_rfl) (by kernel_rfl) (fun _ _ _ h => h) (by rfl) ?yaqa6 ?_
          case yaqa6 => (intro w' hw'; go_simp; try (with_reducible rfl))
          simp only [Act.put]; try simp only [List.setIfInBounds_toArray]; try simp only [List.set_cons_zero, List.set_cons_succ]
          refine wpAnyL_take (i := 7) (d := some 69) (v := ?vaqa7) rfl rfl (by kernel_rfl) (by kernel_rfl) (by kernel_rfl) (fun _ _ _ h => h) (by rfl) ?yaqa7 ?_
          case yaqa7 => (intro w' hw'; go_simp; try (with_reducible rfl))
          simp only [Act.put]; try simp only [List.setIfInBounds_toArray]; try simp only [List.set_cons_zero, List.set_cons_succ]
          refine wpAnyL_take (i := 8) (d := some 70) (v := ?vaqa8) rfl rfl (by kernel_rfl) (by kernel_rfl) (by kernel_rfl) (fun _ _ _ h => h) (by rfl) ?yaqa8 ?_
          case yaqa8 => (intro w' hw'; go_simp; try (with_reducible rfl))
          simp only [Act.put]; try simp only [List.setIfInBounds_toArray]; try simp only [List.set_cons_zero, List.set_cons_succ]
          refine wpAnyL_take (i := 9) (d := some 71) (v := ?vaqa9) rfl rfl (by kernel_rfl) (by kernel_rfl) (by kernel_rfl) (fun _ _ _ h => h) (by rfl) ?yaqa9 ?_
          case yaqa9 => (intro w' hw'; go_simp; try (with_reducible rfl))
          simp only [Act.put]; try simp only [List.setIfInBounds_toArray]; try simp only [List.set_cons_zero, List.set_cons_succ]
          refine wpAnyL_take (i := 10) (d := some 72) (v := ?vaqa10) rfl rfl (by kernel_rfl) (by kernel_rfl) (by kernel_rfl) (fun _ _ _ h => h) (by rfl) ?yaqa10 ?_
          case yaqa10 => (intro w' hw'; go_simp; try (with_reducible rfl))
          simp only [Act.put]; try simp only [List.setIfInBounds_toArray]; try simp only [List.set_cons_zero, List.set_cons_succ]
          refine wpAnyL_take (i := 11) (d := some 73) (v := ?vaqa11) rfl rfl (by kernel_rfl) (by kernel_rfl) (by kernel_rfl) (fun _ _ _ h => h) (by rfl) ?yaqa11 ?_
          case yaqa11 => (intro w' hw'; go_simp; try (with_reducible rfl))
          simp only [Act.put]; try simp only [List.setIfInBounds_toArray]; try simp only [List.set_cons_zero, List.set_cons_succ]
          refine wpAnyL_take (i := 12) (d := some 74) (v := ?vaqa12) rfl rfl (by kernel_rfl) (by kernel_rfl) (by kernel_rfl) (fun _ _ _ h => h) (by rfl) ?yaqa12 ?_
          case yaqa12 => (intro w' hw'; go_simp; try (with_reducible rfl))
          simp only [Act.put]; try simp only [List.setIfInBounds_toArray]; try simp only [List.set_cons_zero, List.set_cons_succ]
          refine wpAnyL_take (i := 13) (d := some 75) (v := ?vaqa13) rfl rfl (by kernel_rfl) (by kernel_rfl) (by kernel_rfl) (fun _ _ _ h => h) (by rfl) ?yaqa13 ?_
          case yaqa13 => (intro w' hw'; go_simp; try (with_reducible rfl))
          simp only [Act.put]; try simp only [List.setIfInBounds_toArray]; try simp only [List.set_cons_zero, List.set_cons_succ]
          refine wpAnyL_take (i := 14) (d := some 76) (v := ?vaqa14) rfl rfl (by kernel_rfl) (by kernel_rfl) (by kernel_rfl) (fun _ _ _ h => h) (by rfl) ?yaqa14 ?_
          case yaqa14 => (intro w' hw'; go_simp; try (with_reducible rfl))
          simp only [Act.put]; try simp only [List.setIfInBounds_toArray]; try simp only [List.set_cons_zero, List.set_cons_succ]
          refine wpAnyL_take (i := 15) (d := some 77) (v := ?vaqa15) rfl rfl (by kernel_rfl) (by kernel_rfl) (by kernel_rfl) (fun _ _ _ h => h) (by rfl) ?yaqa15 ?_
          case yaqa15 => (intro w' hw'; go_simp; try (with_reducible rfl))
          simp only [Act.put]; try simp only [List.setIfInBounds_toArray]; try simp only [List.set_cons_zero, List.set_cons_succ]
          refine wpAnyL_take (i := 16) (d := some 78) (v := ?vaqa16) rfl rfl (by kernel_rfl) (by kernel_rfl) (by kernel_rfl) (fun _ _ _ h => h) (by rfl) ?yaqa16 ?_
          case yaqa16 => (intro w' hw'; go_simp; try (with_reducible rfl))
          simp only [Act.put]; try simp only [List.setIfInBounds_toArray]; try simp only [List.set_cons_zero, List.set_cons_succ]
          refine wpAnyL_take (i := 17) (d := some 79) (v := ?vaqa17) rfl rfl (by kernel_rfl) (by kernel_rfl) (by kernel_rfl) (fun _ _ _ h => h) (by rfl) ?yaqa17 ?_
          case yaqa17 => (intro w' hw'; go_simp; try (with_reducible rfl))
          simp only [Act.put]; try simp only [List.setIfInBounds_toArray]; try simp only [List.set_cons_zero, List.set_cons_succ]
          refine wpAnyL_take (i := 18) (d := some 80) (v := ?vaqa18) rfl rfl (by kernel_rfl) (by kernel_rfl) (by kernel_rfl) (fun _ _ _ h => h) (by rfl) ?yaqa18 ?_
          case yaqa18 => (intro w' hw'; go_simp; try (with_reducible rfl))
          simp only [Act.put]; try simp only [List.setIfInBounds_toArray]; try simp only [List.set_cons_zero, List.set_cons_succ]
          refine wpAnyL_take (i := 19) (d := some 81) (v := ?vaqa19) rfl rfl (by kernel_rfl) (by kernel_rfl) (by kernel_rfl) (fun _ _ _ h => h) (by rfl) ?yaqa19 ?_
          case yaqa19 => (intro w' hw'; go_simp; try (with_reducible rfl))
          simp only [Act.put]; try simp only [List.setIfInBounds_toArray]; try simp only [List.set_cons_zero, List.set_cons_succ]
          refine wpAnyL_take (i := 20) (d := some 82) (v := ?vaqa20) rfl rfl (by kernel_rfl) (by kernel_rfl) (by kernel_rfl) (fun _ _ _ h => h) (by rfl) ?yaqa20 ?_
          case yaqa20 => (intro w' hw'; go_simp; try (with_reducible rfl))
          simp only [Act.put]; try simp only [List.setIfInBounds_toArray]; try simp only [List.set_cons_zero, List.set_cons_succ]
          refine wpAnyL_take (i := 21) (d := some 83) (v := ?vaqa21) rfl rfl (by kernel_rfl) (by kernel_rfl) (by kernel_rfl) (fun _ _ _ h => h) (by rfl) ?yaqa21 ?_
          case yaqa21 => (intro w' hw'; go_simp; try (with_reducible rfl))
          simp only [Act.put]; try simp only [List.setIfInBounds_toArray]; try simp only [List.set_cons_zero, List.set_cons_succ]
          refine wpAnyL_take (i := 22) (d := some 84) (v := ?vaqa22) rfl rfl (by kernel_rfl) (by kernel_rfl) (by kernel_rfl) (fun _ _ _ h => h) (by rfl) ?yaqa22 ?_
          case yaqa22 => (intro w' hw'; go_simp; try (with_reducible rfl))
          simp only [Act.put]; try simp only [List.setIfInBounds_toArray]; try simp only [List.set_cons_zero, List.set_cons_succ]
          refine wpAnyL_take (i := 23) (d := some 85) (v := ?vaqa23) rfl rfl (by kernel_rfl) (by kernel_rfl) (by kernel_rfl) (fun _ _ _ h => h) (by rfl) ?yaqa23 ?_
          case yaqa23 => (intro w' hw'; go_simp; try (with_reducible rfl))
          simp only [Act.put]; try simp only [List.setIfInBounds_toArray]; try simp only [List.set_cons_zero, List.set_cons_succ]
          refine wpAnyL_take (i := 24) (d := some 86) (v := ?vaqa24) rfl rfl (by kernel_rfl) (by kernel_rfl) (by kernel_rfl) (fun _ _ _ h => h) (by rfl) ?yaqa24 ?_
          case yaqa24 => (intro w' hw'; go_simp; try (with_reducible rfl))
          simp only [Act.put]; try simp only [List.setIfInBounds_toArray]; try simp only [List.set_cons_zero, List.set_cons_succ]
          refine wpAnyL_take (i := 25) (d := some 87) (v := ?vaqa25) rfl rfl (by kernel_rfl) (by kernel_rfl) (by kernel_rfl) (fun _ _ _ h => h) (by rfl) ?yaqa25 ?_
          case yaqa25 => (intro w' hw'; go_simp; try (with_reducible rfl))
          simp only [Act.put]; try simp only [List.setIfInBounds_toArray]; try simp only [List.set_cons_zero, List.set_cons_succ]
          refine wpAnyL_take (i := 26) (d := some 88) (v := ?vaqa26) rfl rfl (by kernel_rfl) (by kernel_rfl) (by kernel_rfl) (fun _ _ _ h => h) (by rfl) ?yaqa26 ?_
          case yaqa26 => (intro w' hw'; go_simp; try (with_reducible rfl))
          simp only [Act.put]; try simp only [List.setIfInBounds_toArray]; try simp only [List.set_cons_zero, List.set_cons_succ]
          refine wpAnyL_take (i := 27) (d := some 89) (v := ?vaqa27) rfl rfl (by kernel_rfl) (by kernel_rfl) (by kernel_rfl) (fun _ _ _ h => h) (by rfl) ?yaqa27 ?_
          case yaqa27 => (intro w' hw'; go_simp; try (with_reducible rfl))
          simp only [Act.put]; try simp only [List.setIfInBounds_toArray]; try simp only [List.set_cons_zero, List.set_cons_succ]
          refine wpAnyL_take (i := 28) (d := some 90) (v := ?vaqa28) rfl rfl (by kernel_rfl) (by kernel_rfl) (by kernel_rfl) (fun _ _ _ h => h) (by rfl) ?yaqa28 ?_
          case yaqa28 => (intro w' hw'; go_simp; try (with_reducible rfl))
          simp only [Act.put]; try simp only [List.setIfInBounds_toArray]; try simp only [List.set_cons_zero, List.set_cons_succ]
          refine wpAnyL_take (i := 29) (d := some 91) (v := ?vaqa29) rfl rfl (by kernel_rfl) (by kernel_rfl) (by kernel_rfl) (fun _ _ _ h => h) (by rfl) ?yaqa29 ?_
          case yaqa29 => (intro w' hw'; go_simp; try (with_reducible rfl))
          simp only [Act.put]; try simp only [List.setIfInBounds_toArray]; try simp only [List.set_cons_zero, List.set_cons_succ]
          refine wpAnyL_take (i := 30) (d := some 92) (v := ?vaqa30) rfl rfl (by kernel_rfl) (by kernel_rfl) (by kernel_rfl) (fun _ _ _ h => h) (by rfl) ?yaqa30 ?_
          case yaqa30 => (intro w' hw'; go_simp; try (with_reducible rfl))
          simp only [Act.put]; try simp only [List.setIfInBounds_toArray]; try simp only [List.set_cons_zero, List.set_cons_succ]
          refine wpAnyL_pass (i := 31) (d := some 93) rfl rfl (by kernel_rfl) (by kernel_rfl) (by kernel_rfl) (fun _ _ _ h => h) (by rfl) ?_
          try (simp only [Act.put]; try simp only [List.setIfInBounds_toArray]; try simp only [List.set_cons_zero, List.set_cons_succ])
          refine wpAnyL_pass (i := 32) (d := some 94) rfl rfl (by kernel_rfl) (by kernel_rfl) (by kernel_rfl) (fun _ _ _ h => h) (by rfl) ?_
          try (simp only [Act.put]; try simp only [List.setIfInBounds_toArray]; try simp only [List.set_cons_zero, List.set_cons_succ])
          refine wpAnyL_pass (i := 33) (d := some 95) rfl rfl (by kernel_rfl) (by kernel_rfl) (by kernel_rfl) (fun _ _ _ h => h) (by rfl) ?_
          try (simp only [Act.put]; try simp only [List.setIfInBounds_toArray]; try simp only [List.set_cons_zero, List.set_cons_succ])
          refine wpAnyL_pass (i := 34) (d := some 96) rfl rfl (by kernel_rfl) (by kernel_rfl) (by kernel_rfl) (fun _ _ _ h => h) (by rfl) ?_
          try (simp only [Act.put]; try simp only [List.setIfInBounds_toArray]; try simp only [List.set_cons_zero, List.set_cons_succ])
          refine wpAnyL_pass (i := 35) (d := some 97) rfl rfl (by kernel_rfl) (by kernel_rfl) (by kernel_rfl) (fun _ _ _ h => h) (by rfl) ?_
          try (simp only [Act.put]; try simp only [List.setIfInBounds_toArray]; try simp only [List.set_cons_zero, List.set_cons_succ])
          refine wpAnyL_pass (i := 36) (d := some 98) rfl rfl (by kernel_rfl) (by kernel_rfl) (by kernel_rfl) (fun _ _ _ h => h) (by rfl) ?_
          try (simp only [Act.put]; try simp only [List.setIfInBounds_toArray]; try simp only [List.set_cons_zero, List.set_cons_succ])
          refine wpAnyL_pass (i := 37) (d := some 99) rfl rfl (by kernel_rfl) (by kernel_rfl) (by kernel_rfl) (fun _ _ _ h => h) (by rfl) ?_
          try (simp only [Act.put]; try simp only [List.setIfInBounds_toArray]; try simp only [List.set_cons_zero, List.set_cons_succ])
          refine wpAnyL_take (i := 38) (d := some 100) (v := ?vaqa38) rfl rfl (by kernel_rfl) (by kernel_rfl) (by kernel_rfl) (fun _ _ _ h => h) (by rfl) ?yaqa38 ?_
          case yaqa38 => (intro w' hw'; go_simp; try (with_reducible rfl))
          simp only [Act.put]; try simp only [List.setIfInBounds_toArray]; try simp only [List.set_cons_zero, List.set_cons_succ]
          refine wpAnyL_take (i := 39) (d := some 101) (v := ?vaqa39) rfl rfl (by kernel_rfl) (by kernel_rfl) (by kernel_rfl) (fun _ _ _ h => h) (by rfl) ?yaqa39 ?_
          case yaqa39 => (intro w' hw'; go_simp; try (with_reducible rfl))
          simp only [Act.put]; try simp only [List.setIfInBounds_toArray]; try simp only [List.set_cons_zero, List.set_cons_succ]
          refine wpAnyL_done (by kernel_rfl) ?_ _
          go_wp2
          go_roundw
          case rel => exact ⟨j + 1, ob7, 2, by omega, by go_num, by omega, P7.out.later (Later.drew _), HR7.out, HC7.out⟩
          case measure => simp [Go.RowKit.intOf]; omega
        · have e4 : (((j : Int) + 1).tmod 4 == 0) = false := by rw [hmod]; simp [h4]
          have HEN := hide hen
          clear hmod hen h4
          go_wp2_with (fail)
          refine CT.out.mono ?_
          rintro e w7 ⟨sv7, ov7, ob7, rfl, hb7, hr7, hq7, hp7, ht7⟩
          obtain ⟨A7, d7, rfl⟩ := own_none hr7
          obtain ⟨o7, e7, rfl, _, _, _, _⟩ := own_op1 hq7
          have P7 := hide hp7
          have HR7 : Hid (w7.rangeAt c5 0 (pB 3 2 (1 + (N : Int)) 0 false).c.cells) := fun i u hi => (World.cell?_of_block (ht7.block c5 HCC.out.2 (fun e => by have := HCC.out; have := HOC.out; omega))).trans (HR.out i u hi)
          have HC7 : Hid (c5 ≠ ob7 ∧ c5 < w7.heap.size) := ⟨by have := HCC.out; omega, by have := HCC.out; have := ht7.size; omega⟩
          clear hb7 hr7 hq7 hp7 ht7 CT
          go_wp2_with (fail)
          refine wp_region_L (by kernel_rfl) ?_
          refine wpAnyL_take (i := 0) (d := some 62) (v := ?vaqb0) rfl rfl (by kernel_rfl) (by kernel_rfl) (by kernel_rfl) (fun _ _ _ h => h) (by rfl) ?yaqb0 ?_
          case yaqb0 => (intro w' hw'; go_simp; try (with_reducible rfl))
          simp only [Act.put]; try simp only [List.setIfInBounds_toArray]; try simp only [List.set_cons_zero, List.set_cons_succ]
          refine wpAnyL_take (i := 1) (d := some 63) (v := ?vaqb1) rfl rfl (by kernel_rfl) (by kernel_rfl) (by kernel_rfl) (fun _ _ _ h => h) (by rfl) ?yaqb1 ?_
          case yaqb1 => (intro w' hw'; go_simp; try (with_reducible rfl))
          simp only [Act.put]; try simp only [List.setIfInBounds_toArray]; try simp only [List.set_cons_zero, List.set_cons_succ]
          refine wpAnyL_take (i := 2) (d := some 64) (v := ?vaqb2) rfl rfl (by kernel_rfl) (by kernel_rfl) (by kernel_rfl) (fun _ _ _ h => h) (by rfl) ?yaqb2 ?_
          case yaqb2 => (intro w' hw'; go_simp; try (with_reducible rfl))
          simp only [Act.put]; try simp only [List.setIfInBounds_toArray]; try simp only [List.set_cons_zero, List.set_cons_succ]
          refine wpAnyL_take (i := 3) (d := some 65) (v := ?vaqb3) rfl rfl (by kernel_rfl) (by kernel_rfl) (by kernel_rfl) (fun _ _ _ h => h) (by rfl) ?yaqb3 ?_
          case yaqb3 => (intro w' hw'; go_simp; try (with_reducible rfl))
          simp only [Act.put]; try simp only [List.setIfInBounds_toArray]; try simp only [List.set_cons_zero, List.set_cons_succ]
          refine wpAnyL_take (i := 4) (d := some 66) (v := ?vaqb4) rfl rfl (by kernel_rfl) (by kernel_rfl) (by kernel_rfl) (fun _ _ _ h => h) (by rfl) ?yaqb4 ?_
          case yaqb4 => (intro w' hw'; go_simp; try (with_reducible rfl))
          simp only [Act.put]; try simp only [List.setIfInBounds_toArray]; try simp only [List.set_cons_zero, List.set_cons_succ]
          refine wpAnyL_take (i := 5) (d := some 67) (v := ?vaqb5) rfl rfl (by kernel_rfl) (by kernel_rfl) (by kernel_rfl) (fun _ _ _ h => h) (by rfl) ?yaqb5 ?_
          case yaqb5 => (intro w' hw'; go_simp; try (with_reducible rfl))
          simp only [Act.put]; try simp only [List.setIfInBounds_toArray]; try simp only [List.set_cons_zero, List.set_cons_succ]
          refine wpAnyL_take (i := 6) (d := some 68) (v := ?vaqb6) rfl rfl (by kernel_rfl) (by kernel_rfl) (by kernel_rfl) (fun _ _ _ h => h) (by rfl) ?yaqb6 ?_
          case yaqb6 => (intro w' hw'; go_simp; try (with_reducible rfl))
          simp only [Act.put]; try simp only [List.setIfInBounds_toArray]; try simp only [List.set_cons_zero, List.set_cons_succ]
          refine wpAnyL_take (i := 7) (d := some 69) (v := ?vaqb7) rfl rfl (by kernel_rfl) (by kernel_rfl) (by kernel_rfl) (fun _ _ _ h => h) (by rfl) ?yaqb7 ?_
          case yaqb7 => (intro w' hw'; go_simp; try (with_reducible rfl))
          simp only [Act.put]; try simp only [List.setIfInBounds_toArray]; try simp only [List.set_cons_zero, List.set_cons_succ]
          refine wpAnyL_take (i := 8) (d := some 70) (v := ?vaqb8) rfl rfl (by kernel_rfl) (by kernel_rfl) (by kernel_rfl) (fun _ _ _ h => h) (by rfl) ?yaqb8 ?_
          case yaqb8 => (intro w' hw'; go_simp; try (with_reducible rfl))
          simp only [Act.put]; try simp only [List.setIfInBounds_toArray]; try simp only [List.set_cons_zero, List.set_cons_succ]
          refine wpAnyL_take (i := 9) (d := some 71) (v := ?vaqb9) rfl rfl (by kernel_rfl) (by kernel_rfl) (by kernel_rfl) (fun _ _ _ h => h) (by rfl) ?yaqb9 ?_
          case yaqb9 => (intro w' hw'; go_simp; try (with_reducible rfl))
          simp only [Act.put]; try simp only [List.setIfInBounds_toArray]; try simp only [List.set_cons_zero, List.set_cons_succ]
          refine wpAnyL_take (i := 10) (d := some 72) (v := ?vaqb10) rfl rfl (by kernel_rfl) (by kernel_rfl) (by kernel_rfl) (fun _ _ _ h => h) (by rfl) ?yaqb10 ?_
          case yaqb10 => (intro w' hw'; go_simp; try (with_reducible rfl))
          simp only [Act.put]; try simp only [List.setIfInBounds_toArray]; try simp only [List.set_cons_zero, List.set_cons_succ]
          refine wpAnyL_take (i := 11) (d := some 73) (v := ?vaqb11) rfl rfl (by kernel_rfl) (by kernel_rfl) (by kernel_rfl) (fun _ _ _ h => h) (by rfl) ?yaqb11 ?_
          case yaqb11 => (intro w' hw'; go_simp; try (with_reducible rfl))
          simp only [Act.put]; try simp only [List.setIfInBounds_toArray]; try simp only [List.set_cons_zero, List.set_cons_succ]
          refine wpAnyL_take (i := 12) (d := some 74) (v := ?vaqb12) rfl rfl (by kernel_rfl) (by kernel_rfl) (by kernel_rfl) (fun _ _ _ h => h) (by rfl) ?yaqb12 ?_
          case yaqb12 => (intro w' hw'; go_simp; try (with_reducible rfl))
          simp only [Act.put]; try simp only [List.setIfInBounds_toArray]; try simp only [List.set_cons_zero, List.set_cons_succ]
          refine wpAnyL_take (i := 13) (d := some 75) (v := ?vaqb13) rfl rfl (by kernel_rfl) (by kernel_rfl) (by kernel_rfl) (fun _ _ _ h => h) (by rfl) ?yaqb13 ?_
          case yaqb13 => (intro w' hw'; go_simp; try (with_reducible rfl))
          simp only [Act.put]; try simp only [List.setIfInBounds_toArray]; try simp only [List.set_cons_zero, List.set_cons_succ]
          refine wpAnyL_take (i := 14) (d := some 76) (v := ?vaqb14) rfl rfl (by kernel_rfl) (by kernel_rfl) (by kernel_rfl) (fun _ _ _ h => h) (by rfl) ?yaqb14 ?_
          case yaqb14 => (intro w' hw'; go_simp; try (with_reducible rfl))
          simp only [Act.put]; try simp only [List.setIfInBounds_toArray]; try simp only [List.set_cons_zero, List.set_cons_succ]
          refine wpAnyL_take (i := 15) (d := some 77) (v := ?vaqb15) rfl rfl (by kernel_rfl) (by kernel_rfl) (by kernel_rfl) (fun _ _ _ h => h) (by rfl) ?yaqb15 ?_
          case yaqb15 => (intro w' hw'; go_simp; try (with_reducible rfl))
          simp only [Act.put]; try simp only [List.setIfInBounds_toArray]; try simp only [List.set_cons_zero, List.set_cons_succ]
          refine wpAnyL_take (i := 16) (d := some 78) (v := ?vaqb16) rfl rfl (by kernel_rfl) (by kernel_rfl) (by kernel_rfl) (fun _ _ _ h => h) (by rfl) ?yaqb16 ?_
          case yaqb16 => (intro w' hw'; go_simp; try (with_reducible rfl))
          simp only [Act.put]; try simp only [List.setIfInBounds_toArray]; try simp only [List.set_cons_zero, List.set_cons_succ]
          refine wpAnyL_take (i := 17) (d := some 79) (v := ?vaqb17) rfl rfl (by kernel_rfl) (by kernel_rfl) (by kernel_rfl) (fun _ _ _ h => h) (by rfl) ?yaqb17 ?_
          case yaqb17 => (intro w' hw'; go_simp; try (with_reducible rfl))
          simp only [Act.put]; try simp only [List.setIfInBounds_toArray]; try simp only [List.set_cons_zero, List.set_cons_succ]
          refine wpAnyL_take (i := 18) (d := some 80) (v := ?vaqb18) rfl rfl (by kernel_rfl) (by kernel_rfl) (by kernel_rfl) (fun _ _ _ h => h) (by rfl) ?yaqb18 ?_
          case yaqb18 => (intro w' hw'; go_simp; try (with_reducible rfl))
          simp only [Act.put]; try simp only [List.setIfInBounds_toArray]; try simp only [List.set_cons_zero, List.set_cons_succ]
          refine wpAnyL_take (i := 19) (d := some 81) (v := ?vaqb19) rfl rfl (by kernel_rfl) (by kernel_rfl) (by kernel_rfl) (fun _ _ _ h => h) (by rfl) ?yaqb19 ?_
          case yaqb19 => (intro w' hw'; go_simp; try (with_reducible rfl))
          simp only [Act.put]; try simp only [List.setIfInBounds_toArray]; try simp only [List.set_cons_zero, List.set_cons_succ]
          refine wpAnyL_pass (i := 20) (d := some 82) rfl rfl (by kernel_rfl) (by kernel_rfl) (by kernel_rfl) (fun _ _ _ h => h) (by rfl) ?_
          try (simp only [Act.put]; try simp only [List.setIfInBounds_toArray]; try simp only [List.set_cons_zero, List.set_cons_succ])
          refine wpAnyL_pass (i := 21) (d := some 83) rfl rfl (by kernel_rfl) (by kernel_rfl) (by kernel_rfl) (fun _ _ _ h => h) (by rfl) ?_
          try (simp only [Act.put]; try simp only [List.setIfInBounds_toArray]; try simp only [List.set_cons_zero, List.set_cons_succ])
          refine wpAnyL_pass (i := 22) (d := some 84) rfl rfl (by kernel_rfl) (by kernel_rfl) (by kernel_rfl) (fun _ _ _ h => h) (by rfl) ?_
          try (simp only [Act.put]; try simp only [List.setIfInBounds_toArray]; try simp only [List.set_cons_zero, List.set_cons_succ])
          refine wpAnyL_take (i := 23) (d := some 85) (v := ?vaqb23) rfl rfl (by kernel_rfl) (by kernel_rfl) (by kernel_rfl) (fun _ _ _ h => h) (by rfl) ?yaqb23 ?_
          case yaqb23 => (intro w' hw'; go_simp; try (with_reducible rfl))
          simp only [Act.put]; try simp only [List.setIfInBounds_toArray]; try simp only [List.set_cons_zero, List.set_cons_succ]
          refine wpAnyL_take (i := 24) (d := some 86) (v := ?vaqb24) rfl rfl (by kernel_rfl) (by kernel_rfl) (by kernel_rfl) (fun _ _ _ h => h) (by rfl) ?yaqb24 ?_
          case yaqb24 => (intro w' hw'; go_simp; try (with_reducible rfl))
          simp only [Act.put]; try simp only [List.setIfInBounds_toArray]; try simp only [List.set_cons_zero, List.set_cons_succ]
          refine wpAnyL_take (i := 25) (d := some 87) (v := ?vaqb25) rfl rfl (by kernel_rfl) (by kernel_rfl) (by kernel_rfl) (fun _ _ _ h => h) (by rfl) ?yaqb25 ?_
          case yaqb25 => (intro w' hw'; go_simp; try (with_reducible rfl))
          simp only [Act.put]; try simp only [List.setIfInBounds_toArray]; try simp only [List.set_cons_zero, List.set_cons_succ]
          refine wpAnyL_take (i := 26) (d := some 88) (v := ?vaqb26) rfl rfl (by kernel_rfl) (by kernel_rfl) (by kernel_rfl) (fun _ _ _ h => h) (by rfl) ?yaqb26 ?_
          case yaqb26 => (intro w' hw'; go_simp; try (with_reducible rfl))
          simp only [Act.put]; try simp only [List.setIfInBounds_toArray]; try simp only [List.set_cons_zero, List.set_cons_succ]
          refine wpAnyL_take (i := 27) (d := some 89) (v := ?vaqb27) rfl rfl (by kernel_rfl) (by kernel_rfl) (by kernel_rfl) (fun _ _ _ h => h) (by rfl) ?yaqb27 ?_
          case yaqb27 => (intro w' hw'; go_simp; try (with_reducible rfl))
          simp only [Act.put]; try simp only [List.setIfInBounds_toArray]; try simp only [List.set_cons_zero, List.set_cons_succ]
          refine wpAnyL_take (i := 28) (d := some 90) (v := ?vaqb28) rfl rfl (by kernel_rfl) (by kernel_rfl) (by kernel_rfl) (fun _ _ _ h => h) (by rfl) ?yaqb28 ?_
          case yaqb28 => (intro w' hw'; go_simp; try (with_reducible rfl))
          simp only [Act.put]; try simp only [List.setIfInBounds_toArray]; try simp only [List.set_cons_zero, List.set_cons_succ]
          refine wpAnyL_take (i := 29) (d := some 91) (v := ?vaqb29) rfl rfl (by kernel_rfl) (by kernel_rfl) (by kernel_rfl) (fun _ _ _ h => h) (by rfl) ?yaqb29 ?_
          case yaqb29 => (intro w' hw'; go_simp; try (with_reducible rfl))
          simp only [Act.put]; try simp only [List.setIfInBounds_toArray]; try simp only [List.set_cons_zero, List.set_cons_succ]
          refine wpAnyL_take (i := 30) (d := some 92) (v := ?vaqb30) rfl rfl (by kernel_rfl) (by kernel_rfl) (by kernel_rfl) (fun _ _ _ h => h) (by rfl) ?yaqb30 ?_
          case yaqb30 => (intro w' hw'; go_simp; try (with_reducible rfl))
          simp only [Act.put]; try simp only [List.setIfInBounds_toArray]; try simp only [List.set_cons_zero, List.set_cons_succ]
          refine wpAnyL_pass (i := 31) (d := some 93) rfl rfl (by kernel_rfl) (by kernel_rfl) (by kernel_rfl) (fun _ _ _ h => h) (by rfl) ?_
          try (simp only [Act.put]; try simp only [List.setIfInBounds_toArray]; try simp only [List.set_cons_zero, List.set_cons_succ])
          refine wpAnyL_pass (i := 32) (d := some 94) rfl rfl (by kernel_rfl) (by kernel_rfl) (by kernel_rfl) (fun _ _ _ h => h) (by rfl) ?_
          try (simp only [Act.put]; try simp only [List.setIfInBounds_toArray]; try simp only [List.set_cons_zero, List.set_cons_succ])
          refine wpAnyL_pass (i := 33) (d := some 95) rfl rfl (by kernel_rfl) (by kernel_rfl) (by kernel_rfl) (fun _ _ _ h => h) (by rfl) ?_
          try (simp only [Act.put]; try simp only [List.setIfInBounds_toArray]; try simp only [List.set_cons_zero, List.set_cons_succ])
          refine wpAnyL_pass (i := 34) (d := some 96) rfl rfl (by kernel_rfl) (by kernel_rfl) (by kernel_rfl) (fun _ _ _ h => h) (by rfl) ?_
          try (simp only [Act.put]; try simp only [List.setIfInBounds_toArray]; try simp only [List.set_cons_zero, List.set_cons_succ])
          refine wpAnyL_pass (i := 35) (d := some 97) rfl rfl (by kernel_rfl) (by kernel_rfl) (by kernel_rfl) (fun _ _ _ h => h) (by rfl) ?_
          try (simp only [Act.put]; try simp only [List.setIfInBounds_toArray]; try simp only [List.set_cons_zero, List.set_cons_succ])
          refine wpAnyL_pass (i := 36) (d := some 98) rfl rfl (by kernel_rfl) (by kernel_rfl) (by kernel_rfl) (fun _ _ _ h => h) (by rfl) ?_
          try (simp only [Act.put]; try simp only [List.setIfInBounds_toArray]; try simp only [List.set_cons_zero, List.set_cons_succ])
          refine wpAnyL_pass (i := 37) (d := some 99) rfl rfl (by kernel_rfl) (by kernel_rfl) (by kernel_rfl) (fun _ _ _ h => h) (by rfl) ?_
          try (simp only [Act.put]; try simp only [List.setIfInBounds_toArray]; try simp only [List.set_cons_zero, List.set_cons_succ])
          refine wpAnyL_take (i := 38) (d := some 100) (v := ?vaqb38) rfl rfl (by kernel_rfl) (by kernel_rfl) (by kernel_rfl) (fun _ _ _ h => h) (by rfl) ?yaqb38 ?_
          case yaqb38 => (intro w' hw'; go_simp; try (with_reducible rfl))
          simp only [Act.put]; try simp only [List.setIfInBounds_toArray]; try simp only [List.set_cons_zero, List.set_cons_succ]
          refine wpAnyL_take (i := 39) (d := some 101) (v := ?vaqb39) rfl rfl (by kernel_rfl) (by kernel_rfl) (by kernel_rfl) (fun _ _ _ h => h) (by rfl) ?yaqb39 ?_
          case yaqb39 => (intro w' hw'; go_simp; try (with_reducible rfl))
          simp only [Act.put]; try simp only [List.setIfInBounds_toArray]; try simp only [List.set_cons_zero, List.set_cons_succ]
          refine wpAnyL_done (by kernel_rfl) ?_ _
          go_wp2
          go_roundw
          case rel => exact ⟨j + 1, ob7, 2, by omega, by go_num, by omega, P7.out.later (Later.drew _), HR7.out, HC7.out⟩
          case measure => simp [Go.RowKit.intOf]; omega
      · have en : (((j : Int) + 1) == 1 + (N : Int)) = false := by simp [hen]
        have en2 : (((j : Int) + 1) != 1 + (N : Int)) = true := by simp [hen]
        by_cases h4 : ((j : Int) + 1) % 4 = 0
        · rw [if_neg hen, if_pos ⟨h4, hen⟩] at CT
          have e4 : (((j : Int) + 1).tmod 4 == 0) = true := by rw [hmod]; simp [h4]
          have HEN := hide hen
          clear hmod hen h4
          go_wp2_with (fail)
          refine CT.out.mono ?_
          rintro e w7 ⟨sv7, ov7, ob7, rfl, hb7, hr7, hq7, hp7, ht7⟩
          obtain ⟨c7, d7, rfl, _, hlt7, _, hrow7⟩ := own_com1 hr7
          obtain ⟨o7, e7, rfl⟩ := own_none hq7
          have P7 := hide hp7
          have HR7 : Hid (w7.rangeAt c5 0 (pB 3 2 (1 + (N : Int)) 0 false).c.cells) := fun i u hi => (World.cell?_of_block (ht7.block c5 HCC.out.2 (fun e => by have := HCC.out; have := HOC.out; omega))).trans (HR.out i u hi)
          have HC7 : Hid (c5 ≠ ob7 ∧ c5 < w7.heap.size) := ⟨by have := HCC.out; omega, by have := HCC.out; have := ht7.size; omega⟩
          have HR8 := hide hrow7
          have HLT7 : Hid (c7 < w7.heap.size) := hlt7
          clear hrow7 hlt7 hb7 hr7 hq7 hp7 ht7 CT
          go_wp2_with (fail)
          refine wp_region_L (by kernel_rfl) ?_
          refine wpAnyL_take (i := 0) (d := some 62) (v := ?var0) rfl rfl (by kernel_rfl) (by kernel_rfl) (by kernel_rfl) (fun _ _ _ h => h) (by rfl) ?yar0 ?_
          case yar0 => (intro w' hw'; go_simp; try (with_reducible rfl))
          simp only [Act.put]; try simp only [List.setIfInBounds_toArray]; try simp only [List.set_cons_zero, List.set_cons_succ]
          refine wpAnyL_take (i := 1) (d := some 63) (v := ?var1) rfl rfl (by kernel_rfl) (by kernel_rfl) (by kernel_rfl) (fun _ _ _ h => h) (by rfl) ?yar1 ?_
          case yar1 => (intro w' hw'; go_simp; try (with_reducible rfl))
          simp only [Act.put]; try simp only [List.setIfInBounds_toArray]; try simp only [List.set_cons_zero, List.set_cons_succ]
          refine wpAnyL_take (i := 2) (d := some 64) (v := ?var2) rfl rfl (by kernel_rfl) (by kernel_rfl) (by kernel_rfl) (fun _ _ _ h => h) (by rfl) ?yar2 ?_
          case yar2 => (intro w' hw'; go_simp; try (with_reducible rfl))
          simp only [Act.put]; try simp only [List.setIfInBounds_toArray]; try simp only [List.set_cons_zero, List.set_cons_succ]
          refine wpAnyL_take (i := 3) (d := some 65) (v := ?var3) rfl rfl (by kernel_rfl) (by kernel_rfl) (by kernel_rfl) (fun _ _ _ h => h) (by rfl) ?yar3 ?_
          case yar3 => (intro w' hw'; go_simp; try (with_reducible rfl))
          simp only [Act.put]; try simp only [List.setIfInBounds_toArray]; try simp only [List.set_cons_zero, List.set_cons_succ]
          refine wpAnyL_take (i := 4) (d := some 66) (v := ?var4) rfl rfl (by kernel_rfl) (by kernel_rfl) (by kernel_rfl) (fun _ _ _ h => h) (by rfl) ?yar4 ?_
          case yar4 => (intro w' hw'; go_simp; try (with_reducible rfl))
          simp only [Act.put]; try simp only [List.setIfInBounds_toArray]; try simp only [List.set_cons_zero, List.set_cons_succ]
          refine wpAnyL_take (i := 5) (d := some 67) (v := ?var5) rfl rfl (by kernel_rfl) (by kernel_rfl) (by kernel_rfl) (fun _ _ _ h => h) (by rfl) ?yar5 ?_
          case yar5 => (intro w' hw'; go_simp; try (with_reducible rfl))
          simp only [Act.put]; try simp only [List.setIfInBounds_toArray]; try simp only [List.set_cons_zero, List.set_cons_succ]
          refine wpAnyL_take (i := 6) (d := some 68) (v := ?var6) rfl rfl (by kernel_rfl) (by kernel_rfl) (by kernel_rfl) (fun _ _ _ h => h) (by rfl) ?yar6 ?_
          case yar6 => (intro w' hw'; go_simp; try (with_reducible rfl))
          simp only [Act.put]; try simp only [List.setIfInBounds_toArray]; try simp only [List.set_cons_zero, List.set_cons_succ]
          refine wpAnyL_take (i := 7) (d := some 69) (v := ?var7) rfl rfl (by kernel_rfl) (by kernel_rfl) (by kernel_rfl) (fun _ _ _ h => h) (by rfl) ?yar7 ?_
          case yar7 => (intro w' hw'; go_simp; try (with_reducible rfl))
          simp only [Act.put]; try simp only [List.setIfInBounds_toArray]; try simp only [List.set_cons_zero, List.set_cons_succ]
          refine wpAnyL_take (i := 8) (d := some 70) (v := ?var8) rfl rfl (by kernel_rfl) (by kernel_rfl) (by kernel_rfl) (fun _ _ _ h => h) (by rfl) ?yar8 ?_
          case yar8 => (intro w' hw'; go_simp; try (with_reducible rfl))
          simp only [Act.put]; try simp only [List.setIfInBounds_toArray]; try simp only [List.set_cons_zero, List.set_cons_succ]
          refine wpAnyL_take (i := 9) (d := some 71) (v := ?var9) rfl rfl (by kernel_rfl) (by kernel_rfl) (by kernel_rfl) (fun _ _ _ h => h) (by rfl) ?yar9 ?_
          case yar9 => (intro w' hw'; go_simp; try (with_reducible rfl))
          simp only [Act.put]; try simp only [List.setIfInBounds_toArray]; try simp only [List.set_cons_zero, List.set_cons_succ]
          refine wpAnyL_take (i := 10) (d := some 72) (v := ?var10) rfl rfl (by kernel_rfl) (by kernel_rfl) (by kernel_rfl) (fun _ _ _ h => h) (by rfl) ?yar10 ?_
          case yar10 => (intro w' hw'; go_simp; try (with_reducible rfl))
          simp only [Act.put]; try simp only [List.setIfInBounds_toArray]; try simp only [List.set_cons_zero, List.set_cons_succ]
          refine wpAnyL_take (i := 11) (d := some 73) (v := ?var11) rfl rfl (by kernel_rfl) (by kernel_rfl) (by kernel_rfl) (fun _ _ _ h => h) (by rfl) ?yar11 ?_
          case yar11 => (intro w' hw'; go_simp; try (with_reducible rfl))
          simp only [Act.put]; try simp only [List.setIfInBounds_toArray]; try simp only [List.set_cons_zero, List.set_cons_succ]
          refine wpAnyL_take (i := 12) (d := some 74) (v := ?var12) rfl rfl (by kernel_rfl) (by kernel_rfl) (by kernel_rfl) (fun _ _ _ h => h) (by rfl) ?yar12 ?_
          case yar12 => (intro w' hw'; go_simp; try (with_reducible rfl))
          simp only [Act.put]; try simp only [List.setIfInBounds_toArray]; try simp only [List.set_cons_zero, List.set_cons_succ]
          refine wpAnyL_take (i := 13) (d := some 75) (v := ?var13) rfl rfl (by kernel_rfl) (by kernel_rfl) (by kernel_rfl) (fun _ _ _ h => h) (by rfl) ?yar13 ?_
          case yar13 => (intro w' hw'; go_simp; try (with_reducible rfl))
          simp only [Act.put]; try simp only [List.setIfInBounds_toArray]; try simp only [List.set_cons_zero, List.set_cons_succ]
          refine wpAnyL_take (i := 14) (d := some 76) (v := ?var14) rfl rfl (by kernel_rfl) (by kernel_rfl) (by kernel_rfl) (fun _ _ _ h => h) (by rfl) ?yar14 ?_
          case yar14 => (intro w' hw'; go_simp; try (with_reducible rfl))
          simp only [Act.put]; try simp only [List.setIfInBounds_toArray]; try simp only [List.set_cons_zero, List.set_cons_succ]
          refine wpAnyL_take (i := 15) (d := some 77) (v := ?var15) rfl rfl (by kernel_rfl) (by kernel_rfl) (by kernel_rfl) (fun _ _ _ h => h) (by rfl) ?yar15 ?_
          case yar15 => (intro w' hw'; go_simp; try (with_reducible rfl))
          simp only [Act.put]; try simp only [List.setIfInBounds_toArray]; try simp only [List.set_cons_zero, List.set_cons_succ]
          refine wpAnyL_take (i := 16) (d := some 78) (v := ?var16) rfl rfl (by kernel_rfl) (by kernel_rfl) (by kernel_rfl) (fun _ _ _ h => h) (by rfl) ?yar16 ?_
          case yar16 => (intro w' hw'; go_simp; try (with_reducible rfl))
          simp only [Act.put]; try simp only [List.setIfInBounds_toArray]; try simp only [List.set_cons_zero, List.set_cons_succ]
          refine wpAnyL_take (i := 17) (d := some 79) (v := ?var17) rfl rfl (by kernel_rfl) (by kernel_rfl) (by kernel_rfl) (fun _ _ _ h => h) (by rfl) ?yar17 ?_
          case yar17 => (intro w' hw'; go_simp; try (with_reducible rfl))
          simp only [Act.put]; try simp only [List.setIfInBounds_toArray]; try simp only [List.set_cons_zero, List.set_cons_succ]
          refine wpAnyL_take (i := 18) (d := some 80) (v := ?var18) rfl rfl (by kernel_rfl) (by kernel_rfl) (by kernel_rfl) (fun _ _ _ h => h) (by rfl) ?yar18 ?_
          case yar18 => (intro w' hw'; go_simp; try (with_reducible rfl))
          simp only [Act.put]; try simp only [List.setIfInBounds_toArray]; try simp only [List.set_cons_zero, List.set_cons_succ]
          refine wpAnyL_take (i := 19) (d := some 81) (v := ?var19) rfl rfl (by kernel_rfl) (by kernel_rfl) (by kernel_rfl) (fun _ _ _ h => h) (by rfl) ?yar19 ?_
          case yar19 => (intro w' hw'; go_simp; try (with_reducible rfl))
          simp only [Act.put]; try simp only [List.setIfInBounds_toArray]; try simp only [List.set_cons_zero, List.set_cons_succ]
          refine wpAnyL_take (i := 20) (d := some 82) (v := ?var20) rfl rfl (by kernel_rfl) (by kernel_rfl) (by kernel_rfl) (fun _ _ _ h => h) (by rfl) ?yar20 ?_
          case yar20 => (intro w' hw'; go_simp; try (with_reducible rfl))
          simp only [Act.put]; try simp only [List.setIfInBounds_toArray]; try simp only [List.set_cons_zero, List.set_cons_succ]
          refine wpAnyL_take (i := 21) (d := some 83) (v := ?var21) rfl rfl (by kernel_rfl) (by kernel_rfl) (by kernel_rfl) (fun _ _ _ h => h) (by rfl) ?yar21 ?_
          case yar21 => (intro w' hw'; go_simp; try (with_reducible rfl))
          simp only [Act.put]; try simp only [List.setIfInBounds_toArray]; try simp only [List.set_cons_zero, List.set_cons_succ]
          refine wpAnyL_take (i := 22) (d := some 84) (v := ?var22) rfl rfl (by kernel_rfl) (by kernel_rfl) (by kernel_rfl) (fun _ _ _ h => h) (by rfl) ?yar22 ?_
          case yar22 => (intro w' hw'; go_simp; try (with_reducible rfl))
          simp only [Act.put]; try simp only [List.setIfInBounds_toArray]; try simp only [List.set_cons_zero, List.set_cons_succ]
          refine wpAnyL_take (i := 23) (d := some 85) (v := ?var23) rfl rfl (by kernel_rfl) (by kernel_rfl) (by kernel_rfl) (fun _ _ _ h => h) (by rfl) ?yar23 ?_
          case yar23 => (intro w' hw'; go_simp; try (with_reducible rfl))
          simp only [Act.put]; try simp only [List.setIfInBounds_toArray]; try simp only [List.set_cons_zero, List.set_cons_succ]
          refine wpAnyL_take (i := 24) (d := some 86) (v := ?var24) rfl rfl (by kernel_rfl) (by kernel_rfl) (by kernel_rfl) (fun _ _ _ h => h) (by rfl) ?yar24 ?_
          case yar24 => (intro w' hw'; go_simp; try (with_reducible rfl))
          simp only [Act.put]; try simp only [List.setIfInBounds_toArray]; try simp only [List.set_cons_zero, List.set_cons_succ]
          refine wpAnyL_take (i := 25) (d := some 87) (v := ?var25) rfl rfl (by kernel_rfl) (by kernel_rfl) (by kernel_rfl) (fun _ _ _ h => h) (by rfl) ?yar25 ?_
          case yar25 => (intro w' hw'; go_simp; try (with_reducible rfl))
          simp only [Act.put]; try simp only [List.setIfInBounds_toArray]; try simp only [List.set_cons_zero, List.set_cons_succ]
          refine wpAnyL_take (i := 26) (d := some 88) (v := ?var26) rfl rfl (by kernel_rfl) (by kernel_rfl) (by kernel_rfl) (fun _ _ _ h => h) (by rfl) ?yar26 ?_
          case yar26 => (intro w' hw'; go_simp; try (with_reducible rfl))
          simp only [Act.put]; try simp only [List.setIfInBounds_toArray]; try simp only [List.set_cons_zero, List.set_cons_succ]
          refine wpAnyL_take (i := 27) (d := some 89) (v := ?var27) rfl rfl (by kernel_rfl) (by kernel_rfl) (by kernel_rfl) (fun _ _ _ h => h) (by rfl) ?yar27 ?_
          case yar27 => (intro w' hw'; go_simp; try (with_reducible rfl))
          simp only [Act.put]; try simp only [List.setIfInBounds_toArray]; try simp only [List.set_cons_zero, List.set_cons_succ]
          refine wpAnyL_take (i := 28) (d := some 90) (v := ?var28) rfl rfl (by kernel_rfl) (by kernel_rfl) (by kernel_rfl) (fun _ _ _ h => h) (by rfl) ?yar28 ?_
          case yar28 => (intro w' hw'; go_simp; try (with_reducible rfl))
          simp only [Act.put]; try simp only [List.setIfInBounds_toArray]; try simp only [List.set_cons_zero, List.set_cons_succ]
          refine wpAnyL_take (i := 29) (d := some 91) (v := ?var29) rfl rfl (by kernel_rfl) (by kernel_rfl) (by kernel_rfl) (fun _ _ _ h => h) (by rfl) ?yar29 ?_
          case yar29 => (intro w' hw'; go_simp; try (with_reducible rfl))
          simp only [Act.put]; try simp only [List.setIfInBounds_toArray]; try simp only [List.set_cons_zero, List.set_cons_succ]
          refine wpAnyL_take (i := 30) (d := some 92) (v := ?var30) rfl rfl (by kernel_rfl) (by kernel_rfl) (by kernel_rfl) (fun _ _ _ h => h) (by rfl) ?yar30 ?_
          case yar30 => (intro w' hw'; go_simp; try (with_reducible rfl))
          simp only [Act.put]; try simp only [List.setIfInBounds_toArray]; try simp only [List.set_cons_zero, List.set_cons_succ]
          refine wpAnyL_take (i := 31) (d := some 93) (v := ?var31) rfl rfl (by kernel_rfl) (by kernel_rfl) (by kernel_rfl) (fun _ _ _ h => h) (by rfl) ?yar31 ?_
          case yar31 => (intro w' hw'; go_simp; try (with_reducible rfl))
          simp only [Act.put]; try simp only [List.setIfInBounds_toArray]; try simp only [List.set_cons_zero, List.set_cons_succ]
          refine wpAnyL_take (i := 32) (d := some 94) (v := ?var32) rfl rfl (by kernel_rfl) (by kernel_rfl) (by kernel_rfl) (fun _ _ _ h => h) (by rfl) ?yar32 ?_
          case yar32 => (intro w' hw'; go_simp; try (with_reducible rfl))
          simp only [Act.put]; try simp only [List.setIfInBounds_toArray]; try simp only [List.set_cons_zero, List.set_cons_succ]
          refine wpAnyL_take (i := 33) (d := some 95) (v := (pB 3 2 (1 + (N : Int)) 0 false).c.val) rfl rfl (by kernel_rfl) (by kernel_rfl) (by kernel_rfl) (fun _ _ _ h => h) (by rfl) ?yar33 ?_
          case yar33 => (intro w' hw'; exact exec_load_range 42 _ (by rfl) c7 0 (by rfl) (pB 3 2 (1 + (N : Int)) 0 false).c.cells (fun i u hi => (Below.cell (Later.trans (Later.drew _) hw') (p := ⟨c7, 0 + i, none⟩) HLT7.out).trans (HR8.out i u hi)) _ Tryz.underlying42 (by rfl) (by kernel_rfl))
          simp only [Act.put]; try simp only [List.setIfInBounds_toArray]; try simp only [List.set_cons_zero, List.set_cons_succ]
          refine wpAnyL_take (i := 34) (d := some 96) (v := ?var34) rfl rfl (by kernel_rfl) (by kernel_rfl) (by kernel_rfl) (fun _ _ _ h => h) (by rfl) ?yar34 ?_
          case yar34 => (intro w' hw'; go_simp; try (with_reducible rfl))
          simp only [Act.put]; try simp only [List.setIfInBounds_toArray]; try simp only [List.set_cons_zero, List.set_cons_succ]
          refine wpAnyL_take (i := 35) (d := some 97) (v := ?var35) rfl rfl (by kernel_rfl) (by kernel_rfl) (by kernel_rfl) (fun _ _ _ h => h) (by rfl) ?yar35 ?_
          case yar35 => (intro w' hw'; go_simp; try (with_reducible rfl))
          simp only [Act.put]; try simp only [List.setIfInBounds_toArray]; try simp only [List.set_cons_zero, List.set_cons_succ]
          refine wpAnyL_take (i := 36) (d := some 98) (v := (pB 3 2 (1 + (N : Int)) 0 false).c.val) rfl rfl (by kernel_rfl) (by kernel_rfl) (by kernel_rfl) (fun _ _ _ h => h) (by rfl) ?yar36 ?_
          case yar36 => (intro w' hw'; exact exec_load_range 42 _ (by rfl) c5 0 (by rfl) (pB 3 2 (1 + (N : Int)) 0 false).c.cells (fun i u hi => (Below.cell (Later.trans (Later.drew _) hw') (p := ⟨c5, 0 + i, none⟩) HC7.out.2).trans (HR7.out i u hi)) _ Tryz.underlying42 (by rfl) (by kernel_rfl))
          simp only [Act.put]; try simp only [List.setIfInBounds_toArray]; try simp only [List.set_cons_zero, List.set_cons_succ]
          refine wpAnyL_take (i := 37) (d := some 99) (v := .bool false) rfl rfl (by kernel_rfl) (by kernel_rfl) (by kernel_rfl) (fun _ _ _ h => h) (by rfl) ?yar37 ?_
          case yar37 => (intro w' hw'; rw [exec_neq_com (pB 3 2 (1 + (N : Int)) 0 false).c (pB 3 2 (1 + (N : Int)) 0 false).c _ _ _ (by rfl) (by rfl) (by rfl)]; simp)
          simp only [Act.put]; try simp only [List.setIfInBounds_toArray]; try simp only [List.set_cons_zero, List.set_cons_succ]
          refine wpAnyL_take (i := 38) (d := some 100) (v := ?var38) rfl rfl (by kernel_rfl) (by kernel_rfl) (by kernel_rfl) (fun _ _ _ h => h) (by rfl) ?yar38 ?_
          case yar38 => (intro w' hw'; go_simp; try (with_reducible rfl))
          simp only [Act.put]; try simp only [List.setIfInBounds_toArray]; try simp only [List.set_cons_zero, List.set_cons_succ]
          refine wpAnyL_take (i := 39) (d := some 101) (v := ?var39) rfl rfl (by kernel_rfl) (by kernel_rfl) (by kernel_rfl) (fun _ _ _ h => h) (by rfl) ?yar39 ?_
          case yar39 => (intro w' hw'; go_simp; try (with_reducible rfl))
          simp only [Act.put]; try simp only [List.setIfInBounds_toArray]; try simp only [List.set_cons_zero, List.set_cons_succ]
          refine wpAnyL_done (by kernel_rfl) ?_ _
          go_wp2
          go_roundw
          case rel => exact ⟨j + 1, ob7, 2, by omega, by go_num, by omega, P7.out.later (Later.drew _), HR7.out, HC7.out⟩
          case measure => simp [Go.RowKit.intOf]; omega
        · rw [if_neg hen, if_neg (fun e => h4 e.1)] at CT
          have e4 : (((j : Int) + 1).tmod 4 == 0) = false := by rw [hmod]; simp [h4]
          have HEN := hide hen
          clear hmod hen h4
          go_wp2_with (fail)
          refine CT.out.mono ?_
          rintro e w7 ⟨sv7, ov7, ob7, rfl, hb7, hr7, hq7, hp7, ht7⟩
          obtain ⟨A7, d7, rfl⟩ := own_none hr7
          obtain ⟨o7, e7, rfl⟩ := own_none hq7
          have P7 := hide hp7
          have HR7 : Hid (w7.rangeAt c5 0 (pB 3 2 (1 + (N : Int)) 0 false).c.cells) := fun i u hi => (World.cell?_of_block (ht7.block c5 HCC.out.2 (fun e => by have := HCC.out; have := HOC.out; omega))).trans (HR.out i u hi)
          have HC7 : Hid (c5 ≠ ob7 ∧ c5 < w7.heap.size) := ⟨by have := HCC.out; omega, by have := HCC.out; have := ht7.size; omega⟩
          clear hb7 hr7 hq7 hp7 ht7 CT
          go_wp2_with (fail)
          refine wp_region_L (by kernel_rfl) ?_
          refine wpAnyL_take (i := 0) (d := some 62) (v := ?vaqc0) rfl rfl (by kernel_rfl) (by kernel_rfl) (by kernel_rfl) (fun _ _ _ h => h) (by rfl) ?yaqc0 ?_
          case yaqc0 => (intro w' hw'; go_simp; try (with_reducible rfl))
          simp only [Act.put]; try simp only [List.setIfInBounds_toArray]; try simp only [List.set_cons_zero, List.set_cons_succ]
          refine wpAnyL_take (i := 1) (d := some 63) (v := ?vaqc1) rfl rfl (by kernel_rfl) (by kernel_rfl) (by kernel_rfl) (fun _ _ _ h => h) (by rfl) ?yaqc1 ?_
          case yaqc1 => (intro w' hw'; go_simp; try (with_reducible rfl))
          simp only [Act.put]; try simp only [List.setIfInBounds_toArray]; try simp only [List.set_cons_zero, List.set_cons_succ]
          refine wpAnyL_take (i := 2) (d := some 64) (v := ?vaqc2) rfl rfl (by kernel_rfl) (by kernel_rfl) (by kernel_rfl) (fun _ _ _ h => h) (by rfl) ?yaqc2 ?_
          case yaqc2 => (intro w' hw'; go_simp; try (with_reducible rfl))
          simp only [Act.put]; try simp only [List.setIfInBounds_toArray]; try simp only [List.set_cons_zero, List.set_cons_succ]
          refine wpAnyL_take (i := 3) (d := some 65) (v := ?vaqc3) rfl rfl (by kernel_rfl) (by kernel_rfl) (by kernel_rfl) (fun _ _ _ h => h) (by rfl) ?yaqc3 ?_
          case yaqc3 => (intro w' hw'; go_simp; try (with_reducible rfl))
          simp only [Act.put]; try simp only [List.setIfInBounds_toArray]; try simp only [List.set_cons_zero, List.set_cons_succ]
          refine wpAnyL_take (i := 4) (d := some 66) (v := ?vaqc4) rfl rfl (by kernel_rfl) (by kernel_rfl) (by kernel_rfl) (fun _ _ _ h => h) (by rfl) ?yaqc4 ?_
          case yaqc4 => (intro w' hw'; go_simp; try (with_reducible rfl))
          simp only [Act.put]; try simp only [List.setIfInBounds_toArray]; try simp only [List.set_cons_zero, List.set_cons_succ]
          refine wpAnyL_take (i := 5) (d := some 67) (v := ?vaqc5) rfl rfl (by kernel_rfl) (by kernel_rfl) (by kernel_rfl) (fun _ _ _ h => h) (by rfl) ?yaqc5 ?_
          case yaqc5 => (intro w' hw'; go_simp; try (with_reducible rfl))
          simp only [Act.put]; try simp only [List.setIfInBounds_toArray]; try simp only [List.set_cons_zero, List.set_cons_succ]
          refine wpAnyL_take (i := 6) (d := some 68) (v := ?vaqc6) rfl rfl (by kernel_rfl) (by kernel_rfl) (by kernel_rfl) (fun _ _ _ h => h) (by rfl) ?yaqc6 ?_
          case yaqc6 => (intro w' hw'; go_simp; try (with_reducible rfl))
          simp only [Act.put]; try simp only [List.setIfInBounds_toArray]; try simp only [List.set_cons_zero, List.set_cons_succ]
          refine wpAnyL_take (i := 7) (d := some 69) (v := ?vaqc7) rfl rfl (by kernel_rfl) (by kernel_rfl) (by kernel_rfl) (fun _ _ _ h => h) (by rfl) ?yaqc7 ?_
          case yaqc7 => (intro w' hw'; go_simp; try (with_reducible rfl))
          simp only [Act.put]; try simp only [List.setIfInBounds_toArray]; try simp only [List.set_cons_zero, List.set_cons_succ]
          refine wpAnyL_take (i := 8) (d := some 70) (v := ?vaqc8) rfl rfl (by kernel_rfl) (by kernel_rfl) (by kernel_rfl) (fun _ _ _ h => h) (by rfl) ?yaqc8 ?_
          case yaqc8 => (intro w' hw'; go_simp; try (with_reducible rfl))
          simp only [Act.put]; try simp only [List.setIfInBounds_toArray]; try simp only [List.set_cons_zero, List.set_cons_succ]
          refine wpAnyL_take (i := 9) (d := some 71) (v := ?vaqc9) rfl rfl (by kernel_rfl) (by kernel_rfl) (by kernel_rfl) (fun _ _ _ h => h) (by rfl) ?yaqc9 ?_
          case yaqc9 => (intro w' hw'; go_simp; try (with_reducible rfl))
          simp only [Act.put]; try simp only [List.setIfInBounds_toArray]; try simp only [List.set_cons_zero, List.set_cons_succ]
          refine wpAnyL_take (i := 10) (d := some 72) (v := ?vaqc10) rfl rfl (by kernel_rfl) (by kernel_rfl) (by kernel_rfl) (fun _ _ _ h => h) (by rfl) ?yaqc10 ?_
          case yaqc10 => (intro w' hw'; go_simp; try (with_reducible rfl))
          simp only [Act.put]; try simp only [List.setIfInBounds_toArray]; try simp only [List.set_cons_zero, List.set_cons_succ]
          refine wpAnyL_take (i := 11) (d := some 73) (v := ?vaqc11) rfl rfl (by kernel_rfl) (by kernel_rfl) (by kernel_rfl) (fun _ _ _ h => h) (by rfl) ?yaqc11 ?_
          case yaqc11 => (intro w' hw'; go_simp; try (with_reducible rfl))
          simp only [Act.put]; try simp only [List.setIfInBounds_toArray]; try simp only [List.set_cons_zero, List.set_cons_succ]
          refine wpAnyL_take (i := 12) (d := some 74) (v := ?vaqc12) rfl rfl (by kernel_rfl) (by kernel_rfl) (by kernel_rfl) (fun _ _ _ h => h) (by rfl) ?yaqc12 ?_
          case yaqc12 => (intro w' hw'; go_simp; try (with_reducible rfl))
          simp only [Act.put]; try simp only [List.setIfInBounds_toArray]; try simp only [List.set_cons_zero, List.set_cons_succ]
          refine wpAnyL_take (i := 13) (d := some 75) (v := ?vaqc13) rfl rfl (by kernel_rfl) (by kernel_rfl) (by kernel_rfl) (fun _ _ _ h => h) (by rfl) ?yaqc13 ?_
          case yaqc13 => (intro w' hw'; go_simp; try (with_reducible rfl))
          simp only [Act.put]; try simp only [List.setIfInBounds_toArray]; try simp only [List.set_cons_zero, List.set_cons_succ]
          refine wpAnyL_take (i := 14) (d := some 76) (v := ?vaqc14) rfl rfl (by kernel_rfl) (by kernel_rfl) (by kernel_rfl) (fun _ _ _ h => h) (by rfl) ?yaqc14 ?_
          case yaqc14 => (intro w' hw'; go_simp; try (with_reducible rfl))
          simp only [Act.put]; try simp only [List.setIfInBounds_toArray]; try simp only [List.set_cons_zero, List.set_cons_succ]
          refine wpAnyL_take (i := 15) (d := some 77) (v := ?vaqc15) rfl rfl (by kernel_rfl) (by kernel_rfl) (by kernel_rfl) (fun _ _ _ h => h) (by rfl) ?yaqc15 ?_
          case yaqc15 => (intro w' hw'; go_simp; try (with_reducible rfl))
          simp only [Act.put]; try simp only [List.setIfInBounds_toArray]; try simp only [List.set_cons_zero, List.set_cons_succ]
          refine wpAnyL_take (i := 16) (d := some 78) (v := ?vaqc16) rfl rfl (by kernel_rfl) (by kernel_rfl) (by kernel_rfl) (fun _ _ _ h => h) (by rfl) ?yaqc16 ?_
          case yaqc16 => (intro w' hw'; go_simp; try (with_reducible rfl))
          simp only [Act.put]; try simp only [List.setIfInBounds_toArray]; try simp only [List.set_cons_zero, List.set_cons_succ]
          refine wpAnyL_take (i := 17) (d := some 79) (v := ?vaqc17) rfl rfl (by kernel_rfl) (by kernel_rfl) (by kernel_rfl) (fun _ _ _ h => h) (by rfl) ?yaqc17 ?_
          case yaqc17 => (intro w' hw'; go_simp; try (with_reducible rfl))
          simp only [Act.put]; try simp only [List.setIfInBounds_toArray]; try simp only [List.set_cons_zero, List.set_cons_succ]
          refine wpAnyL_take (i := 18) (d := some 80) (v := ?vaqc18) rfl rfl (by kernel_rfl) (by kernel_rfl) (by kernel_rfl) (fun _ _ _ h => h) (by rfl) ?yaqc18 ?_
          case yaqc18 => (intro w' hw'; go_simp; try (with_reducible rfl))
          simp only [Act.put]; try simp only [List.setIfInBounds_toArray]; try simp only [List.set_cons_zero, List.set_cons_succ]
          refine wpAnyL_take (i := 19) (d := some 81) (v := ?vaqc19) rfl rfl (by kernel_rfl) (by kernel_rfl) (by kernel_rfl) (fun _ _ _ h => h) (by rfl) ?yaqc19 ?_
          case yaqc19 => (intro w' hw'; go_simp; try (with_reducible rfl))
          simp only [Act.put]; try simp only [List.setIfInBounds_toArray]; try simp only [List.set_cons_zero, List.set_cons_succ]
          refine wpAnyL_pass (i := 20) (d := some 82) rfl rfl (by kernel_rfl) (by kernel_rfl) (by kernel_rfl) (fun _ _ _ h => h) (by rfl) ?_
          try (simp only [Act.put]; try simp only [List.setIfInBounds_toArray]; try simp only [List.set_cons_zero, List.set_cons_succ])
          refine wpAnyL_pass (i := 21) (d := some 83) rfl rfl (by kernel_rfl) (by kernel_rfl) (by kernel_rfl) (fun _ _ _ h => h) (by rfl) ?_
          try (simp only [Act.put]; try simp only [List.setIfInBounds_toArray]; try simp only [List.set_cons_zero, List.set_cons_succ])
          refine wpAnyL_pass (i := 22) (d := some 84) rfl rfl (by kernel_rfl) (by kernel_rfl) (by kernel_rfl) (fun _ _ _ h => h) (by rfl) ?_
          try (simp only [Act.put]; try simp only [List.setIfInBounds_toArray]; try simp only [List.set_cons_zero, List.set_cons_succ])
          refine wpAnyL_take (i := 23) (d := some 85) (v := ?vaqc23) rfl rfl (by kernel_rfl) (by kernel_rfl) (by kernel_rfl) (fun _ _ _ h => h) (by rfl) ?yaqc23 ?_
          case yaqc23 => (intro w' hw'; go_simp; try (with_reducible rfl))
          simp only [Act.put]; try simp only [List.setIfInBounds_toArray]; try simp only [List.set_cons_zero, List.set_cons_succ]
          refine wpAnyL_take (i := 24) (d := some 86) (v := ?vaqc24) rfl rfl (by kernel_rfl) (by kernel_rfl) (by kernel_rfl) (fun _ _ _ h => h) (by rfl) ?yaqc24 ?_
          case yaqc24 => (intro w' hw'; go_simp; try (with_reducible rfl))
          simp only [Act.put]; try simp only [List.setIfInBounds_toArray]; try simp only [List.set_cons_zero, List.set_cons_succ]
          refine wpAnyL_take (i := 25) (d := some 87) (v := ?vaqc25) rfl rfl (by kernel_rfl) (by kernel_rfl) (by kernel_rfl) (fun _ _ _ h => h) (by rfl) ?yaqc25 ?_
          case yaqc25 => (intro w' hw'; go_simp; try (with_reducible rfl))
          simp only [Act.put]; try simp only [List.setIfInBounds_toArray]; try simp only [List.set_cons_zero, List.set_cons_succ]
          refine wpAnyL_take (i := 26) (d := some 88) (v := ?vaqc26) rfl rfl (by kernel_rfl) (by kernel_rfl) (by kernel_rfl) (fun _ _ _ h => h) (by rfl) ?yaqc26 ?_
          case yaqc26 => (intro w' hw'; go_simp; try (with_reducible rfl))
          simp only [Act.put]; try simp only [List.setIfInBounds_toArray]; try simp only [List.set_cons_zero, List.set_cons_succ]
          refine wpAnyL_take (i := 27) (d := some 89) (v := ?vaqc27) rfl rfl (by kernel_rfl) (by kernel_rfl) (by kernel_rfl) (fun _ _ _ h => h) (by rfl) ?yaqc27 ?_
          case yaqc27 => (intro w' hw'; go_simp; try (with_reducible rfl))
          simp only [Act.put]; try simp only [List.setIfInBounds_toArray]; try simp only [List.set_cons_zero, List.set_cons_succ]
          refine wpAnyL_take (i := 28) (d := some 90) (v := ?vaqc28) rfl rfl (by kernel_rfl) (by kernel_rfl) (by kernel_rfl) (fun _ _ _ h => h) (by rfl) ?yaqc28 ?_
          case yaqc28 => (intro w' hw'; go_simp; try (with_reducible rfl))
          simp only [Act.put]; try simp only [List.setIfInBounds_toArray]; try simp only [List.set_cons_zero, List.set_cons_succ]
          refine wpAnyL_take (i := 29) (d := some 91) (v := ?vaqc29) rfl rfl (by kernel_rfl) (by kernel_rfl) (by kernel_rfl) (fun _ _ _ h => h) (by rfl) ?yaqc29 ?_
          case yaqc29 => (intro w' hw'; go_simp; try (with_reducible rfl))
          simp only [Act.put]; try simp only [List.setIfInBounds_toArray]; try simp only [List.set_cons_zero, List.set_cons_succ]
          refine wpAnyL_take (i := 30) (d := some 92) (v := ?vaqc30) rfl rfl (by kernel_rfl) (by kernel_rfl) (by kernel_rfl) (fun _ _ _ h => h) (by rfl) ?yaqc30 ?_
          case yaqc30 => (intro w' hw'; go_simp; try (with_reducible rfl))
          simp only [Act.put]; try simp only [List.setIfInBounds_toArray]; try simp only [List.set_cons_zero, List.set_cons_succ]
          refine wpAnyL_pass (i := 31) (d := some 93) rfl rfl (by kernel_rfl) (by kernel_rfl) (by kernel_rfl) (fun _ _ _ h => h) (by rfl) ?_
          try (simp only [Act.put]; try simp only [List.setIfInBounds_toArray]; try simp only [List.set_cons_zero, List.set_cons_succ])
          refine wpAnyL_pass (i := 32) (d := some 94) rfl rfl (by kernel_rfl) (by kernel_rfl) (by kernel_rfl) (fun _ _ _ h => h) (by rfl) ?_
          try (simp only [Act.put]; try simp only [List.setIfInBounds_toArray]; try simp only [List.set_cons_zero, List.set_cons_succ])
          refine wpAnyL_pass (i := 33) (d := some 95) rfl rfl (by kernel_rfl) (by kernel_rfl) (by kernel_rfl) (fun _ _ _ h => h) (by rfl) ?_
          try (simp only [Act.put]; try simp only [List.setIfInBounds_toArray]; try simp only [List.set_cons_zero, List.set_cons_succ])
          refine wpAnyL_pass (i := 34) (d := some 96) rfl rfl (by kernel_rfl) (by kernel_rfl) (by kernel_rfl) (fun _ _ _ h => h) (by rfl) ?_
          try (simp only [Act.put]; try simp only [List.setIfInBounds_toArray]; try simp only [List.set_cons_zero, List.set_cons_succ])
          refine wpAnyL_pass (i := 35) (d := some 97) rfl rfl (by kernel_rfl) (by kernel_rfl) (by kernel_rfl) (fun _ _ _ h => h) (by rfl) ?_
          try (simp only [Act.put]; try simp only [List.setIfInBounds_toArray]; try simp only [List.set_cons_zero, List.set_cons_succ])
          refine wpAnyL_pass (i := 36) (d := some 98) rfl rfl (by kernel_rfl) (by kernel_rfl) (by kernel_rfl) (fun _ _ _ h => h) (by rfl) ?_
          try (simp only [Act.put]; try simp only [List.setIfInBounds_toArray]; try simp only [List.set_cons_zero, List.set_cons_succ])
          refine wpAnyL_pass (i := 37) (d := some 99) rfl rfl (by kernel_rfl) (by kernel_rfl) (by kernel_rfl) (fun _ _ _ h => h) (by rfl) ?_
          try (simp only [Act.put]; try simp only [List.setIfInBounds_toArray]; try simp only [List.set_cons_zero, List.set_cons_succ])
          refine wpAnyL_take (i := 38) (d := some 100) (v := ?vaqc38) rfl rfl (by kernel_rfl) (by kernel_rfl) (by kernel_rfl) (fun _ _ _ h => h) (by rfl) ?yaqc38 ?_
          case yaqc38 => (intro w' hw'; go_simp; try (with_reducible rfl))
          simp only [Act.put]; try simp only [List.setIfInBounds_toArray]; try simp only [List.set_cons_zero, List.set_cons_succ]
          refine wpAnyL_take (i := 39) (d := some 101) (v := ?vaqc39) rfl rfl (by kernel_rfl) (by kernel_rfl) (by kernel_rfl) (fun _ _ _ h => h) (by rfl) ?yaqc39 ?_
          case yaqc39 => (intro w' hw'; go_simp; try (with_reducible rfl))
          simp only [Act.put]; try simp only [List.setIfInBounds_toArray]; try simp only [List.set_cons_zero, List.set_cons_succ]
          refine wpAnyL_done (by kernel_rfl) ?_ _
          go_wp2
          go_roundw
          case rel => exact ⟨j + 1, ob7, 2, by omega, by go_num, by omega, P7.out.later (Later.drew _), HR7.out, HC7.out⟩
          case measure => simp [Go.RowKit.intOf]; omega
    · have CO := hide (oopen_any HP.out.box)
      rw [show sagasP [pB 3 2 (1 + (N : Int)) (j : Int) (decide (1 + (N : Int) ≤ (j : Int)))] = [1] from rfl] at CO
      go_wp2_with (fail)
      refine CO.out.mono ?_
      rintro e w8 ⟨A8, n8, c8, rfl, h1, h2, h3, h4⟩
      have e8 : n8 = 1 := by have := h2.1; simpa using this.symm
      subst e8
      have H8 := hide h2
      have L8 := hide h4
      have LA8 : Hid (Later w8 (w8.alloc (.cells #[.int .i64 1] 3 (0, 0)))) := (Below.refl _ _).alloc (Nat.le_refl _) _
      have HB8 : (w8.alloc (.cells #[.int .i64 1] 3 (0, 0))).heap[w8.heap.size]? = some (.cells #[.int .i64 1] 3 (0, 0)) := heap_alloc_new _ _
      have H9 : Hid (IHolds (w8.alloc (.cells #[.int .i64 1] 3 (0, 0))) (w8.heap.size + 1) (some ⟨w8.heap.size, 0, none⟩) 1 [1]) := ⟨rfl, (by intro x hx; obtain rfl := List.mem_singleton.1 hx; decide), fun _ => ⟨_, 0, rfl, by omega, fun i hi => (by have h0 : i = 0 := (by omega); subst h0; exact cell_of_row _ _ _ _ _ _ HB8)⟩⟩
      have CI := hide (refints_any A8 _ 1 c8 1 1 _ _ [1] [1] _ (H8.out.below LA8.out) H9.out (by decide) (by decide))
      rw [eqI_self] at CI
      have LW : Hid (Later w w8) := Later.trans HP.out.bel h4
      clear h1 h2 h3 h4 CO HB8
      go_wp2_with (fail)
      refine CI.out.mono ?_
      rintro e w9 ⟨rfl, q, hq⟩
      have L9 : Hid (Later w w9) := by
        have l1 : Later w _ := Later.trans (show Later w w8 from LW.out) LA8.out
        rw [hq]
        exact Later.trans l1 (below_drewN _ _ q)
      clear hq CI
      go_wp2_with (fail)
      refine (olives_any (w := w9)).mono ?_
      rintro e w10 ⟨rfl, hl⟩
      have L10 : Hid (Later w w10) := Later.trans (show Later w w9 from L9.out) hl
      clear hl
      go_wp2
      go_ret
      exact ⟨rfl, L10.out⟩
end
end Go.Proofs.YtdkiopajilakcaaGreat
/- OutboxLapses, as the claim asks it. -/
namespace Go.Proofs.YtdkiopajilakcaaGreat
open Go.RowKit
theorem law_lapsesW (m m2 : Nat) (w : World) (hm : m < 18446744073709551616) (hm2 : m2 < 18446744073709551616) :
    Calls Tryz.prog 5 #[.int .u64 (m : Int), .int .u64 (m2 : Int)] w fun e w' => e = .returned (.bool true) ∧ Later w w' := law_lapses (m : Int) (m2 : Int) (by omega) (by omega) (by omega) (by omega)
end Go.Proofs.YtdkiopajilakcaaGreat
namespace Go.Proofs.YtdkiopajilakcaaGreat
open Go.ChangeShapes Go.WideShapes Go.ChangeAt Go.RowKit

theorem outboxLapses_lawKnobs : ownKnob Tryz.prog.godebug = none := by kernel_rfl
theorem outboxLapses_allLaid : laidOutB Tryz.prog = true := by kernel_rfl

set_option maxRecDepth 100000 in
set_option maxHeartbeats 1000000 in
theorem outboxLapses_lifted (os : Os) (started : os.Started) (H : Type) (enc : TypeId × Value → H) :
    ReturnsInHanded {} Tryz.checked os 5 .any (Rows.outboxLapsesSpec.pre6 enc Tryz.prog Tryz.f5 Rows.outboxLapsesRow.domain false) (Rows.outboxLapsesSpec.post enc Tryz.prog Tryz.f5 false true false false) := by
  refine returnsInHanded_of_change_sized (C := Tryz.checked) outboxLapses_lawKnobs started (by kernel_rfl) Tryz.func5
    (ChangeSpec.witness6 (enc := enc) (C := Tryz.checked) false ⟨#[], #[.int .u64 0, .int .u64 0], []⟩ 8 (by kernel_rfl) (by kernel_rfl) (by kernel_rfl) (by kernel_rfl)) ?_
  intro W base args ds gs before hval0 hW hcnd hsz _
  have hval : ∀ (j : Nat) t v, Tryz.f5.params[j]? = some t → args[j]? = some v → Value.okWide Tryz.prog W .any base t v := hval0
  have hW' := hW
  obtain ⟨p, q, hA0, hV, rfl, _, _⟩ := hW
  have hA : DataW.TrodAll enc Tryz.prog W 0 (fun _ => true) true Tryz.f5.params.toList args.toList ds p := hA0
  rw [Tryz.params5] at hA hval
  obtain ⟨v0, vs0, d0, ds0, p0, q0, hargs, rfl, rfl, h0, r0⟩ := trodAll_cons hA
  obtain ⟨v1, vs1, d1, ds1, p1, q1, rfl, rfl, rfl, h1, r1⟩ := trodAll_cons r0
  obtain ⟨rfl, rfl, rfl⟩ := trodAll_nil r1
  obtain rfl : args = #[v0, v1] := by cases args; simp_all
  obtain ⟨rfl, rfl⟩ := trodVars_none hV
  have k0 := h0
  obtain ⟨a0, rfl, rfl, rfl, w0⟩ := open_int Tryz.underlying54 (hval 0 54 v0 rfl rfl) h0
  have b0 := bounds_u64 w0
  obtain ⟨V0, rfl⟩ := Int.eq_ofNat_of_zero_le b0.1
  have k1 := h1
  obtain ⟨a1, rfl, rfl, rfl, w1⟩ := open_int Tryz.underlying54 (hval 1 54 v1 rfl rfl) h1
  have b1 := bounds_u64 w1
  obtain ⟨V1, rfl⟩ := Int.eq_ofNat_of_zero_le b1.1
  clear hA0 hval0
  refine (law_lapsesW V0 V1 W (by omega) (by omega)).mono fun e W' ⟨he, bel⟩ => ?_
  subst he
  exact ⟨_, rfl, _, _, _, [], _, [], hW', trodAll_mk1 (shut_bool Tryz.underlying4 _), (trodAll_cons_mk (shut_int Tryz.underlying54 w0) (trodAll_cons_mk (shut_int Tryz.underlying54 w1) trodAll_mk0)), rfl, bel.frame _, fun h => by cases h⟩

theorem outboxLapses_over : Rows.outboxLapsesRow.holds Tryz.pinned (OpenSpec.ofChange Rows.outboxLapsesSpec) :=
  OpenClaim.holds_of_wide 5 Tryz.f5 rfl rfl rfl rfl rfl rfl rfl ⟨rfl, rfl, rfl, rfl, rfl⟩ rfl rfl rfl rfl rfl (by kernel_rfl) Tryz.func5 (by kernel_rfl)
    (of_decide_eq_true (by kernel_rfl)) (by unfold Func.isWrapper; first | (rw [if_pos (by decide +kernel)]; kernel_rfl) | (rw [if_neg (by decide +kernel)]; exact ⟨rfl, rfl⟩))
    (fun os started H enc _ => outboxLapses_lifted os started H enc)

theorem outboxLapses_holds : Rows.OutboxLapsesSaid := outboxLapses_over
#print axioms outboxLapses_holds
end Go.Proofs.YtdkiopajilakcaaGreat
