/- Whatever a definition that may be, whatever step is put behind it: its tries and ticks are added once, twice if it may be undone; no condition. -/
import Derived.Test.YtojhehpbmgkbgaaBaseP1
import Derived.Test.YtojhehpbmgkbgaaBaseP2
import Derived.Maps.AppendAt
import Derived.Deep.CutBlock
import Derived.Deep.DeepCutAuto
import Derived.RegionTactic
import Derived.BigRegion
import Derived.Test.YtojhehpbmgkbgaaRows
import Derived.ProofKit
import Derived.OpenShut
import Derived.ShutString
import Derived.ChangeOld
/- PlanMeans. -/
namespace Go.Proofs.Ytojhehpbmgkbgaa
open Go.RowKit

theorem long_le {a : ByteArray} {l : List StepD} (h : longF a l = false) : l.length ≤ 40 := by
  unfold longF at h
  simp at h
  omega
section
variable {w : World}
set_option maxRecDepth 100000 in
set_option maxHeartbeats 8000000 in
theorem law_means {F G : Nat → Prop} {a1 : ByteArray} {v v2 : Value} {l : List StepD} {hs : List Bool} {k : Int} (hl : StepsAt F w v l) (hb : l.length ≤ 9223372036854775807) (hwf : ∀ s ∈ l, s.wf) (hh : BoolsAt G w v2 hs) (hhb : hs.length ≤ 9223372036854775807) (hk : I64 k) :
    Calls Try.prog 3 #[.agg #[.string a1, v], v2, .int .i64 k] w fun e w' => e = .returned (.bool true) ∧ Later w w' := by
  obtain ⟨A, c, rfl, _, _, _⟩ := FlatAt.shape hl
  obtain ⟨A2, cap2, rfl, _, _, _⟩ := FlatAt.shape hh
  obtain ⟨n, hn⟩ : ∃ n, l.length = n := ⟨_, rfl⟩
  obtain ⟨n2, hn2⟩ : ∃ n, hs.length = n := ⟨_, rfl⟩
  rw [hn] at hl ⊢
  rw [hn2] at hh hhb ⊢
  obtain ⟨W1, hW1⟩ : ∃ W1, W1 = w.alloc (.cells #[.string a1, .slice A n c] 24 (0, 0)) := ⟨_, rfl⟩
  obtain ⟨x, hx⟩ : ∃ x, x = w.heap.size := ⟨_, rfl⟩
  have L1 : Hid (Later w W1) := by rw [hW1]; exact (Below.refl _ _).alloc (Nat.le_refl _) _
  have X1 : Hid (DefBox x a1 (.slice A n c) W1) := by rw [hW1, hx]; exact heap_alloc_new w _
  have CLV : Hid (∀ W, Later W1 W → Calls Try.prog 7 #[] W fun e w' => e = .returned (.bool true) ∧ Later W w') := fun W h => lives_any
  have CL1 : Hid (∀ W, Later W1 W → Calls Try.prog 6 #[.agg #[.string a1, .slice A n c]] W fun e w' => e = .returned (.bool (longF a1 l)) ∧ Later W w') := fun W h => long_any (hl.kept (Kept.of_below (L1.out.trans h) _)) hb
  have SL : Hid (∀ W, Later W1 W → StepsAt F W (.slice A n c) l) := fun W h => hl.kept (Kept.of_below (L1.out.trans h) _)
  have SH : Hid (∀ W, Later W1 W → BoolsAt G W (.slice A2 n2 cap2) hs) := fun W h => hh.kept (Kept.of_below (L1.out.trans h) _)
  obtain ⟨q1, hq1⟩ : ∃ q, longF a1 l = q := ⟨_, rfl⟩
  rw [hq1] at CL1
  have HQ1 := hide hq1
  have HWF := hide hwf
  have HK := hide hk
  have HW1 := hide hW1.symm
  have HX := hide hx.symm
  clear hl hh hn hn2 hW1 hx hq1 hb hwf hk
  go_enter Try.func3, Try.ntmps3
  go_wp2_with (fail)
  simp only [HW1.out, HX.out]
  refine (CL1.out _ (Later.refl _)).mono ?_
  rintro e w2 ⟨rfl, hl2⟩
  have L2 := hide hl2
  have X2 := hide (X1.out.below hl2)
  clear hl2 CL1
  cases q1 with
  | true =>
    go_wp2_with (fail)
    refine (CLV.out _ L2.out).mono ?_
    rintro e w3 ⟨rfl, hl3⟩
    have L3 := hide (L1.out.trans (L2.out.trans hl3))
    clear hl3
    go_wp2_with (fail)
    go_ret
    exact ⟨rfl, L3.out⟩
  | false =>
    have HLE := hide (long_le HQ1.out)
    by_cases h100 : 100 < n2
    · have h100' : (100 : Int) < (n2 : Int) := by omega
      go_wp2_with (fail)
      refine (CLV.out _ L2.out).mono ?_
      rintro e w3 ⟨rfl, hl3⟩
      have L3 := hide (L1.out.trans (L2.out.trans hl3))
      clear hl3
      go_wp2_with (fail)
      go_ret
      exact ⟨rfl, L3.out⟩
    · have h100' : ¬ (100 : Int) < (n2 : Int) := by omega
      have LS0 := hide (L2.out.trans (Later.drew w2))
      have XS0 := hide (show w2.drew.heap[x]? = some (.cells #[.string a1, .slice A n c] 24 (0, 0)) from X2.out)
      have h1000 : l.length ≤ 1000 := Nat.le_trans HLE.out (by omega)
      have K1 : Hid (∀ W, Later W1 W → Calls Try.prog 8 #[.agg #[.string a1, .slice A n c]] W fun e w' => e = .returned (.int .i64 ((pivotN l : Nat) : Int)) ∧ Later W w') := fun W h => pivot_any (SL.out W h) h1000
      have K3 : Hid (∀ W, Later W1 W → Calls Try.prog 9 #[.agg #[.string a1, .slice A n c]] W fun e w' => e = .returned (.int .i64 ((pivotN l : Nat) : Int)) ∧ Later W w') := fun W h => rpivot_any (SL.out W h) h1000
      have K8 : Hid (∀ W, Later W1 W → Calls Try.prog 10 #[.agg #[.string a1, .slice A n c], .int .i64 k] W fun e w' => e = .returned (.int .i64 (triesN l k)) ∧ Later W w') := fun W h => Tries_any (SL.out W h) HK.out HWF.out
      have K11 : Hid (∀ W, Later W1 W → Calls Try.prog 11 #[.agg #[.string a1, .slice A n c], .int .i64 k] W fun e w' => e = .returned (.int .i64 (triesN l k)) ∧ Later W w') := fun W h => rTries_any (SL.out W h) HK.out HWF.out
      have K18 : Hid (∀ W, Later W1 W → Calls Try.prog 12 #[.agg #[.string a1, .slice A n c], .slice A2 n2 cap2, .int .i64 k] W fun e w' => e = .returned (.int .i64 ((downF l hs k : Nat) : Int)) ∧ Later W w') := fun W h => Down_any (SL.out W h) h1000 (SH.out W h) HK.out
      have K22 : Hid (∀ W, Later W1 W → Calls Try.prog 13 #[.agg #[.string a1, .slice A n c], .slice A2 n2 cap2, .int .i64 k] W fun e w' => e = .returned (.int .i64 ((downF l hs k : Nat) : Int)) ∧ Later W w') := fun W h => rDown_any (SL.out W h) h1000 (SH.out W h) HK.out
      have K28 : Hid (∀ W, Later W1 W → Calls Try.prog 14 #[.agg #[.string a1, .slice A n c], .slice A2 n2 cap2] W fun e w' => e = .returned (.bool (sealedF l hs)) ∧ Later W w') := fun W h => sealed_any (SL.out W h) h1000 (SH.out W h)
      have K31 : Hid (∀ W, Later W1 W → Calls Try.prog 15 #[.agg #[.string a1, .slice A n c], .slice A2 n2 cap2] W fun e w' => e = .returned (.bool (sealedF l hs)) ∧ Later W w') := fun W h => rsealed_any (SL.out W h) h1000 (SH.out W h)
      have K36 : Hid (∀ W, Later W1 W → Calls Try.prog 16 #[.agg #[.string a1, .slice A n c]] W fun e w' => e = .returned (.int .i64 (sumF ticksF a1 l)) ∧ Later W w') := fun W h => longest_any (SL.out W h)
      have K38 : Hid (∀ W, Later W1 W → Calls Try.prog 17 #[.agg #[.string a1, .slice A n c]] W fun e w' => e = .returned (.int .i64 (sumF ticksF a1 l)) ∧ Later W w') := fun W h => rlongest_any (SL.out W h) HWF.out
      have K43 : Hid (∀ W, Later W1 W → Calls Try.prog 18 #[.agg #[.string a1, .slice A n c]] W fun e w' => e = .returned (.int .i64 (sumF triesF a1 l)) ∧ Later W w') := fun W h => commands_any (SL.out W h)
      have K45 : Hid (∀ W, Later W1 W → Calls Try.prog 19 #[.agg #[.string a1, .slice A n c]] W fun e w' => e = .returned (.int .i64 (sumF triesF a1 l)) ∧ Later W w') := fun W h => rcommands_any (SL.out W h) HWF.out
      obtain ⟨P1, hP1⟩ : ∃ P : Nat, pivotN l = P := ⟨_, rfl⟩
      obtain ⟨P2, hP2⟩ : ∃ P, triesN l k = P := ⟨_, rfl⟩
      obtain ⟨P3, hP3⟩ : ∃ P : Nat, downF l hs k = P := ⟨_, rfl⟩
      obtain ⟨P4, hP4⟩ : ∃ P, sealedF l hs = P := ⟨_, rfl⟩
      obtain ⟨P5, hP5⟩ : ∃ P, sumF ticksF a1 l = P := ⟨_, rfl⟩
      obtain ⟨P6, hP6⟩ : ∃ P, sumF triesF a1 l = P := ⟨_, rfl⟩
      rw [hP1] at K1 K3
      rw [hP2] at K8 K11
      rw [hP3] at K18 K22
      rw [hP4] at K28 K31
      rw [hP5] at K36 K38
      rw [hP6] at K43 K45
      have K49 := CLV
      clear hP1 hP2 hP3 hP4 hP5 hP6 h1000 CLV
      go_wp2_with (fail)
      refine wp_region_L (by kernel_rfl) ?_
      refine wpAnyL_take (i := 0) (d := some 15) (v := .agg #[.string a1, .slice A n c]) rfl rfl (by kernel_rfl) (by kernel_rfl) (by kernel_rfl) (fun _ _ _ h => h) (by rfl) ?yas0 ?_
      case yas0 => (intro w' hw'; exact exec_load_box 24 _ (by rfl) x 0 (by rfl) 24 _ ((Below.block hw' x (lt_of_block XS0.out)).trans XS0.out) 2 _ Try.underlying24 (by rfl) (by kernel_rfl) [.string a1, .slice A n c] (by rfl) (by rfl))
      simp only [Act.put]; try simp only [List.setIfInBounds_toArray]; try simp only [List.set_cons_zero, List.set_cons_succ]
      refine wpAnyL_take (i := 2) (d := some 17) (v := .agg #[.string a1, .slice A n c]) rfl rfl (by kernel_rfl) (by kernel_rfl) (by kernel_rfl) (fun _ _ _ h => h) (by rfl) ?yas2 ?_
      case yas2 => (intro w' hw'; exact exec_load_box 24 _ (by rfl) x 0 (by rfl) 24 _ ((Below.block hw' x (lt_of_block XS0.out)).trans XS0.out) 2 _ Try.underlying24 (by rfl) (by kernel_rfl) [.string a1, .slice A n c] (by rfl) (by rfl))
      simp only [Act.put]; try simp only [List.setIfInBounds_toArray]; try simp only [List.set_cons_zero, List.set_cons_succ]
      refine wpAnyL_only (i := 1) rfl (by kernel_rfl) (by rfl) fun K hK => ?_
      go_simp
      refine (K1.out _ LS0.out).mono ?_
      rintro e w_1 ⟨rfl, hl_⟩
      have LS1 := hide (LS0.out.trans hl_)
      have XS1 := hide ((Below.block hl_ x (lt_of_block XS0.out)).trans XS0.out)
      refine hK.out _ _ hl_ ?_
      clear hl_
      clear hK K
      try (simp only [Act.put]; try simp only [List.setIfInBounds_toArray]; try simp only [List.set_cons_zero, List.set_cons_succ])
      refine wpAnyL_only (i := 3) rfl (by kernel_rfl) (by rfl) fun K hK => ?_
      go_simp
      refine (K3.out _ LS1.out).mono ?_
      rintro e w_3 ⟨rfl, hl_⟩
      have LS3 := hide (LS1.out.trans hl_)
      have XS3 := hide ((Below.block hl_ x (lt_of_block XS1.out)).trans XS1.out)
      refine hK.out _ _ hl_ ?_
      clear hl_
      clear hK K
      try (simp only [Act.put]; try simp only [List.setIfInBounds_toArray]; try simp only [List.set_cons_zero, List.set_cons_succ])
      refine wpAnyL_take (i := 4) (d := some 19) (v := ?vas4) rfl rfl (by kernel_rfl) (by kernel_rfl) (by kernel_rfl) (fun _ _ _ h => h) (by rfl) ?yas4 ?_
      case yas4 => (intro w' hw'; go_simp; try (with_reducible rfl))
      simp only [Act.put]; try simp only [List.setIfInBounds_toArray]; try simp only [List.set_cons_zero, List.set_cons_succ]
      refine wpAnyL_take (i := 5) (d := some 20) (v := ?vas5) rfl rfl (by kernel_rfl) (by kernel_rfl) (by kernel_rfl) (fun _ _ _ h => h) (by rfl) ?yas5 ?_
      case yas5 => (intro w' hw'; go_simp; try (with_reducible rfl))
      simp only [Act.put]; try simp only [List.setIfInBounds_toArray]; try simp only [List.set_cons_zero, List.set_cons_succ]
      refine wpAnyL_take (i := 6) (d := some 21) (v := .agg #[.string a1, .slice A n c]) rfl rfl (by kernel_rfl) (by kernel_rfl) (by kernel_rfl) (fun _ _ _ h => h) (by rfl) ?yas6 ?_
      case yas6 => (intro w' hw'; exact exec_load_box 24 _ (by rfl) x 0 (by rfl) 24 _ ((Below.block hw' x (lt_of_block XS3.out)).trans XS3.out) 2 _ Try.underlying24 (by rfl) (by kernel_rfl) [.string a1, .slice A n c] (by rfl) (by rfl))
      simp only [Act.put]; try simp only [List.setIfInBounds_toArray]; try simp only [List.set_cons_zero, List.set_cons_succ]
      refine wpAnyL_take (i := 7) (d := some 22) (v := ?vas7) rfl rfl (by kernel_rfl) (by kernel_rfl) (by kernel_rfl) (fun _ _ _ h => h) (by rfl) ?yas7 ?_
      case yas7 => (intro w' hw'; go_simp; try (with_reducible rfl))
      simp only [Act.put]; try simp only [List.setIfInBounds_toArray]; try simp only [List.set_cons_zero, List.set_cons_succ]
      refine wpAnyL_take (i := 9) (d := some 24) (v := .agg #[.string a1, .slice A n c]) rfl rfl (by kernel_rfl) (by kernel_rfl) (by kernel_rfl) (fun _ _ _ h => h) (by rfl) ?yas9 ?_
      case yas9 => (intro w' hw'; exact exec_load_box 24 _ (by rfl) x 0 (by rfl) 24 _ ((Below.block hw' x (lt_of_block XS3.out)).trans XS3.out) 2 _ Try.underlying24 (by rfl) (by kernel_rfl) [.string a1, .slice A n c] (by rfl) (by rfl))
      simp only [Act.put]; try simp only [List.setIfInBounds_toArray]; try simp only [List.set_cons_zero, List.set_cons_succ]
      refine wpAnyL_take (i := 10) (d := some 25) (v := ?vas10) rfl rfl (by kernel_rfl) (by kernel_rfl) (by kernel_rfl) (fun _ _ _ h => h) (by rfl) ?yas10 ?_
      case yas10 => (intro w' hw'; go_simp; try (with_reducible rfl))
      simp only [Act.put]; try simp only [List.setIfInBounds_toArray]; try simp only [List.set_cons_zero, List.set_cons_succ]
      refine wpAnyL_only (i := 8) rfl (by kernel_rfl) (by rfl) fun K hK => ?_
      go_simp
      refine (K8.out _ LS3.out).mono ?_
      rintro e w_8 ⟨rfl, hl_⟩
      have LS8 := hide (LS3.out.trans hl_)
      have XS8 := hide ((Below.block hl_ x (lt_of_block XS3.out)).trans XS3.out)
      refine hK.out _ _ hl_ ?_
      clear hl_
      clear hK K
      try (simp only [Act.put]; try simp only [List.setIfInBounds_toArray]; try simp only [List.set_cons_zero, List.set_cons_succ])
      refine wpAnyL_only (i := 11) rfl (by kernel_rfl) (by rfl) fun K hK => ?_
      go_simp
      refine (K11.out _ LS8.out).mono ?_
      rintro e w_11 ⟨rfl, hl_⟩
      have LS11 := hide (LS8.out.trans hl_)
      have XS11 := hide ((Below.block hl_ x (lt_of_block XS8.out)).trans XS8.out)
      refine hK.out _ _ hl_ ?_
      clear hl_
      clear hK K
      try (simp only [Act.put]; try simp only [List.setIfInBounds_toArray]; try simp only [List.set_cons_zero, List.set_cons_succ])
      refine wpAnyL_take (i := 12) (d := some 27) (v := ?vas12) rfl rfl (by kernel_rfl) (by kernel_rfl) (by kernel_rfl) (fun _ _ _ h => h) (by rfl) ?yas12 ?_
      case yas12 => (intro w' hw'; go_simp; try (with_reducible rfl))
      simp only [Act.put]; try simp only [List.setIfInBounds_toArray]; try simp only [List.set_cons_zero, List.set_cons_succ]
      refine wpAnyL_take (i := 13) (d := some 28) (v := ?vas13) rfl rfl (by kernel_rfl) (by kernel_rfl) (by kernel_rfl) (fun _ _ _ h => h) (by rfl) ?yas13 ?_
      case yas13 => (intro w' hw'; go_simp; try (with_reducible rfl))
      simp only [Act.put]; try simp only [List.setIfInBounds_toArray]; try simp only [List.set_cons_zero, List.set_cons_succ]
      refine wpAnyL_take (i := 14) (d := some 29) (v := ?vas14) rfl rfl (by kernel_rfl) (by kernel_rfl) (by kernel_rfl) (fun _ _ _ h => h) (by rfl) ?yas14 ?_
      case yas14 => (intro w' hw'; go_simp; try (with_reducible rfl))
      simp only [Act.put]; try simp only [List.setIfInBounds_toArray]; try simp only [List.set_cons_zero, List.set_cons_succ]
      refine wpAnyL_take (i := 15) (d := some 30) (v := .agg #[.string a1, .slice A n c]) rfl rfl (by kernel_rfl) (by kernel_rfl) (by kernel_rfl) (fun _ _ _ h => h) (by rfl) ?yas15 ?_
      case yas15 => (intro w' hw'; exact exec_load_box 24 _ (by rfl) x 0 (by rfl) 24 _ ((Below.block hw' x (lt_of_block XS11.out)).trans XS11.out) 2 _ Try.underlying24 (by rfl) (by kernel_rfl) [.string a1, .slice A n c] (by rfl) (by rfl))
      simp only [Act.put]; try simp only [List.setIfInBounds_toArray]; try simp only [List.set_cons_zero, List.set_cons_succ]
      refine wpAnyL_take (i := 16) (d := some 31) (v := ?vas16) rfl rfl (by kernel_rfl) (by kernel_rfl) (by kernel_rfl) (fun _ _ _ h => h) (by rfl) ?yas16 ?_
      case yas16 => (intro w' hw'; go_simp; try (with_reducible rfl))
      simp only [Act.put]; try simp only [List.setIfInBounds_toArray]; try simp only [List.set_cons_zero, List.set_cons_succ]
      refine wpAnyL_take (i := 17) (d := some 32) (v := ?vas17) rfl rfl (by kernel_rfl) (by kernel_rfl) (by kernel_rfl) (fun _ _ _ h => h) (by rfl) ?yas17 ?_
      case yas17 => (intro w' hw'; go_simp; try (with_reducible rfl))
      simp only [Act.put]; try simp only [List.setIfInBounds_toArray]; try simp only [List.set_cons_zero, List.set_cons_succ]
      refine wpAnyL_take (i := 19) (d := some 34) (v := .agg #[.string a1, .slice A n c]) rfl rfl (by kernel_rfl) (by kernel_rfl) (by kernel_rfl) (fun _ _ _ h => h) (by rfl) ?yas19 ?_
      case yas19 => (intro w' hw'; exact exec_load_box 24 _ (by rfl) x 0 (by rfl) 24 _ ((Below.block hw' x (lt_of_block XS11.out)).trans XS11.out) 2 _ Try.underlying24 (by rfl) (by kernel_rfl) [.string a1, .slice A n c] (by rfl) (by rfl))
      simp only [Act.put]; try simp only [List.setIfInBounds_toArray]; try simp only [List.set_cons_zero, List.set_cons_succ]
      refine wpAnyL_take (i := 20) (d := some 35) (v := ?vas20) rfl rfl (by kernel_rfl) (by kernel_rfl) (by kernel_rfl) (fun _ _ _ h => h) (by rfl) ?yas20 ?_
      case yas20 => (intro w' hw'; go_simp; try (with_reducible rfl))
      simp only [Act.put]; try simp only [List.setIfInBounds_toArray]; try simp only [List.set_cons_zero, List.set_cons_succ]
      refine wpAnyL_take (i := 21) (d := some 36) (v := ?vas21) rfl rfl (by kernel_rfl) (by kernel_rfl) (by kernel_rfl) (fun _ _ _ h => h) (by rfl) ?yas21 ?_
      case yas21 => (intro w' hw'; go_simp; try (with_reducible rfl))
      simp only [Act.put]; try simp only [List.setIfInBounds_toArray]; try simp only [List.set_cons_zero, List.set_cons_succ]
      refine wpAnyL_only (i := 18) rfl (by kernel_rfl) (by rfl) fun K hK => ?_
      go_simp
      refine (K18.out _ LS11.out).mono ?_
      rintro e w_18 ⟨rfl, hl_⟩
      have LS18 := hide (LS11.out.trans hl_)
      have XS18 := hide ((Below.block hl_ x (lt_of_block XS11.out)).trans XS11.out)
      refine hK.out _ _ hl_ ?_
      clear hl_
      clear hK K
      try (simp only [Act.put]; try simp only [List.setIfInBounds_toArray]; try simp only [List.set_cons_zero, List.set_cons_succ])
      refine wpAnyL_only (i := 22) rfl (by kernel_rfl) (by rfl) fun K hK => ?_
      go_simp
      refine (K22.out _ LS18.out).mono ?_
      rintro e w_22 ⟨rfl, hl_⟩
      have LS22 := hide (LS18.out.trans hl_)
      have XS22 := hide ((Below.block hl_ x (lt_of_block XS18.out)).trans XS18.out)
      refine hK.out _ _ hl_ ?_
      clear hl_
      clear hK K
      try (simp only [Act.put]; try simp only [List.setIfInBounds_toArray]; try simp only [List.set_cons_zero, List.set_cons_succ])
      refine wpAnyL_take (i := 23) (d := some 38) (v := ?vas23) rfl rfl (by kernel_rfl) (by kernel_rfl) (by kernel_rfl) (fun _ _ _ h => h) (by rfl) ?yas23 ?_
      case yas23 => (intro w' hw'; go_simp; try (with_reducible rfl))
      simp only [Act.put]; try simp only [List.setIfInBounds_toArray]; try simp only [List.set_cons_zero, List.set_cons_succ]
      refine wpAnyL_take (i := 24) (d := some 39) (v := ?vas24) rfl rfl (by kernel_rfl) (by kernel_rfl) (by kernel_rfl) (fun _ _ _ h => h) (by rfl) ?yas24 ?_
      case yas24 => (intro w' hw'; go_simp; try (with_reducible rfl))
      simp only [Act.put]; try simp only [List.setIfInBounds_toArray]; try simp only [List.set_cons_zero, List.set_cons_succ]
      refine wpAnyL_take (i := 25) (d := some 40) (v := ?vas25) rfl rfl (by kernel_rfl) (by kernel_rfl) (by kernel_rfl) (fun _ _ _ h => h) (by rfl) ?yas25 ?_
      case yas25 => (intro w' hw'; go_simp; try (with_reducible rfl))
      simp only [Act.put]; try simp only [List.setIfInBounds_toArray]; try simp only [List.set_cons_zero, List.set_cons_succ]
      refine wpAnyL_take (i := 26) (d := some 41) (v := .agg #[.string a1, .slice A n c]) rfl rfl (by kernel_rfl) (by kernel_rfl) (by kernel_rfl) (fun _ _ _ h => h) (by rfl) ?yas26 ?_
      case yas26 => (intro w' hw'; exact exec_load_box 24 _ (by rfl) x 0 (by rfl) 24 _ ((Below.block hw' x (lt_of_block XS22.out)).trans XS22.out) 2 _ Try.underlying24 (by rfl) (by kernel_rfl) [.string a1, .slice A n c] (by rfl) (by rfl))
      simp only [Act.put]; try simp only [List.setIfInBounds_toArray]; try simp only [List.set_cons_zero, List.set_cons_succ]
      refine wpAnyL_take (i := 27) (d := some 42) (v := ?vas27) rfl rfl (by kernel_rfl) (by kernel_rfl) (by kernel_rfl) (fun _ _ _ h => h) (by rfl) ?yas27 ?_
      case yas27 => (intro w' hw'; go_simp; try (with_reducible rfl))
      simp only [Act.put]; try simp only [List.setIfInBounds_toArray]; try simp only [List.set_cons_zero, List.set_cons_succ]
      refine wpAnyL_take (i := 29) (d := some 44) (v := .agg #[.string a1, .slice A n c]) rfl rfl (by kernel_rfl) (by kernel_rfl) (by kernel_rfl) (fun _ _ _ h => h) (by rfl) ?yas29 ?_
      case yas29 => (intro w' hw'; exact exec_load_box 24 _ (by rfl) x 0 (by rfl) 24 _ ((Below.block hw' x (lt_of_block XS22.out)).trans XS22.out) 2 _ Try.underlying24 (by rfl) (by kernel_rfl) [.string a1, .slice A n c] (by rfl) (by rfl))
      simp only [Act.put]; try simp only [List.setIfInBounds_toArray]; try simp only [List.set_cons_zero, List.set_cons_succ]
      refine wpAnyL_take (i := 30) (d := some 45) (v := ?vas30) rfl rfl (by kernel_rfl) (by kernel_rfl) (by kernel_rfl) (fun _ _ _ h => h) (by rfl) ?yas30 ?_
      case yas30 => (intro w' hw'; go_simp; try (with_reducible rfl))
      simp only [Act.put]; try simp only [List.setIfInBounds_toArray]; try simp only [List.set_cons_zero, List.set_cons_succ]
      refine wpAnyL_only (i := 28) rfl (by kernel_rfl) (by rfl) fun K hK => ?_
      go_simp
      refine (K28.out _ LS22.out).mono ?_
      rintro e w_28 ⟨rfl, hl_⟩
      have LS28 := hide (LS22.out.trans hl_)
      have XS28 := hide ((Below.block hl_ x (lt_of_block XS22.out)).trans XS22.out)
      refine hK.out _ _ hl_ ?_
      clear hl_
      clear hK K
      try (simp only [Act.put]; try simp only [List.setIfInBounds_toArray]; try simp only [List.set_cons_zero, List.set_cons_succ])
      refine wpAnyL_only (i := 31) rfl (by kernel_rfl) (by rfl) fun K hK => ?_
      go_simp
      refine (K31.out _ LS28.out).mono ?_
      rintro e w_31 ⟨rfl, hl_⟩
      have LS31 := hide (LS28.out.trans hl_)
      have XS31 := hide ((Below.block hl_ x (lt_of_block XS28.out)).trans XS28.out)
      refine hK.out _ _ hl_ ?_
      clear hl_
      clear hK K
      try (simp only [Act.put]; try simp only [List.setIfInBounds_toArray]; try simp only [List.set_cons_zero, List.set_cons_succ])
      refine wpAnyL_take (i := 32) (d := some 47) (v := ?vas32) rfl rfl (by kernel_rfl) (by kernel_rfl) (by kernel_rfl) (fun _ _ _ h => h) (by rfl) ?yas32 ?_
      case yas32 => (intro w' hw'; go_simp; try (with_reducible rfl))
      simp only [Act.put]; try simp only [List.setIfInBounds_toArray]; try simp only [List.set_cons_zero, List.set_cons_succ]
      refine wpAnyL_take (i := 33) (d := some 48) (v := ?vas33) rfl rfl (by kernel_rfl) (by kernel_rfl) (by kernel_rfl) (fun _ _ _ h => h) (by rfl) ?yas33 ?_
      case yas33 => (intro w' hw'; go_simp; try (with_reducible rfl))
      simp only [Act.put]; try simp only [List.setIfInBounds_toArray]; try simp only [List.set_cons_zero, List.set_cons_succ]
      refine wpAnyL_take (i := 34) (d := some 49) (v := ?vas34) rfl rfl (by kernel_rfl) (by kernel_rfl) (by kernel_rfl) (fun _ _ _ h => h) (by rfl) ?yas34 ?_
      case yas34 => (intro w' hw'; go_simp; try (with_reducible rfl))
      simp only [Act.put]; try simp only [List.setIfInBounds_toArray]; try simp only [List.set_cons_zero, List.set_cons_succ]
      refine wpAnyL_take (i := 35) (d := some 50) (v := .agg #[.string a1, .slice A n c]) rfl rfl (by kernel_rfl) (by kernel_rfl) (by kernel_rfl) (fun _ _ _ h => h) (by rfl) ?yas35 ?_
      case yas35 => (intro w' hw'; exact exec_load_box 24 _ (by rfl) x 0 (by rfl) 24 _ ((Below.block hw' x (lt_of_block XS31.out)).trans XS31.out) 2 _ Try.underlying24 (by rfl) (by kernel_rfl) [.string a1, .slice A n c] (by rfl) (by rfl))
      simp only [Act.put]; try simp only [List.setIfInBounds_toArray]; try simp only [List.set_cons_zero, List.set_cons_succ]
      refine wpAnyL_take (i := 37) (d := some 52) (v := .agg #[.string a1, .slice A n c]) rfl rfl (by kernel_rfl) (by kernel_rfl) (by kernel_rfl) (fun _ _ _ h => h) (by rfl) ?yas37 ?_
      case yas37 => (intro w' hw'; exact exec_load_box 24 _ (by rfl) x 0 (by rfl) 24 _ ((Below.block hw' x (lt_of_block XS31.out)).trans XS31.out) 2 _ Try.underlying24 (by rfl) (by kernel_rfl) [.string a1, .slice A n c] (by rfl) (by rfl))
      simp only [Act.put]; try simp only [List.setIfInBounds_toArray]; try simp only [List.set_cons_zero, List.set_cons_succ]
      refine wpAnyL_only (i := 36) rfl (by kernel_rfl) (by rfl) fun K hK => ?_
      go_simp
      refine (K36.out _ LS31.out).mono ?_
      rintro e w_36 ⟨rfl, hl_⟩
      have LS36 := hide (LS31.out.trans hl_)
      have XS36 := hide ((Below.block hl_ x (lt_of_block XS31.out)).trans XS31.out)
      refine hK.out _ _ hl_ ?_
      clear hl_
      clear hK K
      try (simp only [Act.put]; try simp only [List.setIfInBounds_toArray]; try simp only [List.set_cons_zero, List.set_cons_succ])
      refine wpAnyL_only (i := 38) rfl (by kernel_rfl) (by rfl) fun K hK => ?_
      go_simp
      refine (K38.out _ LS36.out).mono ?_
      rintro e w_38 ⟨rfl, hl_⟩
      have LS38 := hide (LS36.out.trans hl_)
      have XS38 := hide ((Below.block hl_ x (lt_of_block XS36.out)).trans XS36.out)
      refine hK.out _ _ hl_ ?_
      clear hl_
      clear hK K
      try (simp only [Act.put]; try simp only [List.setIfInBounds_toArray]; try simp only [List.set_cons_zero, List.set_cons_succ])
      refine wpAnyL_take (i := 39) (d := some 54) (v := ?vas39) rfl rfl (by kernel_rfl) (by kernel_rfl) (by kernel_rfl) (fun _ _ _ h => h) (by rfl) ?yas39 ?_
      case yas39 => (intro w' hw'; go_simp; try (with_reducible rfl))
      simp only [Act.put]; try simp only [List.setIfInBounds_toArray]; try simp only [List.set_cons_zero, List.set_cons_succ]
      refine wpAnyL_take (i := 40) (d := some 55) (v := ?vas40) rfl rfl (by kernel_rfl) (by kernel_rfl) (by kernel_rfl) (fun _ _ _ h => h) (by rfl) ?yas40 ?_
      case yas40 => (intro w' hw'; go_simp; try (with_reducible rfl))
      simp only [Act.put]; try simp only [List.setIfInBounds_toArray]; try simp only [List.set_cons_zero, List.set_cons_succ]
      refine wpAnyL_take (i := 41) (d := some 56) (v := ?vas41) rfl rfl (by kernel_rfl) (by kernel_rfl) (by kernel_rfl) (fun _ _ _ h => h) (by rfl) ?yas41 ?_
      case yas41 => (intro w' hw'; go_simp; try (with_reducible rfl))
      simp only [Act.put]; try simp only [List.setIfInBounds_toArray]; try simp only [List.set_cons_zero, List.set_cons_succ]
      refine wpAnyL_take (i := 42) (d := some 57) (v := .agg #[.string a1, .slice A n c]) rfl rfl (by kernel_rfl) (by kernel_rfl) (by kernel_rfl) (fun _ _ _ h => h) (by rfl) ?yas42 ?_
      case yas42 => (intro w' hw'; exact exec_load_box 24 _ (by rfl) x 0 (by rfl) 24 _ ((Below.block hw' x (lt_of_block XS38.out)).trans XS38.out) 2 _ Try.underlying24 (by rfl) (by kernel_rfl) [.string a1, .slice A n c] (by rfl) (by rfl))
      simp only [Act.put]; try simp only [List.setIfInBounds_toArray]; try simp only [List.set_cons_zero, List.set_cons_succ]
      refine wpAnyL_take (i := 44) (d := some 59) (v := .agg #[.string a1, .slice A n c]) rfl rfl (by kernel_rfl) (by kernel_rfl) (by kernel_rfl) (fun _ _ _ h => h) (by rfl) ?yas44 ?_
      case yas44 => (intro w' hw'; exact exec_load_box 24 _ (by rfl) x 0 (by rfl) 24 _ ((Below.block hw' x (lt_of_block XS38.out)).trans XS38.out) 2 _ Try.underlying24 (by rfl) (by kernel_rfl) [.string a1, .slice A n c] (by rfl) (by rfl))
      simp only [Act.put]; try simp only [List.setIfInBounds_toArray]; try simp only [List.set_cons_zero, List.set_cons_succ]
      refine wpAnyL_only (i := 43) rfl (by kernel_rfl) (by rfl) fun K hK => ?_
      go_simp
      refine (K43.out _ LS38.out).mono ?_
      rintro e w_43 ⟨rfl, hl_⟩
      have LS43 := hide (LS38.out.trans hl_)
      have XS43 := hide ((Below.block hl_ x (lt_of_block XS38.out)).trans XS38.out)
      refine hK.out _ _ hl_ ?_
      clear hl_
      clear hK K
      try (simp only [Act.put]; try simp only [List.setIfInBounds_toArray]; try simp only [List.set_cons_zero, List.set_cons_succ])
      refine wpAnyL_only (i := 45) rfl (by kernel_rfl) (by rfl) fun K hK => ?_
      go_simp
      refine (K45.out _ LS43.out).mono ?_
      rintro e w_45 ⟨rfl, hl_⟩
      have LS45 := hide (LS43.out.trans hl_)
      have XS45 := hide ((Below.block hl_ x (lt_of_block XS43.out)).trans XS43.out)
      refine hK.out _ _ hl_ ?_
      clear hl_
      clear hK K
      try (simp only [Act.put]; try simp only [List.setIfInBounds_toArray]; try simp only [List.set_cons_zero, List.set_cons_succ])
      refine wpAnyL_take (i := 46) (d := some 61) (v := ?vas46) rfl rfl (by kernel_rfl) (by kernel_rfl) (by kernel_rfl) (fun _ _ _ h => h) (by rfl) ?yas46 ?_
      case yas46 => (intro w' hw'; go_simp; try (with_reducible rfl))
      simp only [Act.put]; try simp only [List.setIfInBounds_toArray]; try simp only [List.set_cons_zero, List.set_cons_succ]
      refine wpAnyL_take (i := 47) (d := some 62) (v := ?vas47) rfl rfl (by kernel_rfl) (by kernel_rfl) (by kernel_rfl) (fun _ _ _ h => h) (by rfl) ?yas47 ?_
      case yas47 => (intro w' hw'; go_simp; try (with_reducible rfl))
      simp only [Act.put]; try simp only [List.setIfInBounds_toArray]; try simp only [List.set_cons_zero, List.set_cons_succ]
      refine wpAnyL_take (i := 48) (d := some 63) (v := ?vas48) rfl rfl (by kernel_rfl) (by kernel_rfl) (by kernel_rfl) (fun _ _ _ h => h) (by rfl) ?yas48 ?_
      case yas48 => (intro w' hw'; go_simp; try (with_reducible rfl))
      simp only [Act.put]; try simp only [List.setIfInBounds_toArray]; try simp only [List.set_cons_zero, List.set_cons_succ]
      refine wpAnyL_only (i := 49) rfl (by kernel_rfl) (by rfl) fun K hK => ?_
      go_simp
      refine (K49.out _ LS45.out).mono ?_
      rintro e w_49 ⟨rfl, hl_⟩
      have LS49 := hide (LS45.out.trans hl_)
      have XS49 := hide ((Below.block hl_ x (lt_of_block XS45.out)).trans XS45.out)
      refine hK.out _ _ hl_ ?_
      clear hl_
      clear hK K
      try (simp only [Act.put]; try simp only [List.setIfInBounds_toArray]; try simp only [List.set_cons_zero, List.set_cons_succ])
      refine wpAnyL_take (i := 50) (d := some 65) (v := ?vas50) rfl rfl (by kernel_rfl) (by kernel_rfl) (by kernel_rfl) (fun _ _ _ h => h) (by rfl) ?yas50 ?_
      case yas50 => (intro w' hw'; go_simp; try (with_reducible rfl))
      simp only [Act.put]; try simp only [List.setIfInBounds_toArray]; try simp only [List.set_cons_zero, List.set_cons_succ]
      refine wpAnyL_take (i := 51) (d := some 6) (v := ?vas51) rfl rfl (by kernel_rfl) (by kernel_rfl) (by kernel_rfl) (fun _ _ _ h => h) (by rfl) ?yas51 ?_
      case yas51 => (intro w' hw'; go_simp; try (with_reducible rfl))
      simp only [Act.put]; try simp only [List.setIfInBounds_toArray]; try simp only [List.set_cons_zero, List.set_cons_succ]
      refine wpAnyL_done (by kernel_rfl) ?_ _
      go_wp2_with (fail)
      go_ret
      exact ⟨rfl, L1.out.trans LS49.out⟩
end
end Go.Proofs.Ytojhehpbmgkbgaa
/- A region whose order is open, of calls that turn but one part of memory beside operations that read another: as text Order, over whatever relation of worlds. -/
namespace Go.Proofs.Ytojhehpbmgkbgaa
open Go.RowKit

/-- A relation of worlds that goes on. -/
def Pre (R : World → World → Prop) : Prop := (∀ w, R w w) ∧ ∀ {a b c : World}, R a b → R b c → R a c
theorem pre_grown (r : Option Nat) : Pre (fun a b => a.grownBy b r) := ⟨fun w => World.grownBy.refl w r, fun h k => h.trans k⟩

section
variable {P : Program} {ops : Array Oper} {Q : Exit → Act → World → Prop} {md : Region.Mode} {R : World → World → Prop}

/-- Whatever order is picked from here on, and behind each operation the world is a later one. -/
def wpAnyR (R : World → World → Prop) (P : Program) (md : Region.Mode) (ops : Array Oper) (Q : Exit → Act → World → Prop) : Nat → Array Bool → Act → World → Prop
  | 0, listed, a, w => Region.ready md ops listed = [] ∧ Q .normal a w
  | fuel + 1, listed, a, w =>
    (Region.ready md ops listed = [] → Q .normal a w) ∧
    ∀ i ∈ Region.ready md ops listed, wpOp P ops Q i (fun a' w' => R w w' ∧ wpAnyR R P md ops Q fuel (listed.setIfInBounds i true) a' w') a w

theorem wpAny_of_R : ∀ (fuel : Nat) (listed : Array Bool) (a : Act) (w : World), wpAnyR R P md ops Q fuel listed a w → wpAny P md ops Q fuel listed a w
  | 0, _, _, _, h => h
  | fuel + 1, _, _, _, h => ⟨h.1, fun i hi => wpOp_mono (fun a' w' h' => wpAny_of_R fuel _ a' w' h'.2) (h.2 i hi)⟩

/-- What yields its value in all later worlds does so in those that are later than a later one. -/
theorem yields_rel {o : Oper} {v : Value} {a : Act} {w w' : World} (h : YieldsIf P ops (R w) o v a) (hR : Pre R) (hl : R w w') : YieldsIf P ops (R w') o v a :=
  h.imp (fun ⟨hw, hv⟩ => ⟨hw, fun u hu => hv u (hR.2 hl hu)⟩) id

/-- Such an operation, if it may come up, may come up at once. -/
theorem wpAnyR_first (hR : Pre R) {i : Nat} {oi : Oper} {v : Value} (hi : ops[i]? = some oi) (hsel : ∀ (j : Nat) (o : Oper) cs b, ops[j]? = some o → o.op ≠ .select cs b)
    (hQ : ∀ c a w, Q (.panic c) (a.put oi.dst v) w → Q (.panic c) a w) :
    ∀ (fuel : Nat) (listed : Array Bool) (a : Act) (w : World),
      (∀ j oj, ops[j]? = some oj → j ≠ i → listed.getD j true = false → (∀ e ∈ oj.after, Region.binds md e = true → e.on ≠ i) → oi.apart ops oj = true) →
      i ∈ Region.ready md ops listed → YieldsIf P ops (R w) oi v a →
      wpAnyR R P md ops Q fuel (listed.setIfInBounds i true) (a.put oi.dst v) w → wpAnyR R P md ops Q (fuel + 1) listed a w := by
  intro fuel
  induction fuel with
  | zero =>
    intro listed a w _ hr hy H
    refine ⟨fun h => (by rw [h] at hr; cases hr), fun j hj => ?_⟩
    by_cases hji : j = i
    · subst hji
      exact hy.wpOp hi (hR.1 w) ⟨hR.1 w, H⟩
    · have := ready_mono hj hji
      rw [H.1] at this
      cases this
  | succ fuel ih =>
    intro listed a w hfree hr hy H
    refine ⟨fun h => (by rw [h] at hr; cases hr), fun j hj => ?_⟩
    by_cases hji : j = i
    · subst hji
      exact hy.wpOp hi (hR.1 w) ⟨hR.1 w, H⟩
    · have h1 := H.2 j (ready_mono hj hji)
      obtain ⟨hjun, oj, hoj, hall⟩ := mem_ready.1 hj
      have hnot : ∀ e ∈ oj.after, Region.binds md e = true → e.on ≠ i := fun e he hb heq => by
        have q1 := hall e he hb
        have q0 := (mem_ready.1 hr).1
        rw [heq] at q1
        rcases Nat.lt_or_ge i listed.size with h' | h'
        · simp [h'] at q0 q1
          rw [q0] at q1
          cases q1
        · simp [Array.getElem?_eq_none h'] at q1
      have h2 := wpOp_putIf hoj (hfree j oj hoj hji hjun hnot) (fun cs b => hsel i oi cs b hi) (fun cs b => hsel j oj cs b hoj) hQ hy h1
      have hfree' : ∀ k ok, ops[k]? = some ok → k ≠ i → (listed.setIfInBounds j true).getD k true = false →
          (∀ e ∈ ok.after, Region.binds md e = true → e.on ≠ i) → oi.apart ops ok = true := fun k ok hk hki hun hno => by
        refine hfree k ok hk hki ?_ hno
        by_cases hjk : j = k
        · subst hjk; exact hjun
        · rw [getD_set_ne true hjk] at hun; exact hun
      refine wpOp_mono (fun a' w' h3 => ⟨h3.2.1, ih (listed.setIfInBounds j true) a' w' hfree' (ready_mono hr (Ne.symm hji)) (yields_rel h3.1 hR h3.2.1) ?_⟩) h2
      rw [Array.setIfInBounds_comm _ _ hji]
      exact h3.2.2

/-- The moves: an operation that may come up at once; the one that must; the end; the beginning. -/
theorem wpAnyR_take (hR : Pre R) {i : Nat} {oi : Oper} {d : Option Tmp} {v : Value} {fuel : Nat} {listed : Array Bool} {a : Act} {w : World} (hi : ops[i]? = some oi) (hd : oi.dst = d)
    (hs : Region.noSelect ops = true) (hf : Region.free md ops listed i = true) (hr : (Region.ready md ops listed).contains i = true)
    (hQ : ∀ c a w, Q (.panic c) (a.put d v) w → Q (.panic c) a w) (hw : Region.wanted oi (yielded ops a.tmps) = true) (hy : ∀ w', R w w' → (execOp a.eval oi).run P w' = .ok (.value v) w')
    (h : wpAnyR R P md ops Q fuel (listed.setIfInBounds i true) (a.put d v) w) : wpAnyR R P md ops Q (fuel + 1) listed a w := by
  subst hd
  exact wpAnyR_first hR hi (Region.noSelect_spec hs) hQ fuel listed a w (Region.free_spec hi hf) (by simpa using hr) (.inl ⟨hw, hy⟩) h

theorem wpAnyR_pass (hR : Pre R) {i : Nat} {oi : Oper} {d : Option Tmp} {fuel : Nat} {listed : Array Bool} {a : Act} {w : World} (hi : ops[i]? = some oi) (hd : oi.dst = d)
    (hs : Region.noSelect ops = true) (hf : Region.free md ops listed i = true) (hr : (Region.ready md ops listed).contains i = true)
    (hQ : ∀ c a w, Q (.panic c) (a.put d undef) w → Q (.panic c) a w) (hw : Region.wanted oi (yielded ops a.tmps) = false)
    (h : wpAnyR R P md ops Q fuel (listed.setIfInBounds i true) (a.put d undef) w) : wpAnyR R P md ops Q (fuel + 1) listed a w := by
  subst hd
  exact wpAnyR_first hR hi (Region.noSelect_spec hs) hQ fuel listed a w (Region.free_spec hi hf) (by simpa using hr) (.inr ⟨hw, rfl⟩) h

theorem wpAnyR_only {i : Nat} {o : Oper} {fuel : Nat} {listed : Array Bool} {a : Act} {w : World} (ho : ops[i]? = some o) (hr : Region.ready md ops listed = [i]) (hw : Region.wanted o (yielded ops a.tmps) = true)
    (h : ∀ K' : Act → World → Prop, Hid (∀ a' w', R w w' → wpAnyR R P md ops Q fuel (listed.setIfInBounds i true) a' w' → K' a' w') → Oper.wp P o a w K' Q) : wpAnyR R P md ops Q (fuel + 1) listed a w := by
  refine ⟨fun h0 => absurd (hr ▸ h0) (by simp), fun j hj => ?_⟩
  rw [hr] at hj
  obtain rfl : j = i := by simpa using hj
  refine wpOp_step ho fun K' hK => ?_
  rw [if_pos hw]
  exact h K' fun a' w' hl hn => hK a' w' ⟨hl, hn⟩

theorem wpAnyR_two {i j : Nat} {oi oj : Oper} {fuel : Nat} {listed : Array Bool} {a : Act} {w : World} (hoi : ops[i]? = some oi) (hoj : ops[j]? = some oj) (hr : Region.ready md ops listed = [i, j])
    (hwi : Region.wanted oi (yielded ops a.tmps) = true) (hwj : Region.wanted oj (yielded ops a.tmps) = true)
    (hi : ∀ K' : Act → World → Prop, Hid (∀ a' w', R w w' → wpAnyR R P md ops Q fuel (listed.setIfInBounds i true) a' w' → K' a' w') → Oper.wp P oi a w K' Q)
    (hj : ∀ K' : Act → World → Prop, Hid (∀ a' w', R w w' → wpAnyR R P md ops Q fuel (listed.setIfInBounds j true) a' w' → K' a' w') → Oper.wp P oj a w K' Q) : wpAnyR R P md ops Q (fuel + 1) listed a w := by
  refine ⟨fun h0 => absurd (hr ▸ h0) (by simp), fun k hk => ?_⟩
  rw [hr] at hk
  rcases List.mem_cons.1 hk with rfl | hk
  · refine wpOp_step hoi fun K' hK => ?_
    rw [if_pos hwi]
    exact hi K' fun a' w' hl hn => hK a' w' ⟨hl, hn⟩
  · obtain rfl : k = j := by simpa using hk
    refine wpOp_step hoj fun K' hK => ?_
    rw [if_pos hwj]
    exact hj K' fun a' w' hl hn => hK a' w' ⟨hl, hn⟩

theorem wpAnyR_done {listed : Array Bool} {a : Act} {w : World} (hr : Region.ready md ops listed = []) (h : Q .normal a w) : ∀ fuel, wpAnyR R P md ops Q fuel listed a w
  | 0 => ⟨hr, h⟩
  | _ + 1 => ⟨fun _ => h, by rw [hr]; simp⟩

theorem wp_region_R {id : Nat} {a : Act} {w : World} (hm : P.follows .mixedOrders = true)
    (h : wpAnyR R P .any ops Q ops.size (Array.replicate ops.size false) a w.drew) : (Code.region id ops true).wp P Q a w :=
  wp_region_any hm (wpAny_of_R _ _ _ _ h)
end

end Go.Proofs.Ytojhehpbmgkbgaa
/- PlanSums. -/
namespace Go.Proofs.Ytojhehpbmgkbgaa
open Go.RowKit

section
variable {P : Program} {md : Region.Mode} {ops : Array Oper} {Q : Exit → Act → World → Prop} {R : World → World → Prop}
theorem wpAnyR_three {i j l : Nat} {oi oj ol : Oper} {fuel : Nat} {listed : Array Bool} {a : Act} {w : World} (hoi : ops[i]? = some oi) (hoj : ops[j]? = some oj) (hol : ops[l]? = some ol) (hr : Region.ready md ops listed = [i, j, l])
    (hwi : Region.wanted oi (yielded ops a.tmps) = true) (hwj : Region.wanted oj (yielded ops a.tmps) = true) (hwl : Region.wanted ol (yielded ops a.tmps) = true)
    (hi : ∀ K' : Act → World → Prop, Hid (∀ a' w', R w w' → wpAnyR R P md ops Q fuel (listed.setIfInBounds i true) a' w' → K' a' w') → Oper.wp P oi a w K' Q)
    (hj : ∀ K' : Act → World → Prop, Hid (∀ a' w', R w w' → wpAnyR R P md ops Q fuel (listed.setIfInBounds j true) a' w' → K' a' w') → Oper.wp P oj a w K' Q)
    (hl : ∀ K' : Act → World → Prop, Hid (∀ a' w', R w w' → wpAnyR R P md ops Q fuel (listed.setIfInBounds l true) a' w' → K' a' w') → Oper.wp P ol a w K' Q) : wpAnyR R P md ops Q (fuel + 1) listed a w := by
  refine ⟨fun h0 => absurd (hr ▸ h0) (by simp), fun k hk => ?_⟩
  rw [hr] at hk
  rcases List.mem_cons.1 hk with rfl | hk
  · refine wpOp_step hoi fun K' hK => ?_
    rw [if_pos hwi]
    exact hi K' fun a' w' hl hn => hK a' w' ⟨hl, hn⟩
  · rcases List.mem_cons.1 hk with rfl | hk
    · refine wpOp_step hoj fun K' hK => ?_
      rw [if_pos hwj]
      exact hj K' fun a' w' hl hn => hK a' w' ⟨hl, hn⟩
    · obtain rfl : k = l := by simpa using hk
      refine wpOp_step hol fun K' hK => ?_
      rw [if_pos hwl]
      exact hl K' fun a' w' hl hn => hK a' w' ⟨hl, hn⟩
theorem run_buildSlice_zero {w : World} (t e : TypeId) (i : TypeInfo) (ht : P.underlying t = some (.slice e)) (hi : P.info? e = some i) :
    (Instr.buildSlice t 0 #[]).run P w = .ok (.slice (some ⟨w.heap.size, 0, none⟩) 0 0) (w.alloc (.cells #[] e (0, 0))) := by
  simp [Instr.buildSlice, run_underlying ht, sizeOf, typeInfo, hi, Instr.fill, newRow]
  congr 2
  exact Array.ext (by simp) (fun i h1 _ => by simp at h1)
end
section
variable {P : Program} {w : World} {op : Oper} {a : Act} {K : Act → World → Prop} {Q : Exit → Act → World → Prop}
theorem wp_append_gen (s x : Operand) (t : TypeId) (ho : op.op = .call { callee := .builtin .append, args := #[s, x], argTypes := #[t, t] })
    (base : Nat) (e : TypeId) (i : TypeInfo) (z : Value) (k bytes : Nat) (ht : P.underlying t = some (.slice e)) (hi : P.info? e = some i) (hz : i.zero = some z)
    (hsize : i.size = k) (hby : i.bytes = bytes) (hzs : z.cells.size = k) (hk : 0 < k)
    (v : Value) (n : Nat) (xs : List Value) (hs : a.eval s = v) (hown : w.ownsRow base e k v n xs)
    (F : Nat → Prop) (A : Option Addr) (m c : Nat) (ys : List Value) (hx : a.eval x = .slice A m c) (hl : FlatAt F w k (.slice A m c) m ys) (hroom : n + m ≤ maxLen) (hbytes : (n + m) * bytes ≤ 140737488355328) (hbase : base ≤ w.heap.size)
    (h : ∀ v' w', w'.ownsRow base e k v' (n + m) (xs ++ ys) → w.grownBy w' v.ownBlock → K (a.put op.dst v') w') : op.wp P a w K Q := by
  obtain ⟨v', w', hr, h2, h3⟩ := run_append_flat (P := P) w base t op.type e i z k bytes ht hi hz hsize hby hzs hk v n xs hown F A m c ys hl hroom hbytes hbase
  unfold Oper.wp execOp
  simp only [ho, resolve, invoke, builtin, Sem.run_bind, Sem.run_pure, Result.andThen_ok, List.map_toArray, List.map_cons, List.map_nil, hs, hx, hr]
  exact h v' w' h2 h3
end
theorem pre_below (B : Nat) : Pre (Below B) := ⟨fun w => Below.refl B w, Below.trans⟩
theorem own_stays {w w' : World} {base e k n : Nat} {v : Value} {xs : List Value} (h : w.ownsRow base e k v n xs) (hk : ∀ q, v.ownBlock = some q → w'.heap[q]? = w.heap[q]?) : w'.ownsRow base e k v n xs := by
  obtain ⟨h1, h2⟩ := h
  refine ⟨h1, ?_⟩
  rcases h2 with h2 | ⟨g, cap, cur, rfl, hg, hh, h3⟩
  · exact .inl h2
  · exact .inr ⟨g, cap, cur, rfl, hg, (hk g rfl).trans hh, h3⟩
theorem own_cells {w : World} {base e k n q : Nat} {v : Value} {xs : List Value} (h : w.ownsRow base e k v n xs) (hq : v.ownBlock = some q) : ∃ cs, w.heap[q]? = some (.cells cs e (0, 0)) ∧ base ≤ q := by
  rcases h.2 with ⟨rfl, _⟩ | ⟨g, cap, cur, rfl, hb, hh, _⟩
  · simp [Value.ownBlock] at hq
  · simp [Value.ownBlock] at hq
    subst hq
    exact ⟨_, hh, hb⟩
theorem own_empty {w : World} {base e k q : Nat} {xs : List Value} (h : w.ownsRow base e k (.slice (some ⟨q, 0, none⟩) 0 0) 0 xs) : w.heap[q]? = some (.cells #[] e (0, 0)) := by
  rcases h.2 with ⟨h0, _⟩ | ⟨g, cap, cur, hv, hb, hh, _, _, hs, _⟩
  · cases h0
  · injection hv with e1 _ e3
    obtain rfl : q = g := by injection e1 with e1; injection e1
    subst e3
    obtain rfl : cur = #[] := Array.eq_empty_of_size_eq_zero (by simpa using hs)
    exact hh

/-- A definition of one step more in the making: what has been made so far since W3. -/
structure GX (W3 : World) (s : StepD) (r : Option (Value × Nat × List Value)) (o y : Option Nat) (w : World) : Prop where
  bb : Below W3.heap.size W3 w
  row : ∀ v m xs, r = some (v, m, xs) → w.ownsRow W3.heap.size 34 6 v m xs
  one : ∀ b, o = some b → w.heap[b]? = some (.cells s.cells.toArray 34 (0, 0)) ∧ W3.heap.size ≤ b
  df : ∀ b, y = some b → w.heap[b]? = some (.cells #[.string ⟨#[]⟩, .slice none 0 0] 24 (0, 0)) ∧ W3.heap.size ≤ b
section
variable {W3 w w' : World} {s : StepD} {r : Option (Value × Nat × List Value)} {o y : Option Nat}
theorem GX.start (W3 : World) (s : StepD) : GX W3 s none none none W3.drew := ⟨(Below.refl _ _).drew, by simp, by simp, by simp⟩
theorem GX.stay (h : GX W3 s r o y w) (hl : Later w w') : GX W3 s r o y w' :=
  ⟨h.bb.trans (Below.mono hl h.bb.size), fun v m xs e => own_stays (h.row v m xs e) fun q hq => Below.block hl q ((h.row v m xs e).lt q hq).2,
   fun b e => ⟨(Below.block hl b (lt_of_block (h.one b e).1)).trans (h.one b e).1, (h.one b e).2⟩, fun b e => ⟨(Below.block hl b (lt_of_block (h.df b e).1)).trans (h.df b e).1, (h.df b e).2⟩⟩
theorem GX.empty {q : Nat} (h : GX W3 s none o y w) (hl : Later w w') (ho : w'.ownsRow W3.heap.size 34 6 (.slice (some ⟨q, 0, none⟩) 0 0) 0 []) : GX W3 s (some (.slice (some ⟨q, 0, none⟩) 0 0, 0, [])) o y w' :=
  { h.stay hl with row := fun v m xs e => by injection e with e; injection e with e1 e; injection e with e2 e3; subst e1 e2 e3; exact ho }
theorem GX.mkOne (h : GX W3 s r none y w) : GX W3 s r (some w.heap.size) y (w.alloc (.cells s.cells.toArray 34 (0, 0))) :=
  { h.stay ((Below.refl _ _).alloc (Nat.le_refl _) _) with one := fun b e => by injection e with e; subst e; exact ⟨heap_alloc_new _ _, h.bb.size⟩ }
theorem GX.mkDef (h : GX W3 s r o none w) : GX W3 s r o (some w.heap.size) (w.alloc (.cells #[.string ⟨#[]⟩, .slice none 0 0] 24 (0, 0))) :=
  { h.stay ((Below.refl _ _).alloc (Nat.le_refl _) _) with df := fun b e => by injection e with e; subst e; exact ⟨heap_alloc_new _ _, h.bb.size⟩ }
theorem GX.app {v v' : Value} {m m' : Nat} {xs xs' : List Value} (h : GX W3 s (some (v, m, xs)) o y w) (hone : ∀ b, o = some b → some b ≠ v.ownBlock) (ho : w'.ownsRow W3.heap.size 34 6 v' m' xs') (hg : w.grownBy w' v.ownBlock) : Below W3.heap.size w w' ∧ GX W3 s (some (v', m', xs')) o y w' := by
  have hB : Below W3.heap.size w w' := (Below.refl _ _).grown hg h.bb.size fun k e => by
    obtain ⟨_, _, hb⟩ := own_cells (h.row v m xs rfl) e
    exact hb
  refine ⟨hB, h.bb.trans hB, fun v2 m2 x2 e => by injection e with e; injection e with e1 e; injection e with e2 e3; subst e1 e2 e3; exact ho, fun b e => ?_, fun b e => ?_⟩
  · exact ⟨(hg.block b (lt_of_block (h.one b e).1) (hone b e)).trans (h.one b e).1, (h.one b e).2⟩
  · refine ⟨(hg.block b (lt_of_block (h.df b e).1) fun e2 => ?_).trans (h.df b e).1, (h.df b e).2⟩
    obtain ⟨cs, hcs, _⟩ := own_cells (h.row v m xs rfl) e2.symm
    rw [(h.df b e).1] at hcs
    injection hcs with hcs
    injection hcs with _ ht
    exact absurd ht (by decide)
theorem GX.app1 {v' : Value} {m' q : Nat} {xs' : List Value} (h : GX W3 s (some (.slice (some ⟨q, 0, none⟩) 0 0, 0, [])) o y w) (ho : w'.ownsRow W3.heap.size 34 6 v' m' xs') (hg : w.grownBy w' (some q)) : Below W3.heap.size w w' ∧ GX W3 s (some (v', m', xs')) o y w' :=
  h.app (fun b e e2 => by
    have h1 := (h.one b e).1
    have h2 := own_empty (h.row _ _ _ rfl)
    obtain rfl : b = q := by simpa [Value.ownBlock] using e2
    rw [h1] at h2
    injection h2 with h2
    injection h2 with h2
    have := congrArg Array.size h2
    simp [StepD.cells] at this) ho hg
theorem GX.app2 {v v' : Value} {m m' : Nat} {xs xs' : List Value} (h : GX W3 s (some (v, m, xs)) o y w) (ho : w'.ownsRow W3.heap.size 34 6 v' m' xs') (hg : w.grownBy w' v.ownBlock) : Below W3.heap.size w w' ∧ GX W3 s (some (v', m', xs')) none y w' :=
  GX.app ⟨h.bb, h.row, by simp, h.df⟩ (by simp) ho hg
end

/-- A definition of one step more, whole. -/
structure NX (W3 : World) (y q n c : Nat) (name : ByteArray) (l : List StepD) (wr : World) : Prop where
  db : DefBox y name (.slice (some ⟨q, 0, none⟩) n c) wr
  sl : StepsAt (fun _ => True) wr (.slice (some ⟨q, 0, none⟩) n c) l
  bb : Below W3.heap.size W3 wr
theorem flat_snoc (l : List StepD) (s : StepD) : (l ++ [s]).flatMap StepD.cells = l.flatMap StepD.cells ++ s.cells := by simp
theorem GX.whole {W3 w w' : World} {s : StepD} {y q n c : Nat} {name : ByteArray} {l : List StepD} (h : GX W3 s (some (.slice (some ⟨q, 0, none⟩) n c, n, (l ++ [s]).flatMap StepD.cells)) none (some y) w) (hn : n = (l ++ [s]).length)
    (hd : w'.heap[y]? = some (.cells #[.string name, .slice (some ⟨q, 0, none⟩) n c] 24 (0, 0))) (hg : w.grownBy w' (some y)) : Below W3.heap.size w w' ∧ NX W3 y q n c name (l ++ [s]) w' := by
  have hB : Below W3.heap.size w w' := (Below.refl _ _).grown hg h.bb.size fun k e => by
    obtain rfl := Option.some.inj e
    exact (h.df y rfl).2
  refine ⟨hB, hd, ?_, h.bb.trans hB⟩
  have ho := own_stays (w' := w') (h.row _ _ _ rfl) fun k hk => hg.block k ((h.row _ _ _ rfl).lt k hk).2 fun e => by
    obtain rfl : k = y := Option.some.inj e
    obtain ⟨cs, hcs, _⟩ := own_cells (h.row _ _ _ rfl) hk
    rw [(h.df k rfl).1] at hcs
    injection hcs with hcs
    injection hcs with _ ht
    exact absurd ht (by decide)
  have hf := FlatAt.of_own ho fun u hu => by
    obtain ⟨t, _, ht⟩ := List.mem_flatMap.1 hu
    exact t.one u ht
  unfold StepsAt
  rw [← hn]
  exact hf.mono fun _ _ _ => trivial
theorem info_step : (Try.prog.info? 34).map (fun i => (i.zero, i.size, i.bytes)) = some (some (.agg #[.string ⟨#[]⟩, .int .i64 0, .int .i64 0, .int .i64 0, .bool false, .bool false]), 6, 48) := by kernel_rfl
theorem wp_empty_steps {w : World} {op : Oper} {a : Act} {K : Act → World → Prop} {Q : Exit → Act → World → Prop} (B : Nat) (hB : B ≤ w.heap.size) (ho : op.op = .buildSlice 22 0 #[])
    (h : ∀ q w', w'.ownsRow B 34 6 (.slice (some ⟨q, 0, none⟩) 0 0) 0 [] → Later w w' → K (a.put op.dst (.slice (some ⟨q, 0, none⟩) 0 0)) w') : op.wp Try.prog a w K Q := by
  obtain ⟨i0, hi, _⟩ := info_parts info_step
  have hr := run_buildSlice_zero (P := Try.prog) (w := w) 22 34 i0 Try.underlying22 hi
  unfold Oper.wp
  simp only [execOp, ho, List.map_toArray, List.map_nil, Sem.run_bind, Sem.run_pure, hr, Result.andThen_ok]
  exact h _ _ ⟨by simp, .inr ⟨w.heap.size, 0, #[], rfl, hB, heap_alloc_new w _, Nat.le_refl _, by unfold maxLen; omega, by simp, by simp⟩⟩ ((Below.refl _ _).alloc (Nat.le_refl _) _)
theorem own_pos {w : World} {base e k n : Nat} {v : Value} {xs : List Value} (h : w.ownsRow base e k v n xs) (hn : 0 < n) : ∃ q c, v = .slice (some ⟨q, 0, none⟩) n c := by
  rcases h.2 with ⟨_, h0⟩ | ⟨g, cap, cur, rfl, _⟩
  · omega
  · exact ⟨g, cap, rfl⟩
theorem flat_block {w : World} {o : Nat} {s : StepD} (h : w.heap[o]? = some (.cells s.cells.toArray 34 (0, 0))) : FlatAt (fun _ => True) w 6 (.slice (some ⟨o, 0, none⟩) 1 1) 1 s.cells :=
  ⟨rfl, s.one, some ⟨o, 0, none⟩, 1, rfl, Nat.le_refl _, by unfold maxLen; omega, (fun h => by cases h), fun _ => ⟨o, 0, rfl, trivial, lt_of_block h, fun j u hj => by
    rw [cell_of_row _ _ _ _ _ _ h, Nat.zero_add, List.getElem?_toArray]; exact hj⟩⟩
theorem wrap_in {x : Int} (h : -1000000 ≤ x ∧ x ≤ 1000000) : IntKind.i64.wrap x = x := by
  unfold IntKind.wrap
  simp [IntKind.bits, IntKind.signed]
  omega
/-- What one step more adds. -/
theorem more_sums {name : ByteArray} {l : List StepD} {s : StepD} (h1 : (checkF name l).2 = 0) (h2 : (checkF name (l ++ [s])).2 = 0) (k : Int) (hk : k = if s.undo then 2 else 1) :
    sumF triesF name (l ++ [s]) = sumF triesF name l + k * (s.retry + 1) ∧ sumF ticksF name (l ++ [s]) = sumF ticksF name l + k * (s.retry + 1) * s.wait := by
  have hg := (check_good h2).2.2.2 s (by simp)
  have ht := tries_good hg
  unfold sumF
  rw [if_pos h2, if_pos h2, if_pos h1, if_pos h1, sumL_app, sumL_app]
  unfold ticksF
  rw [ht, hk]
  cases s.undo
  · simp
  · simp only [if_true]
    constructor
    · omega
    · rw [Int.mul_comm ((s.retry + 1) * s.wait) 2, ← Int.mul_assoc]

section
variable {w : World}
set_option maxRecDepth 100000 in
set_option maxHeartbeats 16000000 in
theorem law_sums {F : Nat → Prop} {a1 : ByteArray} {v : Value} {l : List StepD} {s : StepD} (hl : StepsAt F w v l) (hb : l.length ≤ 9223372036854775807) (hwf : ∀ s ∈ l, s.wf) (hsz : s.name.size ≤ 140737488355328) :
    Calls Try.prog 5 #[.agg #[.string a1, v], .agg s.cells.toArray] w fun e w' => e = .returned (.bool true) ∧ Later w w' := by
  obtain ⟨A, cap, rfl, _, hcap, _⟩ := FlatAt.shape hl
  obtain ⟨n, hn⟩ : ∃ n, l.length = n := ⟨_, rfl⟩
  rw [hn] at hl hb ⊢
  obtain ⟨W1, hW1⟩ : ∃ W1, W1 = (w.alloc (.cells #[.string a1, .slice A n cap] 24 (0, 0))).alloc (.cells s.cells.toArray 34 (0, 0)) := ⟨_, rfl⟩
  obtain ⟨x, hx⟩ : ∃ x, x = w.heap.size := ⟨_, rfl⟩
  have L1 : Hid (Later w W1) := by rw [hW1]; exact ((Below.refl _ _).alloc (Nat.le_refl _) _).alloc (by simp) _
  have X1 : Hid (DefBox x a1 (.slice A n cap) W1) := by rw [hW1, hx]; exact heap_alloc2_old w _ _
  have Z1 : Hid (StepBox (x + 1) s W1) := by rw [hW1, hx]; exact heap_alloc2_new w _ _
  have CLV : Hid (∀ W, Later W1 W → Calls Try.prog 7 #[] W fun e w' => e = .returned (.bool true) ∧ Later W w') := fun W h => lives_any
  have CL1 : Hid (∀ W, Later W1 W → Calls Try.prog 6 #[.agg #[.string a1, .slice A n cap]] W fun e w' => e = .returned (.bool (longF a1 l)) ∧ Later W w') := fun W h => long_any (hl.kept (Kept.of_below (L1.out.trans h) _)) (by rw [hn]; exact hb)
  have SL : Hid (∀ W, Later W1 W → StepsAt F W (.slice A n cap) l) := fun W h => hl.kept (Kept.of_below (L1.out.trans h) _)
  obtain ⟨k1, hk1⟩ : ∃ q, (checkF a1 l).1 = q := ⟨_, rfl⟩
  obtain ⟨k2, hk2⟩ : ∃ q, (checkF a1 l).2 = q := ⟨_, rfl⟩
  have CC : Hid (∀ W, Later W1 W → Calls Try.prog 20 #[.agg #[.string a1, .slice A n cap]] W fun e w' => e = .returned (.tuple #[.int .i64 (k1 : Int), .int .i64 (k2 : Int)]) ∧ Later W w') := fun W h => hk1 ▸ hk2 ▸ rcheck_any (SL.out W h)
  obtain ⟨q1, hq1⟩ : ∃ q, longF a1 l = q := ⟨_, rfl⟩
  rw [hq1] at CL1
  have HQ1 := hide hq1
  have HN := hide hn
  have HK2 := hide hk2
  have HCAP := hide hcap
  have HW1 := hide hW1.symm
  have HX := hide hx.symm
  have HWF := hide hwf
  have x0 := X1.out.name_
  have x1 := X1.out.steps
  clear hl hn hW1 hx hq1 hb hk1 hk2 hcap hwf
  unfold StepD.cells at HW1
  unfold StepD.cells
  go_enter Try.func5, Try.ntmps5
  go_wp2_with (fail)
  simp only [HX.out, HW1.out]
  refine (CC.out _ (Later.refl _)).mono ?_
  rintro e w2 ⟨rfl, hl2⟩
  have L2 := hide hl2
  have X2 := hide (X1.out.below hl2)
  have Z2 : Hid (StepBox (x + 1) s w2) := (Below.block hl2 (x + 1) (lt_of_block Z1.out)).trans Z1.out
  clear hl2 CC x0 x1
  have y0 := X2.out.name_
  have y1 := X2.out.steps
  by_cases hk : k2 = 0
  · subst hk
    go_wp2_with (fail)
    refine (CL1.out _ L2.out).mono ?_
    rintro e w4 ⟨rfl, hl4⟩
    have L4 := hide (L2.out.trans hl4)
    have X4 := hide (X2.out.below hl4)
    have Z4 : Hid (StepBox (x + 1) s w4) := (Below.block hl4 (x + 1) (lt_of_block Z2.out)).trans Z2.out
    clear hl4 CL1 y0 y1
    cases q1 with
    | true =>
      go_wp2_with (fail)
      refine (CLV.out _ L4.out).mono ?_
      rintro e w99 ⟨rfl, hl99⟩
      have L99 := hide (L1.out.trans (L4.out.trans hl99))
      clear hl99
      go_wp2_with (fail)
      go_ret
      exact ⟨rfl, L99.out⟩
    | false =>
      obtain ⟨z0, z1, z2, z3, z4, z5, zf⟩ := Z4.out.cells
      by_cases h400 : 400 < s.name.size
      · have h400' : (400 : Int) < (s.name.size : Int) := by omega
        clear z1 z2 z3 z4 z5 zf
        go_wp2_with (fail)
        refine (CLV.out _ L4.out).mono ?_
        rintro e w99 ⟨rfl, hl99⟩
        have L99 := hide (L1.out.trans (L4.out.trans hl99))
        clear hl99
        go_wp2_with (fail)
        go_ret
        exact ⟨rfl, L99.out⟩
      · have h400' : ¬ (400 : Int) < (s.name.size : Int) := by omega
        obtain ⟨g1, g2, _, g4⟩ := check_good HK2.out
        have hn8 : n ≤ 8 := by rw [← HN.out]; exact g1
        have hn1 : 1 ≤ n := by rw [← HN.out]; exact g2
        obtain ⟨i0, hi0, hz0, hz1, hz2⟩ := info_parts info_step
        have HI := hide hi0
        have HZ0 := hide hz0
        have HZ1 := hide hz1
        have HZ2 := hide hz2
        obtain ⟨W3, hW3⟩ : ∃ W3, W3 = w4 := ⟨_, rfl⟩
        rw [← hW3] at L4 X4 Z4 z0 z1 z2 z3 z4 z5 zf ⊢
        have d0 := X4.out.name_
        have d1 := X4.out.steps
        have hx3 : x < W3.heap.size := lt_of_block X4.out
        have hz3 : x + 1 < W3.heap.size := lt_of_block Z4.out
        have HLD := hide (SL.out _ L4.out)
        clear hi0 hz0 hz1 hz2 hW3 g1 g2 g4 zf
        go_upto_region 4 with (fail)
        go_cut [7] (fun s7 wx => ∃ y q c, s7 = .pointer (some ⟨y, 0, none⟩) ∧ NX W3 y q (n + 1) c a1 (l ++ [s]) wx)
        case first =>
          refine wp_region_R (R := Below W3.heap.size) (by kernel_rfl) ?_
          refine wpAnyR_take (pre_below W3.heap.size) (i := 0) (d := some 29) (v := ?van0) rfl rfl (by kernel_rfl) (by kernel_rfl) (by kernel_rfl) (fun _ _ _ h => h) (by rfl) ?yan0 ?_
          case yan0 => (intro w' hw'; go_simp; try (with_reducible rfl))
          simp only [Act.put]; try simp only [List.setIfInBounds_toArray]; try simp only [List.set_cons_zero, List.set_cons_succ]
          refine wpAnyR_take (pre_below W3.heap.size) (i := 1) (d := some 30) (v := .string a1) rfl rfl (by kernel_rfl) (by kernel_rfl) (by kernel_rfl) (fun _ _ _ h => h) (by rfl) ?yan1 ?_
          case yan1 => (intro w' hw'; have y_ := (show w'.cell? ⟨x, 0, none⟩ = some (.string a1) from (Below.cell hw' (p := ⟨x, 0, none⟩) hx3).trans d0); go_simp)
          simp only [Act.put]; try simp only [List.setIfInBounds_toArray]; try simp only [List.set_cons_zero, List.set_cons_succ]
          refine wpAnyR_take (pre_below W3.heap.size) (i := 3) (d := some 32) (v := ?van3) rfl rfl (by kernel_rfl) (by kernel_rfl) (by kernel_rfl) (fun _ _ _ h => h) (by rfl) ?yan3 ?_
          case yan3 => (intro w' hw'; go_simp; try (with_reducible rfl))
          simp only [Act.put]; try simp only [List.setIfInBounds_toArray]; try simp only [List.set_cons_zero, List.set_cons_succ]
          refine wpAnyR_take (pre_below W3.heap.size) (i := 4) (d := some 33) (v := .slice A n cap) rfl rfl (by kernel_rfl) (by kernel_rfl) (by kernel_rfl) (fun _ _ _ h => h) (by rfl) ?yan4 ?_
          case yan4 => (intro w' hw'; have y_ := (show w'.cell? ⟨x, 1, none⟩ = some (.slice A n cap) from (Below.cell hw' (p := ⟨x, 1, none⟩) hx3).trans d1); go_simp)
          simp only [Act.put]; try simp only [List.setIfInBounds_toArray]; try simp only [List.set_cons_zero, List.set_cons_succ]
          refine wpAnyR_take (pre_below W3.heap.size) (i := 6) (d := some 35) (v := .agg #[.string s.name, .int .i64 s.stub, .int .i64 s.retry, .int .i64 s.wait, .bool s.undo, .bool s.pivot]) rfl rfl (by kernel_rfl) (by kernel_rfl) (by kernel_rfl) (fun _ _ _ h => h) (by rfl) ?yan6 ?_
          case yan6 => (intro w' hw'; exact exec_load_box 34 _ (by rfl) (x + 1) 0 (by rfl) 34 _ ((Below.block hw' (x + 1) hz3).trans Z4.out) 6 _ Try.underlying34 (by rfl) (by kernel_rfl) s.cells (by rfl) (by rfl))
          simp only [Act.put]; try simp only [List.setIfInBounds_toArray]; try simp only [List.set_cons_zero, List.set_cons_succ]
          refine wpAnyR_three (i := 2) (j := 7) (l := 10) rfl rfl rfl (by kernel_rfl) (by rfl) (by rfl) (by rfl) (fun K hK => ?_) (fun K hK => ?_) (fun K hK => ?_)
          · skip
            refine wp_empty_steps W3.heap.size (by exact (GX.start W3 s).bb.size) (by rfl) ?_
            intro q0 wy1 ho hl
            have G1 := hide (GX.empty (GX.start W3 s) hl ho)
            refine hK.out _ _ (Below.mono hl (GX.start W3 s).bb.size) (?_ : wpAnyR _ _ _ _ _ _ _ (Act.put _ (some 31) _) _)
            clear ho hl
            clear hK K
            try (simp only [Act.put]; try simp only [List.setIfInBounds_toArray]; try simp only [List.set_cons_zero, List.set_cons_succ])
            refine wpAnyR_three (i := 5) (j := 7) (l := 10) rfl rfl rfl (by kernel_rfl) (by rfl) (by rfl) (by rfl) (fun K hK => ?_) (fun K hK => ?_) (fun K hK => ?_)
            · skip
              have hfl : FlatAt F (wy1) 6 (.slice A n cap) n (l.flatMap StepD.cells) := by have h := StepsAt.kept HLD.out (Kept.of_below G1.out.bb F); unfold StepsAt at h; rwa [HN.out] at h
              refine wp_append_gen _ _ 22 (by rfl) W3.heap.size 34 i0 _ 6 48 Try.underlying22 HI.out HZ0.out HZ1.out HZ2.out (by rfl) (by omega) (.slice (some ⟨q0, 0, none⟩) 0 0) 0 [] (by rfl) (G1.out.row _ _ _ rfl) F A n cap (l.flatMap StepD.cells) (by rfl) hfl (by unfold maxLen; omega) (by omega) G1.out.bb.size ?_
              intro v6 wy2 ho hg
              rw [Nat.zero_add, List.nil_append] at ho
              obtain ⟨q6, k6, rfl⟩ := own_pos ho hn1
              obtain ⟨hbl, hgx⟩ := GX.app1 G1.out ho hg
              have G2 := hide hgx
              refine hK.out _ _ hbl (?_ : wpAnyR _ _ _ _ _ _ _ (Act.put _ (some 34) _) _)
              clear ho hg hbl hgx hfl
              clear hK K
              try (simp only [Act.put]; try simp only [List.setIfInBounds_toArray]; try simp only [List.set_cons_zero, List.set_cons_succ])
              refine wpAnyR_two (i := 7) (j := 10) rfl rfl (by kernel_rfl) (by rfl) (by rfl) (fun K hK => ?_) (fun K hK => ?_)
              · skip
                refine wp_buildSlice_one 22 34 _ (by rfl) i0 _ 6 Try.underlying22 HI.out HZ0.out HZ1.out (by omega) (by omega) #[.string s.name, .int .i64 s.stub, .int .i64 s.retry, .int .i64 s.wait, .bool s.undo, .bool s.pivot] (by rfl) (by rfl) ?_
                have hgx := GX.mkOne G2.out
                have hbl : Below W3.heap.size (wy2) ((wy2).alloc (.cells s.cells.toArray 34 (0, 0))) := (Below.refl _ _).alloc G2.out.bb.size _
                unfold StepD.cells at hgx hbl
                refine hK.out _ _ hbl (?_ : wpAnyR _ _ _ _ _ _ _ (Act.put _ (some 36) _) _)
                obtain ⟨o1, ho1⟩ : ∃ o1, (wy2).heap.size = o1 := ⟨_, rfl⟩
                obtain ⟨wy3, hwy3⟩ : ∃ wy3, (wy2).alloc (.cells #[.string s.name, .int .i64 s.stub, .int .i64 s.retry, .int .i64 s.wait, .bool s.undo, .bool s.pivot] 34 (0, 0)) = wy3 := ⟨_, rfl⟩
                rw [ho1, hwy3] at hgx
                rw [ho1, hwy3]
                have G3 := hide hgx
                clear hgx hbl ho1 hwy3
                clear hK K
                try (simp only [Act.put]; try simp only [List.setIfInBounds_toArray]; try simp only [List.set_cons_zero, List.set_cons_succ])
                refine wpAnyR_two (i := 8) (j := 10) rfl rfl (by kernel_rfl) (by rfl) (by rfl) (fun K hK => ?_) (fun K hK => ?_)
                · skip
                  refine wp_append_gen _ _ 22 (by rfl) W3.heap.size 34 i0 _ 6 48 Try.underlying22 HI.out HZ0.out HZ1.out HZ2.out (by rfl) (by omega) (.slice (some ⟨q6, 0, none⟩) n k6) n (l.flatMap StepD.cells) (by rfl) (G3.out.row _ _ _ rfl) (fun _ => True) (some ⟨o1, 0, none⟩) 1 1 s.cells (by rfl) (flat_block (G3.out.one _ rfl).1) (by unfold maxLen; omega) (by omega) G3.out.bb.size ?_
                  intro v8 wy4 ho hg
                  rw [← flat_snoc] at ho
                  obtain ⟨q8, k8, rfl⟩ := own_pos ho (by omega)
                  obtain ⟨hbl, hgx⟩ := GX.app2 G3.out ho hg
                  have G4 := hide hgx
                  refine hK.out _ _ hbl (?_ : wpAnyR _ _ _ _ _ _ _ (Act.put _ (some 37) _) _)
                  clear ho hg hbl hgx
                  clear hK K
                  try (simp only [Act.put]; try simp only [List.setIfInBounds_toArray]; try simp only [List.set_cons_zero, List.set_cons_succ])
                  refine wpAnyR_take (pre_below W3.heap.size) (i := 9) (d := some 38) (v := .agg #[.string a1, .slice (some ⟨q8, 0, none⟩) (n + 1) k8]) rfl rfl (by kernel_rfl) (by kernel_rfl) (by kernel_rfl) (fun _ _ _ h => h) (by rfl) ?yanxxxx9 ?_
                  case yanxxxx9 => (intro w' hw'; go_simp; try (with_reducible rfl))
                  simp only [Act.put]; try simp only [List.setIfInBounds_toArray]; try simp only [List.set_cons_zero, List.set_cons_succ]
                  refine wpAnyR_only (i := 10) rfl (by kernel_rfl) (by rfl) fun K hK => ?_
                  go_simp
                  have hgx := GX.mkDef G4.out
                  have hbl : Below W3.heap.size (wy4) ((wy4).alloc (.cells #[.string ⟨#[]⟩, .slice none 0 0] 24 (0, 0))) := (Below.refl _ _).alloc G4.out.bb.size _
                  refine hK.out _ _ hbl ?_
                  obtain ⟨y1, hy1⟩ : ∃ y1, (wy4).heap.size = y1 := ⟨_, rfl⟩
                  obtain ⟨wy5, hwy5⟩ : ∃ wy5, (wy4).alloc (.cells #[.string ⟨#[]⟩, .slice none 0 0] 24 (0, 0)) = wy5 := ⟨_, rfl⟩
                  rw [hy1, hwy5] at hgx
                  rw [hy1, hwy5]
                  have G5 := hide hgx
                  clear hgx hbl hy1 hwy5
                  clear hK K
                  try (simp only [Act.put]; try simp only [List.setIfInBounds_toArray]; try simp only [List.set_cons_zero, List.set_cons_succ])
                  refine wpAnyR_only (i := 11) rfl (by kernel_rfl) (by rfl) fun K hK => ?_
                  refine wp_store_box 24 _ _ (by rfl) y1 0 #[.string a1, .slice (some ⟨q8, 0, none⟩) (n + 1) k8] (by rfl) (by rfl) 24 _ (G5.out.df _ rfl).1 (by kernel_rfl) (by simp) (by simp [Value.oneCell']) ?_
                  intro wz hz hgz
                  obtain ⟨hbl, hnx⟩ := GX.whole (name := a1) G5.out (by rw [List.length_append, HN.out]; rfl) hz hgz
                  have HNX := hide hnx
                  refine hK.out _ _ hbl ?_
                  clear hz hgz hbl hnx
                  clear hK K
                  try simp only [Act.put]
                  refine wpAnyR_done (by kernel_rfl) ?_ _
                  go_wp2_with (fail)
                  go_meet
                  exact ⟨y1, q8, k8, rfl, HNX.out⟩
                · go_simp
                  have hgx := GX.mkDef G3.out
                  have hbl : Below W3.heap.size (wy3) ((wy3).alloc (.cells #[.string ⟨#[]⟩, .slice none 0 0] 24 (0, 0))) := (Below.refl _ _).alloc G3.out.bb.size _
                  refine hK.out _ _ hbl ?_
                  obtain ⟨y1, hy1⟩ : ∃ y1, (wy3).heap.size = y1 := ⟨_, rfl⟩
                  obtain ⟨wy4, hwy4⟩ : ∃ wy4, (wy3).alloc (.cells #[.string ⟨#[]⟩, .slice none 0 0] 24 (0, 0)) = wy4 := ⟨_, rfl⟩
                  rw [hy1, hwy4] at hgx
                  rw [hy1, hwy4]
                  have G4 := hide hgx
                  clear hgx hbl hy1 hwy4
                  clear hK K
                  try (simp only [Act.put]; try simp only [List.setIfInBounds_toArray]; try simp only [List.set_cons_zero, List.set_cons_succ])
                  refine wpAnyR_only (i := 8) rfl (by kernel_rfl) (by rfl) fun K hK => ?_
                  refine wp_append_gen _ _ 22 (by rfl) W3.heap.size 34 i0 _ 6 48 Try.underlying22 HI.out HZ0.out HZ1.out HZ2.out (by rfl) (by omega) (.slice (some ⟨q6, 0, none⟩) n k6) n (l.flatMap StepD.cells) (by rfl) (G4.out.row _ _ _ rfl) (fun _ => True) (some ⟨o1, 0, none⟩) 1 1 s.cells (by rfl) (flat_block (G4.out.one _ rfl).1) (by unfold maxLen; omega) (by omega) G4.out.bb.size ?_
                  intro v8 wy5 ho hg
                  rw [← flat_snoc] at ho
                  obtain ⟨q8, k8, rfl⟩ := own_pos ho (by omega)
                  obtain ⟨hbl, hgx⟩ := GX.app2 G4.out ho hg
                  have G5 := hide hgx
                  refine hK.out _ _ hbl (?_ : wpAnyR _ _ _ _ _ _ _ (Act.put _ (some 37) _) _)
                  clear ho hg hbl hgx
                  clear hK K
                  try (simp only [Act.put]; try simp only [List.setIfInBounds_toArray]; try simp only [List.set_cons_zero, List.set_cons_succ])
                  refine wpAnyR_take (pre_below W3.heap.size) (i := 9) (d := some 38) (v := .agg #[.string a1, .slice (some ⟨q8, 0, none⟩) (n + 1) k8]) rfl rfl (by kernel_rfl) (by kernel_rfl) (by kernel_rfl) (fun _ _ _ h => h) (by rfl) ?yanxxxy9 ?_
                  case yanxxxy9 => (intro w' hw'; go_simp; try (with_reducible rfl))
                  simp only [Act.put]; try simp only [List.setIfInBounds_toArray]; try simp only [List.set_cons_zero, List.set_cons_succ]
                  refine wpAnyR_only (i := 11) rfl (by kernel_rfl) (by rfl) fun K hK => ?_
                  refine wp_store_box 24 _ _ (by rfl) y1 0 #[.string a1, .slice (some ⟨q8, 0, none⟩) (n + 1) k8] (by rfl) (by rfl) 24 _ (G5.out.df _ rfl).1 (by kernel_rfl) (by simp) (by simp [Value.oneCell']) ?_
                  intro wz hz hgz
                  obtain ⟨hbl, hnx⟩ := GX.whole (name := a1) G5.out (by rw [List.length_append, HN.out]; rfl) hz hgz
                  have HNX := hide hnx
                  refine hK.out _ _ hbl ?_
                  clear hz hgz hbl hnx
                  clear hK K
                  try simp only [Act.put]
                  refine wpAnyR_done (by kernel_rfl) ?_ _
                  go_wp2_with (fail)
                  go_meet
                  exact ⟨y1, q8, k8, rfl, HNX.out⟩
              · go_simp
                have hgx := GX.mkDef G2.out
                have hbl : Below W3.heap.size (wy2) ((wy2).alloc (.cells #[.string ⟨#[]⟩, .slice none 0 0] 24 (0, 0))) := (Below.refl _ _).alloc G2.out.bb.size _
                refine hK.out _ _ hbl ?_
                obtain ⟨y1, hy1⟩ : ∃ y1, (wy2).heap.size = y1 := ⟨_, rfl⟩
                obtain ⟨wy3, hwy3⟩ : ∃ wy3, (wy2).alloc (.cells #[.string ⟨#[]⟩, .slice none 0 0] 24 (0, 0)) = wy3 := ⟨_, rfl⟩
                rw [hy1, hwy3] at hgx
                rw [hy1, hwy3]
                have G3 := hide hgx
                clear hgx hbl hy1 hwy3
                clear hK K
                try (simp only [Act.put]; try simp only [List.setIfInBounds_toArray]; try simp only [List.set_cons_zero, List.set_cons_succ])
                refine wpAnyR_only (i := 7) rfl (by kernel_rfl) (by rfl) fun K hK => ?_
                refine wp_buildSlice_one 22 34 _ (by rfl) i0 _ 6 Try.underlying22 HI.out HZ0.out HZ1.out (by omega) (by omega) #[.string s.name, .int .i64 s.stub, .int .i64 s.retry, .int .i64 s.wait, .bool s.undo, .bool s.pivot] (by rfl) (by rfl) ?_
                have hgx := GX.mkOne G3.out
                have hbl : Below W3.heap.size (wy3) ((wy3).alloc (.cells s.cells.toArray 34 (0, 0))) := (Below.refl _ _).alloc G3.out.bb.size _
                unfold StepD.cells at hgx hbl
                refine hK.out _ _ hbl (?_ : wpAnyR _ _ _ _ _ _ _ (Act.put _ (some 36) _) _)
                obtain ⟨o1, ho1⟩ : ∃ o1, (wy3).heap.size = o1 := ⟨_, rfl⟩
                obtain ⟨wy4, hwy4⟩ : ∃ wy4, (wy3).alloc (.cells #[.string s.name, .int .i64 s.stub, .int .i64 s.retry, .int .i64 s.wait, .bool s.undo, .bool s.pivot] 34 (0, 0)) = wy4 := ⟨_, rfl⟩
                rw [ho1, hwy4] at hgx
                rw [ho1, hwy4]
                have G4 := hide hgx
                clear hgx hbl ho1 hwy4
                clear hK K
                try (simp only [Act.put]; try simp only [List.setIfInBounds_toArray]; try simp only [List.set_cons_zero, List.set_cons_succ])
                refine wpAnyR_only (i := 8) rfl (by kernel_rfl) (by rfl) fun K hK => ?_
                refine wp_append_gen _ _ 22 (by rfl) W3.heap.size 34 i0 _ 6 48 Try.underlying22 HI.out HZ0.out HZ1.out HZ2.out (by rfl) (by omega) (.slice (some ⟨q6, 0, none⟩) n k6) n (l.flatMap StepD.cells) (by rfl) (G4.out.row _ _ _ rfl) (fun _ => True) (some ⟨o1, 0, none⟩) 1 1 s.cells (by rfl) (flat_block (G4.out.one _ rfl).1) (by unfold maxLen; omega) (by omega) G4.out.bb.size ?_
                intro v8 wy5 ho hg
                rw [← flat_snoc] at ho
                obtain ⟨q8, k8, rfl⟩ := own_pos ho (by omega)
                obtain ⟨hbl, hgx⟩ := GX.app2 G4.out ho hg
                have G5 := hide hgx
                refine hK.out _ _ hbl (?_ : wpAnyR _ _ _ _ _ _ _ (Act.put _ (some 37) _) _)
                clear ho hg hbl hgx
                clear hK K
                try (simp only [Act.put]; try simp only [List.setIfInBounds_toArray]; try simp only [List.set_cons_zero, List.set_cons_succ])
                refine wpAnyR_take (pre_below W3.heap.size) (i := 9) (d := some 38) (v := .agg #[.string a1, .slice (some ⟨q8, 0, none⟩) (n + 1) k8]) rfl rfl (by kernel_rfl) (by kernel_rfl) (by kernel_rfl) (fun _ _ _ h => h) (by rfl) ?yanxxy9 ?_
                case yanxxy9 => (intro w' hw'; go_simp; try (with_reducible rfl))
                simp only [Act.put]; try simp only [List.setIfInBounds_toArray]; try simp only [List.set_cons_zero, List.set_cons_succ]
                refine wpAnyR_only (i := 11) rfl (by kernel_rfl) (by rfl) fun K hK => ?_
                refine wp_store_box 24 _ _ (by rfl) y1 0 #[.string a1, .slice (some ⟨q8, 0, none⟩) (n + 1) k8] (by rfl) (by rfl) 24 _ (G5.out.df _ rfl).1 (by kernel_rfl) (by simp) (by simp [Value.oneCell']) ?_
                intro wz hz hgz
                obtain ⟨hbl, hnx⟩ := GX.whole (name := a1) G5.out (by rw [List.length_append, HN.out]; rfl) hz hgz
                have HNX := hide hnx
                refine hK.out _ _ hbl ?_
                clear hz hgz hbl hnx
                clear hK K
                try simp only [Act.put]
                refine wpAnyR_done (by kernel_rfl) ?_ _
                go_wp2_with (fail)
                go_meet
                exact ⟨y1, q8, k8, rfl, HNX.out⟩
            · skip
              refine wp_buildSlice_one 22 34 _ (by rfl) i0 _ 6 Try.underlying22 HI.out HZ0.out HZ1.out (by omega) (by omega) #[.string s.name, .int .i64 s.stub, .int .i64 s.retry, .int .i64 s.wait, .bool s.undo, .bool s.pivot] (by rfl) (by rfl) ?_
              have hgx := GX.mkOne G1.out
              have hbl : Below W3.heap.size (wy1) ((wy1).alloc (.cells s.cells.toArray 34 (0, 0))) := (Below.refl _ _).alloc G1.out.bb.size _
              unfold StepD.cells at hgx hbl
              refine hK.out _ _ hbl (?_ : wpAnyR _ _ _ _ _ _ _ (Act.put _ (some 36) _) _)
              obtain ⟨o1, ho1⟩ : ∃ o1, (wy1).heap.size = o1 := ⟨_, rfl⟩
              obtain ⟨wy2, hwy2⟩ : ∃ wy2, (wy1).alloc (.cells #[.string s.name, .int .i64 s.stub, .int .i64 s.retry, .int .i64 s.wait, .bool s.undo, .bool s.pivot] 34 (0, 0)) = wy2 := ⟨_, rfl⟩
              rw [ho1, hwy2] at hgx
              rw [ho1, hwy2]
              have G2 := hide hgx
              clear hgx hbl ho1 hwy2
              clear hK K
              try (simp only [Act.put]; try simp only [List.setIfInBounds_toArray]; try simp only [List.set_cons_zero, List.set_cons_succ])
              refine wpAnyR_two (i := 5) (j := 10) rfl rfl (by kernel_rfl) (by rfl) (by rfl) (fun K hK => ?_) (fun K hK => ?_)
              · skip
                have hfl : FlatAt F (wy2) 6 (.slice A n cap) n (l.flatMap StepD.cells) := by have h := StepsAt.kept HLD.out (Kept.of_below G2.out.bb F); unfold StepsAt at h; rwa [HN.out] at h
                refine wp_append_gen _ _ 22 (by rfl) W3.heap.size 34 i0 _ 6 48 Try.underlying22 HI.out HZ0.out HZ1.out HZ2.out (by rfl) (by omega) (.slice (some ⟨q0, 0, none⟩) 0 0) 0 [] (by rfl) (G2.out.row _ _ _ rfl) F A n cap (l.flatMap StepD.cells) (by rfl) hfl (by unfold maxLen; omega) (by omega) G2.out.bb.size ?_
                intro v6 wy3 ho hg
                rw [Nat.zero_add, List.nil_append] at ho
                obtain ⟨q6, k6, rfl⟩ := own_pos ho hn1
                obtain ⟨hbl, hgx⟩ := GX.app1 G2.out ho hg
                have G3 := hide hgx
                refine hK.out _ _ hbl (?_ : wpAnyR _ _ _ _ _ _ _ (Act.put _ (some 34) _) _)
                clear ho hg hbl hgx hfl
                clear hK K
                try (simp only [Act.put]; try simp only [List.setIfInBounds_toArray]; try simp only [List.set_cons_zero, List.set_cons_succ])
                refine wpAnyR_two (i := 8) (j := 10) rfl rfl (by kernel_rfl) (by rfl) (by rfl) (fun K hK => ?_) (fun K hK => ?_)
                · skip
                  refine wp_append_gen _ _ 22 (by rfl) W3.heap.size 34 i0 _ 6 48 Try.underlying22 HI.out HZ0.out HZ1.out HZ2.out (by rfl) (by omega) (.slice (some ⟨q6, 0, none⟩) n k6) n (l.flatMap StepD.cells) (by rfl) (G3.out.row _ _ _ rfl) (fun _ => True) (some ⟨o1, 0, none⟩) 1 1 s.cells (by rfl) (flat_block (G3.out.one _ rfl).1) (by unfold maxLen; omega) (by omega) G3.out.bb.size ?_
                  intro v8 wy4 ho hg
                  rw [← flat_snoc] at ho
                  obtain ⟨q8, k8, rfl⟩ := own_pos ho (by omega)
                  obtain ⟨hbl, hgx⟩ := GX.app2 G3.out ho hg
                  have G4 := hide hgx
                  refine hK.out _ _ hbl (?_ : wpAnyR _ _ _ _ _ _ _ (Act.put _ (some 37) _) _)
                  clear ho hg hbl hgx
                  clear hK K
                  try (simp only [Act.put]; try simp only [List.setIfInBounds_toArray]; try simp only [List.set_cons_zero, List.set_cons_succ])
                  refine wpAnyR_take (pre_below W3.heap.size) (i := 9) (d := some 38) (v := .agg #[.string a1, .slice (some ⟨q8, 0, none⟩) (n + 1) k8]) rfl rfl (by kernel_rfl) (by kernel_rfl) (by kernel_rfl) (fun _ _ _ h => h) (by rfl) ?yanxyxx9 ?_
                  case yanxyxx9 => (intro w' hw'; go_simp; try (with_reducible rfl))
                  simp only [Act.put]; try simp only [List.setIfInBounds_toArray]; try simp only [List.set_cons_zero, List.set_cons_succ]
                  refine wpAnyR_only (i := 10) rfl (by kernel_rfl) (by rfl) fun K hK => ?_
                  go_simp
                  have hgx := GX.mkDef G4.out
                  have hbl : Below W3.heap.size (wy4) ((wy4).alloc (.cells #[.string ⟨#[]⟩, .slice none 0 0] 24 (0, 0))) := (Below.refl _ _).alloc G4.out.bb.size _
                  refine hK.out _ _ hbl ?_
                  obtain ⟨y1, hy1⟩ : ∃ y1, (wy4).heap.size = y1 := ⟨_, rfl⟩
                  obtain ⟨wy5, hwy5⟩ : ∃ wy5, (wy4).alloc (.cells #[.string ⟨#[]⟩, .slice none 0 0] 24 (0, 0)) = wy5 := ⟨_, rfl⟩
                  rw [hy1, hwy5] at hgx
                  rw [hy1, hwy5]
                  have G5 := hide hgx
                  clear hgx hbl hy1 hwy5
                  clear hK K
                  try (simp only [Act.put]; try simp only [List.setIfInBounds_toArray]; try simp only [List.set_cons_zero, List.set_cons_succ])
                  refine wpAnyR_only (i := 11) rfl (by kernel_rfl) (by rfl) fun K hK => ?_
                  refine wp_store_box 24 _ _ (by rfl) y1 0 #[.string a1, .slice (some ⟨q8, 0, none⟩) (n + 1) k8] (by rfl) (by rfl) 24 _ (G5.out.df _ rfl).1 (by kernel_rfl) (by simp) (by simp [Value.oneCell']) ?_
                  intro wz hz hgz
                  obtain ⟨hbl, hnx⟩ := GX.whole (name := a1) G5.out (by rw [List.length_append, HN.out]; rfl) hz hgz
                  have HNX := hide hnx
                  refine hK.out _ _ hbl ?_
                  clear hz hgz hbl hnx
                  clear hK K
                  try simp only [Act.put]
                  refine wpAnyR_done (by kernel_rfl) ?_ _
                  go_wp2_with (fail)
                  go_meet
                  exact ⟨y1, q8, k8, rfl, HNX.out⟩
                · go_simp
                  have hgx := GX.mkDef G3.out
                  have hbl : Below W3.heap.size (wy3) ((wy3).alloc (.cells #[.string ⟨#[]⟩, .slice none 0 0] 24 (0, 0))) := (Below.refl _ _).alloc G3.out.bb.size _
                  refine hK.out _ _ hbl ?_
                  obtain ⟨y1, hy1⟩ : ∃ y1, (wy3).heap.size = y1 := ⟨_, rfl⟩
                  obtain ⟨wy4, hwy4⟩ : ∃ wy4, (wy3).alloc (.cells #[.string ⟨#[]⟩, .slice none 0 0] 24 (0, 0)) = wy4 := ⟨_, rfl⟩
                  rw [hy1, hwy4] at hgx
                  rw [hy1, hwy4]
                  have G4 := hide hgx
                  clear hgx hbl hy1 hwy4
                  clear hK K
                  try (simp only [Act.put]; try simp only [List.setIfInBounds_toArray]; try simp only [List.set_cons_zero, List.set_cons_succ])
                  refine wpAnyR_only (i := 8) rfl (by kernel_rfl) (by rfl) fun K hK => ?_
                  refine wp_append_gen _ _ 22 (by rfl) W3.heap.size 34 i0 _ 6 48 Try.underlying22 HI.out HZ0.out HZ1.out HZ2.out (by rfl) (by omega) (.slice (some ⟨q6, 0, none⟩) n k6) n (l.flatMap StepD.cells) (by rfl) (G4.out.row _ _ _ rfl) (fun _ => True) (some ⟨o1, 0, none⟩) 1 1 s.cells (by rfl) (flat_block (G4.out.one _ rfl).1) (by unfold maxLen; omega) (by omega) G4.out.bb.size ?_
                  intro v8 wy5 ho hg
                  rw [← flat_snoc] at ho
                  obtain ⟨q8, k8, rfl⟩ := own_pos ho (by omega)
                  obtain ⟨hbl, hgx⟩ := GX.app2 G4.out ho hg
                  have G5 := hide hgx
                  refine hK.out _ _ hbl (?_ : wpAnyR _ _ _ _ _ _ _ (Act.put _ (some 37) _) _)
                  clear ho hg hbl hgx
                  clear hK K
                  try (simp only [Act.put]; try simp only [List.setIfInBounds_toArray]; try simp only [List.set_cons_zero, List.set_cons_succ])
                  refine wpAnyR_take (pre_below W3.heap.size) (i := 9) (d := some 38) (v := .agg #[.string a1, .slice (some ⟨q8, 0, none⟩) (n + 1) k8]) rfl rfl (by kernel_rfl) (by kernel_rfl) (by kernel_rfl) (fun _ _ _ h => h) (by rfl) ?yanxyxy9 ?_
                  case yanxyxy9 => (intro w' hw'; go_simp; try (with_reducible rfl))
                  simp only [Act.put]; try simp only [List.setIfInBounds_toArray]; try simp only [List.set_cons_zero, List.set_cons_succ]
                  refine wpAnyR_only (i := 11) rfl (by kernel_rfl) (by rfl) fun K hK => ?_
                  refine wp_store_box 24 _ _ (by rfl) y1 0 #[.string a1, .slice (some ⟨q8, 0, none⟩) (n + 1) k8] (by rfl) (by rfl) 24 _ (G5.out.df _ rfl).1 (by kernel_rfl) (by simp) (by simp [Value.oneCell']) ?_
                  intro wz hz hgz
                  obtain ⟨hbl, hnx⟩ := GX.whole (name := a1) G5.out (by rw [List.length_append, HN.out]; rfl) hz hgz
                  have HNX := hide hnx
                  refine hK.out _ _ hbl ?_
                  clear hz hgz hbl hnx
                  clear hK K
                  try simp only [Act.put]
                  refine wpAnyR_done (by kernel_rfl) ?_ _
                  go_wp2_with (fail)
                  go_meet
                  exact ⟨y1, q8, k8, rfl, HNX.out⟩
              · go_simp
                have hgx := GX.mkDef G2.out
                have hbl : Below W3.heap.size (wy2) ((wy2).alloc (.cells #[.string ⟨#[]⟩, .slice none 0 0] 24 (0, 0))) := (Below.refl _ _).alloc G2.out.bb.size _
                refine hK.out _ _ hbl ?_
                obtain ⟨y1, hy1⟩ : ∃ y1, (wy2).heap.size = y1 := ⟨_, rfl⟩
                obtain ⟨wy3, hwy3⟩ : ∃ wy3, (wy2).alloc (.cells #[.string ⟨#[]⟩, .slice none 0 0] 24 (0, 0)) = wy3 := ⟨_, rfl⟩
                rw [hy1, hwy3] at hgx
                rw [hy1, hwy3]
                have G3 := hide hgx
                clear hgx hbl hy1 hwy3
                clear hK K
                try (simp only [Act.put]; try simp only [List.setIfInBounds_toArray]; try simp only [List.set_cons_zero, List.set_cons_succ])
                refine wpAnyR_only (i := 5) rfl (by kernel_rfl) (by rfl) fun K hK => ?_
                have hfl : FlatAt F (wy3) 6 (.slice A n cap) n (l.flatMap StepD.cells) := by have h := StepsAt.kept HLD.out (Kept.of_below G3.out.bb F); unfold StepsAt at h; rwa [HN.out] at h
                refine wp_append_gen _ _ 22 (by rfl) W3.heap.size 34 i0 _ 6 48 Try.underlying22 HI.out HZ0.out HZ1.out HZ2.out (by rfl) (by omega) (.slice (some ⟨q0, 0, none⟩) 0 0) 0 [] (by rfl) (G3.out.row _ _ _ rfl) F A n cap (l.flatMap StepD.cells) (by rfl) hfl (by unfold maxLen; omega) (by omega) G3.out.bb.size ?_
                intro v6 wy4 ho hg
                rw [Nat.zero_add, List.nil_append] at ho
                obtain ⟨q6, k6, rfl⟩ := own_pos ho hn1
                obtain ⟨hbl, hgx⟩ := GX.app1 G3.out ho hg
                have G4 := hide hgx
                refine hK.out _ _ hbl (?_ : wpAnyR _ _ _ _ _ _ _ (Act.put _ (some 34) _) _)
                clear ho hg hbl hgx hfl
                clear hK K
                try (simp only [Act.put]; try simp only [List.setIfInBounds_toArray]; try simp only [List.set_cons_zero, List.set_cons_succ])
                refine wpAnyR_only (i := 8) rfl (by kernel_rfl) (by rfl) fun K hK => ?_
                refine wp_append_gen _ _ 22 (by rfl) W3.heap.size 34 i0 _ 6 48 Try.underlying22 HI.out HZ0.out HZ1.out HZ2.out (by rfl) (by omega) (.slice (some ⟨q6, 0, none⟩) n k6) n (l.flatMap StepD.cells) (by rfl) (G4.out.row _ _ _ rfl) (fun _ => True) (some ⟨o1, 0, none⟩) 1 1 s.cells (by rfl) (flat_block (G4.out.one _ rfl).1) (by unfold maxLen; omega) (by omega) G4.out.bb.size ?_
                intro v8 wy5 ho hg
                rw [← flat_snoc] at ho
                obtain ⟨q8, k8, rfl⟩ := own_pos ho (by omega)
                obtain ⟨hbl, hgx⟩ := GX.app2 G4.out ho hg
                have G5 := hide hgx
                refine hK.out _ _ hbl (?_ : wpAnyR _ _ _ _ _ _ _ (Act.put _ (some 37) _) _)
                clear ho hg hbl hgx
                clear hK K
                try (simp only [Act.put]; try simp only [List.setIfInBounds_toArray]; try simp only [List.set_cons_zero, List.set_cons_succ])
                refine wpAnyR_take (pre_below W3.heap.size) (i := 9) (d := some 38) (v := .agg #[.string a1, .slice (some ⟨q8, 0, none⟩) (n + 1) k8]) rfl rfl (by kernel_rfl) (by kernel_rfl) (by kernel_rfl) (fun _ _ _ h => h) (by rfl) ?yanxyy9 ?_
                case yanxyy9 => (intro w' hw'; go_simp; try (with_reducible rfl))
                simp only [Act.put]; try simp only [List.setIfInBounds_toArray]; try simp only [List.set_cons_zero, List.set_cons_succ]
                refine wpAnyR_only (i := 11) rfl (by kernel_rfl) (by rfl) fun K hK => ?_
                refine wp_store_box 24 _ _ (by rfl) y1 0 #[.string a1, .slice (some ⟨q8, 0, none⟩) (n + 1) k8] (by rfl) (by rfl) 24 _ (G5.out.df _ rfl).1 (by kernel_rfl) (by simp) (by simp [Value.oneCell']) ?_
                intro wz hz hgz
                obtain ⟨hbl, hnx⟩ := GX.whole (name := a1) G5.out (by rw [List.length_append, HN.out]; rfl) hz hgz
                have HNX := hide hnx
                refine hK.out _ _ hbl ?_
                clear hz hgz hbl hnx
                clear hK K
                try simp only [Act.put]
                refine wpAnyR_done (by kernel_rfl) ?_ _
                go_wp2_with (fail)
                go_meet
                exact ⟨y1, q8, k8, rfl, HNX.out⟩
            · go_simp
              have hgx := GX.mkDef G1.out
              have hbl : Below W3.heap.size (wy1) ((wy1).alloc (.cells #[.string ⟨#[]⟩, .slice none 0 0] 24 (0, 0))) := (Below.refl _ _).alloc G1.out.bb.size _
              refine hK.out _ _ hbl ?_
              obtain ⟨y1, hy1⟩ : ∃ y1, (wy1).heap.size = y1 := ⟨_, rfl⟩
              obtain ⟨wy2, hwy2⟩ : ∃ wy2, (wy1).alloc (.cells #[.string ⟨#[]⟩, .slice none 0 0] 24 (0, 0)) = wy2 := ⟨_, rfl⟩
              rw [hy1, hwy2] at hgx
              rw [hy1, hwy2]
              have G2 := hide hgx
              clear hgx hbl hy1 hwy2
              clear hK K
              try (simp only [Act.put]; try simp only [List.setIfInBounds_toArray]; try simp only [List.set_cons_zero, List.set_cons_succ])
              refine wpAnyR_two (i := 5) (j := 7) rfl rfl (by kernel_rfl) (by rfl) (by rfl) (fun K hK => ?_) (fun K hK => ?_)
              · skip
                have hfl : FlatAt F (wy2) 6 (.slice A n cap) n (l.flatMap StepD.cells) := by have h := StepsAt.kept HLD.out (Kept.of_below G2.out.bb F); unfold StepsAt at h; rwa [HN.out] at h
                refine wp_append_gen _ _ 22 (by rfl) W3.heap.size 34 i0 _ 6 48 Try.underlying22 HI.out HZ0.out HZ1.out HZ2.out (by rfl) (by omega) (.slice (some ⟨q0, 0, none⟩) 0 0) 0 [] (by rfl) (G2.out.row _ _ _ rfl) F A n cap (l.flatMap StepD.cells) (by rfl) hfl (by unfold maxLen; omega) (by omega) G2.out.bb.size ?_
                intro v6 wy3 ho hg
                rw [Nat.zero_add, List.nil_append] at ho
                obtain ⟨q6, k6, rfl⟩ := own_pos ho hn1
                obtain ⟨hbl, hgx⟩ := GX.app1 G2.out ho hg
                have G3 := hide hgx
                refine hK.out _ _ hbl (?_ : wpAnyR _ _ _ _ _ _ _ (Act.put _ (some 34) _) _)
                clear ho hg hbl hgx hfl
                clear hK K
                try (simp only [Act.put]; try simp only [List.setIfInBounds_toArray]; try simp only [List.set_cons_zero, List.set_cons_succ])
                refine wpAnyR_only (i := 7) rfl (by kernel_rfl) (by rfl) fun K hK => ?_
                refine wp_buildSlice_one 22 34 _ (by rfl) i0 _ 6 Try.underlying22 HI.out HZ0.out HZ1.out (by omega) (by omega) #[.string s.name, .int .i64 s.stub, .int .i64 s.retry, .int .i64 s.wait, .bool s.undo, .bool s.pivot] (by rfl) (by rfl) ?_
                have hgx := GX.mkOne G3.out
                have hbl : Below W3.heap.size (wy3) ((wy3).alloc (.cells s.cells.toArray 34 (0, 0))) := (Below.refl _ _).alloc G3.out.bb.size _
                unfold StepD.cells at hgx hbl
                refine hK.out _ _ hbl (?_ : wpAnyR _ _ _ _ _ _ _ (Act.put _ (some 36) _) _)
                obtain ⟨o1, ho1⟩ : ∃ o1, (wy3).heap.size = o1 := ⟨_, rfl⟩
                obtain ⟨wy4, hwy4⟩ : ∃ wy4, (wy3).alloc (.cells #[.string s.name, .int .i64 s.stub, .int .i64 s.retry, .int .i64 s.wait, .bool s.undo, .bool s.pivot] 34 (0, 0)) = wy4 := ⟨_, rfl⟩
                rw [ho1, hwy4] at hgx
                rw [ho1, hwy4]
                have G4 := hide hgx
                clear hgx hbl ho1 hwy4
                clear hK K
                try (simp only [Act.put]; try simp only [List.setIfInBounds_toArray]; try simp only [List.set_cons_zero, List.set_cons_succ])
                refine wpAnyR_only (i := 8) rfl (by kernel_rfl) (by rfl) fun K hK => ?_
                refine wp_append_gen _ _ 22 (by rfl) W3.heap.size 34 i0 _ 6 48 Try.underlying22 HI.out HZ0.out HZ1.out HZ2.out (by rfl) (by omega) (.slice (some ⟨q6, 0, none⟩) n k6) n (l.flatMap StepD.cells) (by rfl) (G4.out.row _ _ _ rfl) (fun _ => True) (some ⟨o1, 0, none⟩) 1 1 s.cells (by rfl) (flat_block (G4.out.one _ rfl).1) (by unfold maxLen; omega) (by omega) G4.out.bb.size ?_
                intro v8 wy5 ho hg
                rw [← flat_snoc] at ho
                obtain ⟨q8, k8, rfl⟩ := own_pos ho (by omega)
                obtain ⟨hbl, hgx⟩ := GX.app2 G4.out ho hg
                have G5 := hide hgx
                refine hK.out _ _ hbl (?_ : wpAnyR _ _ _ _ _ _ _ (Act.put _ (some 37) _) _)
                clear ho hg hbl hgx
                clear hK K
                try (simp only [Act.put]; try simp only [List.setIfInBounds_toArray]; try simp only [List.set_cons_zero, List.set_cons_succ])
                refine wpAnyR_take (pre_below W3.heap.size) (i := 9) (d := some 38) (v := .agg #[.string a1, .slice (some ⟨q8, 0, none⟩) (n + 1) k8]) rfl rfl (by kernel_rfl) (by kernel_rfl) (by kernel_rfl) (fun _ _ _ h => h) (by rfl) ?yanxzx9 ?_
                case yanxzx9 => (intro w' hw'; go_simp; try (with_reducible rfl))
                simp only [Act.put]; try simp only [List.setIfInBounds_toArray]; try simp only [List.set_cons_zero, List.set_cons_succ]
                refine wpAnyR_only (i := 11) rfl (by kernel_rfl) (by rfl) fun K hK => ?_
                refine wp_store_box 24 _ _ (by rfl) y1 0 #[.string a1, .slice (some ⟨q8, 0, none⟩) (n + 1) k8] (by rfl) (by rfl) 24 _ (G5.out.df _ rfl).1 (by kernel_rfl) (by simp) (by simp [Value.oneCell']) ?_
                intro wz hz hgz
                obtain ⟨hbl, hnx⟩ := GX.whole (name := a1) G5.out (by rw [List.length_append, HN.out]; rfl) hz hgz
                have HNX := hide hnx
                refine hK.out _ _ hbl ?_
                clear hz hgz hbl hnx
                clear hK K
                try simp only [Act.put]
                refine wpAnyR_done (by kernel_rfl) ?_ _
                go_wp2_with (fail)
                go_meet
                exact ⟨y1, q8, k8, rfl, HNX.out⟩
              · skip
                refine wp_buildSlice_one 22 34 _ (by rfl) i0 _ 6 Try.underlying22 HI.out HZ0.out HZ1.out (by omega) (by omega) #[.string s.name, .int .i64 s.stub, .int .i64 s.retry, .int .i64 s.wait, .bool s.undo, .bool s.pivot] (by rfl) (by rfl) ?_
                have hgx := GX.mkOne G2.out
                have hbl : Below W3.heap.size (wy2) ((wy2).alloc (.cells s.cells.toArray 34 (0, 0))) := (Below.refl _ _).alloc G2.out.bb.size _
                unfold StepD.cells at hgx hbl
                refine hK.out _ _ hbl (?_ : wpAnyR _ _ _ _ _ _ _ (Act.put _ (some 36) _) _)
                obtain ⟨o1, ho1⟩ : ∃ o1, (wy2).heap.size = o1 := ⟨_, rfl⟩
                obtain ⟨wy3, hwy3⟩ : ∃ wy3, (wy2).alloc (.cells #[.string s.name, .int .i64 s.stub, .int .i64 s.retry, .int .i64 s.wait, .bool s.undo, .bool s.pivot] 34 (0, 0)) = wy3 := ⟨_, rfl⟩
                rw [ho1, hwy3] at hgx
                rw [ho1, hwy3]
                have G3 := hide hgx
                clear hgx hbl ho1 hwy3
                clear hK K
                try (simp only [Act.put]; try simp only [List.setIfInBounds_toArray]; try simp only [List.set_cons_zero, List.set_cons_succ])
                refine wpAnyR_only (i := 5) rfl (by kernel_rfl) (by rfl) fun K hK => ?_
                have hfl : FlatAt F (wy3) 6 (.slice A n cap) n (l.flatMap StepD.cells) := by have h := StepsAt.kept HLD.out (Kept.of_below G3.out.bb F); unfold StepsAt at h; rwa [HN.out] at h
                refine wp_append_gen _ _ 22 (by rfl) W3.heap.size 34 i0 _ 6 48 Try.underlying22 HI.out HZ0.out HZ1.out HZ2.out (by rfl) (by omega) (.slice (some ⟨q0, 0, none⟩) 0 0) 0 [] (by rfl) (G3.out.row _ _ _ rfl) F A n cap (l.flatMap StepD.cells) (by rfl) hfl (by unfold maxLen; omega) (by omega) G3.out.bb.size ?_
                intro v6 wy4 ho hg
                rw [Nat.zero_add, List.nil_append] at ho
                obtain ⟨q6, k6, rfl⟩ := own_pos ho hn1
                obtain ⟨hbl, hgx⟩ := GX.app1 G3.out ho hg
                have G4 := hide hgx
                refine hK.out _ _ hbl (?_ : wpAnyR _ _ _ _ _ _ _ (Act.put _ (some 34) _) _)
                clear ho hg hbl hgx hfl
                clear hK K
                try (simp only [Act.put]; try simp only [List.setIfInBounds_toArray]; try simp only [List.set_cons_zero, List.set_cons_succ])
                refine wpAnyR_only (i := 8) rfl (by kernel_rfl) (by rfl) fun K hK => ?_
                refine wp_append_gen _ _ 22 (by rfl) W3.heap.size 34 i0 _ 6 48 Try.underlying22 HI.out HZ0.out HZ1.out HZ2.out (by rfl) (by omega) (.slice (some ⟨q6, 0, none⟩) n k6) n (l.flatMap StepD.cells) (by rfl) (G4.out.row _ _ _ rfl) (fun _ => True) (some ⟨o1, 0, none⟩) 1 1 s.cells (by rfl) (flat_block (G4.out.one _ rfl).1) (by unfold maxLen; omega) (by omega) G4.out.bb.size ?_
                intro v8 wy5 ho hg
                rw [← flat_snoc] at ho
                obtain ⟨q8, k8, rfl⟩ := own_pos ho (by omega)
                obtain ⟨hbl, hgx⟩ := GX.app2 G4.out ho hg
                have G5 := hide hgx
                refine hK.out _ _ hbl (?_ : wpAnyR _ _ _ _ _ _ _ (Act.put _ (some 37) _) _)
                clear ho hg hbl hgx
                clear hK K
                try (simp only [Act.put]; try simp only [List.setIfInBounds_toArray]; try simp only [List.set_cons_zero, List.set_cons_succ])
                refine wpAnyR_take (pre_below W3.heap.size) (i := 9) (d := some 38) (v := .agg #[.string a1, .slice (some ⟨q8, 0, none⟩) (n + 1) k8]) rfl rfl (by kernel_rfl) (by kernel_rfl) (by kernel_rfl) (fun _ _ _ h => h) (by rfl) ?yanxzy9 ?_
                case yanxzy9 => (intro w' hw'; go_simp; try (with_reducible rfl))
                simp only [Act.put]; try simp only [List.setIfInBounds_toArray]; try simp only [List.set_cons_zero, List.set_cons_succ]
                refine wpAnyR_only (i := 11) rfl (by kernel_rfl) (by rfl) fun K hK => ?_
                refine wp_store_box 24 _ _ (by rfl) y1 0 #[.string a1, .slice (some ⟨q8, 0, none⟩) (n + 1) k8] (by rfl) (by rfl) 24 _ (G5.out.df _ rfl).1 (by kernel_rfl) (by simp) (by simp [Value.oneCell']) ?_
                intro wz hz hgz
                obtain ⟨hbl, hnx⟩ := GX.whole (name := a1) G5.out (by rw [List.length_append, HN.out]; rfl) hz hgz
                have HNX := hide hnx
                refine hK.out _ _ hbl ?_
                clear hz hgz hbl hnx
                clear hK K
                try simp only [Act.put]
                refine wpAnyR_done (by kernel_rfl) ?_ _
                go_wp2_with (fail)
                go_meet
                exact ⟨y1, q8, k8, rfl, HNX.out⟩
          · skip
            refine wp_buildSlice_one 22 34 _ (by rfl) i0 _ 6 Try.underlying22 HI.out HZ0.out HZ1.out (by omega) (by omega) #[.string s.name, .int .i64 s.stub, .int .i64 s.retry, .int .i64 s.wait, .bool s.undo, .bool s.pivot] (by rfl) (by rfl) ?_
            have hgx := GX.mkOne (GX.start W3 s)
            have hbl : Below W3.heap.size (W3.drew) ((W3.drew).alloc (.cells s.cells.toArray 34 (0, 0))) := (Below.refl _ _).alloc (GX.start W3 s).bb.size _
            unfold StepD.cells at hgx hbl
            refine hK.out _ _ hbl (?_ : wpAnyR _ _ _ _ _ _ _ (Act.put _ (some 36) _) _)
            obtain ⟨o1, ho1⟩ : ∃ o1, (W3.drew).heap.size = o1 := ⟨_, rfl⟩
            obtain ⟨wy1, hwy1⟩ : ∃ wy1, (W3.drew).alloc (.cells #[.string s.name, .int .i64 s.stub, .int .i64 s.retry, .int .i64 s.wait, .bool s.undo, .bool s.pivot] 34 (0, 0)) = wy1 := ⟨_, rfl⟩
            rw [ho1, hwy1] at hgx
            rw [ho1, hwy1]
            have G1 := hide hgx
            clear hgx hbl ho1 hwy1
            clear hK K
            try (simp only [Act.put]; try simp only [List.setIfInBounds_toArray]; try simp only [List.set_cons_zero, List.set_cons_succ])
            refine wpAnyR_two (i := 2) (j := 10) rfl rfl (by kernel_rfl) (by rfl) (by rfl) (fun K hK => ?_) (fun K hK => ?_)
            · skip
              refine wp_empty_steps W3.heap.size (by exact G1.out.bb.size) (by rfl) ?_
              intro q0 wy2 ho hl
              have G2 := hide (GX.empty G1.out hl ho)
              refine hK.out _ _ (Below.mono hl G1.out.bb.size) (?_ : wpAnyR _ _ _ _ _ _ _ (Act.put _ (some 31) _) _)
              clear ho hl
              clear hK K
              try (simp only [Act.put]; try simp only [List.setIfInBounds_toArray]; try simp only [List.set_cons_zero, List.set_cons_succ])
              refine wpAnyR_two (i := 5) (j := 10) rfl rfl (by kernel_rfl) (by rfl) (by rfl) (fun K hK => ?_) (fun K hK => ?_)
              · skip
                have hfl : FlatAt F (wy2) 6 (.slice A n cap) n (l.flatMap StepD.cells) := by have h := StepsAt.kept HLD.out (Kept.of_below G2.out.bb F); unfold StepsAt at h; rwa [HN.out] at h
                refine wp_append_gen _ _ 22 (by rfl) W3.heap.size 34 i0 _ 6 48 Try.underlying22 HI.out HZ0.out HZ1.out HZ2.out (by rfl) (by omega) (.slice (some ⟨q0, 0, none⟩) 0 0) 0 [] (by rfl) (G2.out.row _ _ _ rfl) F A n cap (l.flatMap StepD.cells) (by rfl) hfl (by unfold maxLen; omega) (by omega) G2.out.bb.size ?_
                intro v6 wy3 ho hg
                rw [Nat.zero_add, List.nil_append] at ho
                obtain ⟨q6, k6, rfl⟩ := own_pos ho hn1
                obtain ⟨hbl, hgx⟩ := GX.app1 G2.out ho hg
                have G3 := hide hgx
                refine hK.out _ _ hbl (?_ : wpAnyR _ _ _ _ _ _ _ (Act.put _ (some 34) _) _)
                clear ho hg hbl hgx hfl
                clear hK K
                try (simp only [Act.put]; try simp only [List.setIfInBounds_toArray]; try simp only [List.set_cons_zero, List.set_cons_succ])
                refine wpAnyR_two (i := 8) (j := 10) rfl rfl (by kernel_rfl) (by rfl) (by rfl) (fun K hK => ?_) (fun K hK => ?_)
                · skip
                  refine wp_append_gen _ _ 22 (by rfl) W3.heap.size 34 i0 _ 6 48 Try.underlying22 HI.out HZ0.out HZ1.out HZ2.out (by rfl) (by omega) (.slice (some ⟨q6, 0, none⟩) n k6) n (l.flatMap StepD.cells) (by rfl) (G3.out.row _ _ _ rfl) (fun _ => True) (some ⟨o1, 0, none⟩) 1 1 s.cells (by rfl) (flat_block (G3.out.one _ rfl).1) (by unfold maxLen; omega) (by omega) G3.out.bb.size ?_
                  intro v8 wy4 ho hg
                  rw [← flat_snoc] at ho
                  obtain ⟨q8, k8, rfl⟩ := own_pos ho (by omega)
                  obtain ⟨hbl, hgx⟩ := GX.app2 G3.out ho hg
                  have G4 := hide hgx
                  refine hK.out _ _ hbl (?_ : wpAnyR _ _ _ _ _ _ _ (Act.put _ (some 37) _) _)
                  clear ho hg hbl hgx
                  clear hK K
                  try (simp only [Act.put]; try simp only [List.setIfInBounds_toArray]; try simp only [List.set_cons_zero, List.set_cons_succ])
                  refine wpAnyR_take (pre_below W3.heap.size) (i := 9) (d := some 38) (v := .agg #[.string a1, .slice (some ⟨q8, 0, none⟩) (n + 1) k8]) rfl rfl (by kernel_rfl) (by kernel_rfl) (by kernel_rfl) (fun _ _ _ h => h) (by rfl) ?yanyxxx9 ?_
                  case yanyxxx9 => (intro w' hw'; go_simp; try (with_reducible rfl))
                  simp only [Act.put]; try simp only [List.setIfInBounds_toArray]; try simp only [List.set_cons_zero, List.set_cons_succ]
                  refine wpAnyR_only (i := 10) rfl (by kernel_rfl) (by rfl) fun K hK => ?_
                  go_simp
                  have hgx := GX.mkDef G4.out
                  have hbl : Below W3.heap.size (wy4) ((wy4).alloc (.cells #[.string ⟨#[]⟩, .slice none 0 0] 24 (0, 0))) := (Below.refl _ _).alloc G4.out.bb.size _
                  refine hK.out _ _ hbl ?_
                  obtain ⟨y1, hy1⟩ : ∃ y1, (wy4).heap.size = y1 := ⟨_, rfl⟩
                  obtain ⟨wy5, hwy5⟩ : ∃ wy5, (wy4).alloc (.cells #[.string ⟨#[]⟩, .slice none 0 0] 24 (0, 0)) = wy5 := ⟨_, rfl⟩
                  rw [hy1, hwy5] at hgx
                  rw [hy1, hwy5]
                  have G5 := hide hgx
                  clear hgx hbl hy1 hwy5
                  clear hK K
                  try (simp only [Act.put]; try simp only [List.setIfInBounds_toArray]; try simp only [List.set_cons_zero, List.set_cons_succ])
                  refine wpAnyR_only (i := 11) rfl (by kernel_rfl) (by rfl) fun K hK => ?_
                  refine wp_store_box 24 _ _ (by rfl) y1 0 #[.string a1, .slice (some ⟨q8, 0, none⟩) (n + 1) k8] (by rfl) (by rfl) 24 _ (G5.out.df _ rfl).1 (by kernel_rfl) (by simp) (by simp [Value.oneCell']) ?_
                  intro wz hz hgz
                  obtain ⟨hbl, hnx⟩ := GX.whole (name := a1) G5.out (by rw [List.length_append, HN.out]; rfl) hz hgz
                  have HNX := hide hnx
                  refine hK.out _ _ hbl ?_
                  clear hz hgz hbl hnx
                  clear hK K
                  try simp only [Act.put]
                  refine wpAnyR_done (by kernel_rfl) ?_ _
                  go_wp2_with (fail)
                  go_meet
                  exact ⟨y1, q8, k8, rfl, HNX.out⟩
                · go_simp
                  have hgx := GX.mkDef G3.out
                  have hbl : Below W3.heap.size (wy3) ((wy3).alloc (.cells #[.string ⟨#[]⟩, .slice none 0 0] 24 (0, 0))) := (Below.refl _ _).alloc G3.out.bb.size _
                  refine hK.out _ _ hbl ?_
                  obtain ⟨y1, hy1⟩ : ∃ y1, (wy3).heap.size = y1 := ⟨_, rfl⟩
                  obtain ⟨wy4, hwy4⟩ : ∃ wy4, (wy3).alloc (.cells #[.string ⟨#[]⟩, .slice none 0 0] 24 (0, 0)) = wy4 := ⟨_, rfl⟩
                  rw [hy1, hwy4] at hgx
                  rw [hy1, hwy4]
                  have G4 := hide hgx
                  clear hgx hbl hy1 hwy4
                  clear hK K
                  try (simp only [Act.put]; try simp only [List.setIfInBounds_toArray]; try simp only [List.set_cons_zero, List.set_cons_succ])
                  refine wpAnyR_only (i := 8) rfl (by kernel_rfl) (by rfl) fun K hK => ?_
                  refine wp_append_gen _ _ 22 (by rfl) W3.heap.size 34 i0 _ 6 48 Try.underlying22 HI.out HZ0.out HZ1.out HZ2.out (by rfl) (by omega) (.slice (some ⟨q6, 0, none⟩) n k6) n (l.flatMap StepD.cells) (by rfl) (G4.out.row _ _ _ rfl) (fun _ => True) (some ⟨o1, 0, none⟩) 1 1 s.cells (by rfl) (flat_block (G4.out.one _ rfl).1) (by unfold maxLen; omega) (by omega) G4.out.bb.size ?_
                  intro v8 wy5 ho hg
                  rw [← flat_snoc] at ho
                  obtain ⟨q8, k8, rfl⟩ := own_pos ho (by omega)
                  obtain ⟨hbl, hgx⟩ := GX.app2 G4.out ho hg
                  have G5 := hide hgx
                  refine hK.out _ _ hbl (?_ : wpAnyR _ _ _ _ _ _ _ (Act.put _ (some 37) _) _)
                  clear ho hg hbl hgx
                  clear hK K
                  try (simp only [Act.put]; try simp only [List.setIfInBounds_toArray]; try simp only [List.set_cons_zero, List.set_cons_succ])
                  refine wpAnyR_take (pre_below W3.heap.size) (i := 9) (d := some 38) (v := .agg #[.string a1, .slice (some ⟨q8, 0, none⟩) (n + 1) k8]) rfl rfl (by kernel_rfl) (by kernel_rfl) (by kernel_rfl) (fun _ _ _ h => h) (by rfl) ?yanyxxy9 ?_
                  case yanyxxy9 => (intro w' hw'; go_simp; try (with_reducible rfl))
                  simp only [Act.put]; try simp only [List.setIfInBounds_toArray]; try simp only [List.set_cons_zero, List.set_cons_succ]
                  refine wpAnyR_only (i := 11) rfl (by kernel_rfl) (by rfl) fun K hK => ?_
                  refine wp_store_box 24 _ _ (by rfl) y1 0 #[.string a1, .slice (some ⟨q8, 0, none⟩) (n + 1) k8] (by rfl) (by rfl) 24 _ (G5.out.df _ rfl).1 (by kernel_rfl) (by simp) (by simp [Value.oneCell']) ?_
                  intro wz hz hgz
                  obtain ⟨hbl, hnx⟩ := GX.whole (name := a1) G5.out (by rw [List.length_append, HN.out]; rfl) hz hgz
                  have HNX := hide hnx
                  refine hK.out _ _ hbl ?_
                  clear hz hgz hbl hnx
                  clear hK K
                  try simp only [Act.put]
                  refine wpAnyR_done (by kernel_rfl) ?_ _
                  go_wp2_with (fail)
                  go_meet
                  exact ⟨y1, q8, k8, rfl, HNX.out⟩
              · go_simp
                have hgx := GX.mkDef G2.out
                have hbl : Below W3.heap.size (wy2) ((wy2).alloc (.cells #[.string ⟨#[]⟩, .slice none 0 0] 24 (0, 0))) := (Below.refl _ _).alloc G2.out.bb.size _
                refine hK.out _ _ hbl ?_
                obtain ⟨y1, hy1⟩ : ∃ y1, (wy2).heap.size = y1 := ⟨_, rfl⟩
                obtain ⟨wy3, hwy3⟩ : ∃ wy3, (wy2).alloc (.cells #[.string ⟨#[]⟩, .slice none 0 0] 24 (0, 0)) = wy3 := ⟨_, rfl⟩
                rw [hy1, hwy3] at hgx
                rw [hy1, hwy3]
                have G3 := hide hgx
                clear hgx hbl hy1 hwy3
                clear hK K
                try (simp only [Act.put]; try simp only [List.setIfInBounds_toArray]; try simp only [List.set_cons_zero, List.set_cons_succ])
                refine wpAnyR_only (i := 5) rfl (by kernel_rfl) (by rfl) fun K hK => ?_
                have hfl : FlatAt F (wy3) 6 (.slice A n cap) n (l.flatMap StepD.cells) := by have h := StepsAt.kept HLD.out (Kept.of_below G3.out.bb F); unfold StepsAt at h; rwa [HN.out] at h
                refine wp_append_gen _ _ 22 (by rfl) W3.heap.size 34 i0 _ 6 48 Try.underlying22 HI.out HZ0.out HZ1.out HZ2.out (by rfl) (by omega) (.slice (some ⟨q0, 0, none⟩) 0 0) 0 [] (by rfl) (G3.out.row _ _ _ rfl) F A n cap (l.flatMap StepD.cells) (by rfl) hfl (by unfold maxLen; omega) (by omega) G3.out.bb.size ?_
                intro v6 wy4 ho hg
                rw [Nat.zero_add, List.nil_append] at ho
                obtain ⟨q6, k6, rfl⟩ := own_pos ho hn1
                obtain ⟨hbl, hgx⟩ := GX.app1 G3.out ho hg
                have G4 := hide hgx
                refine hK.out _ _ hbl (?_ : wpAnyR _ _ _ _ _ _ _ (Act.put _ (some 34) _) _)
                clear ho hg hbl hgx hfl
                clear hK K
                try (simp only [Act.put]; try simp only [List.setIfInBounds_toArray]; try simp only [List.set_cons_zero, List.set_cons_succ])
                refine wpAnyR_only (i := 8) rfl (by kernel_rfl) (by rfl) fun K hK => ?_
                refine wp_append_gen _ _ 22 (by rfl) W3.heap.size 34 i0 _ 6 48 Try.underlying22 HI.out HZ0.out HZ1.out HZ2.out (by rfl) (by omega) (.slice (some ⟨q6, 0, none⟩) n k6) n (l.flatMap StepD.cells) (by rfl) (G4.out.row _ _ _ rfl) (fun _ => True) (some ⟨o1, 0, none⟩) 1 1 s.cells (by rfl) (flat_block (G4.out.one _ rfl).1) (by unfold maxLen; omega) (by omega) G4.out.bb.size ?_
                intro v8 wy5 ho hg
                rw [← flat_snoc] at ho
                obtain ⟨q8, k8, rfl⟩ := own_pos ho (by omega)
                obtain ⟨hbl, hgx⟩ := GX.app2 G4.out ho hg
                have G5 := hide hgx
                refine hK.out _ _ hbl (?_ : wpAnyR _ _ _ _ _ _ _ (Act.put _ (some 37) _) _)
                clear ho hg hbl hgx
                clear hK K
                try (simp only [Act.put]; try simp only [List.setIfInBounds_toArray]; try simp only [List.set_cons_zero, List.set_cons_succ])
                refine wpAnyR_take (pre_below W3.heap.size) (i := 9) (d := some 38) (v := .agg #[.string a1, .slice (some ⟨q8, 0, none⟩) (n + 1) k8]) rfl rfl (by kernel_rfl) (by kernel_rfl) (by kernel_rfl) (fun _ _ _ h => h) (by rfl) ?yanyxy9 ?_
                case yanyxy9 => (intro w' hw'; go_simp; try (with_reducible rfl))
                simp only [Act.put]; try simp only [List.setIfInBounds_toArray]; try simp only [List.set_cons_zero, List.set_cons_succ]
                refine wpAnyR_only (i := 11) rfl (by kernel_rfl) (by rfl) fun K hK => ?_
                refine wp_store_box 24 _ _ (by rfl) y1 0 #[.string a1, .slice (some ⟨q8, 0, none⟩) (n + 1) k8] (by rfl) (by rfl) 24 _ (G5.out.df _ rfl).1 (by kernel_rfl) (by simp) (by simp [Value.oneCell']) ?_
                intro wz hz hgz
                obtain ⟨hbl, hnx⟩ := GX.whole (name := a1) G5.out (by rw [List.length_append, HN.out]; rfl) hz hgz
                have HNX := hide hnx
                refine hK.out _ _ hbl ?_
                clear hz hgz hbl hnx
                clear hK K
                try simp only [Act.put]
                refine wpAnyR_done (by kernel_rfl) ?_ _
                go_wp2_with (fail)
                go_meet
                exact ⟨y1, q8, k8, rfl, HNX.out⟩
            · go_simp
              have hgx := GX.mkDef G1.out
              have hbl : Below W3.heap.size (wy1) ((wy1).alloc (.cells #[.string ⟨#[]⟩, .slice none 0 0] 24 (0, 0))) := (Below.refl _ _).alloc G1.out.bb.size _
              refine hK.out _ _ hbl ?_
              obtain ⟨y1, hy1⟩ : ∃ y1, (wy1).heap.size = y1 := ⟨_, rfl⟩
              obtain ⟨wy2, hwy2⟩ : ∃ wy2, (wy1).alloc (.cells #[.string ⟨#[]⟩, .slice none 0 0] 24 (0, 0)) = wy2 := ⟨_, rfl⟩
              rw [hy1, hwy2] at hgx
              rw [hy1, hwy2]
              have G2 := hide hgx
              clear hgx hbl hy1 hwy2
              clear hK K
              try (simp only [Act.put]; try simp only [List.setIfInBounds_toArray]; try simp only [List.set_cons_zero, List.set_cons_succ])
              refine wpAnyR_only (i := 2) rfl (by kernel_rfl) (by rfl) fun K hK => ?_
              refine wp_empty_steps W3.heap.size (by exact G2.out.bb.size) (by rfl) ?_
              intro q0 wy3 ho hl
              have G3 := hide (GX.empty G2.out hl ho)
              refine hK.out _ _ (Below.mono hl G2.out.bb.size) (?_ : wpAnyR _ _ _ _ _ _ _ (Act.put _ (some 31) _) _)
              clear ho hl
              clear hK K
              try (simp only [Act.put]; try simp only [List.setIfInBounds_toArray]; try simp only [List.set_cons_zero, List.set_cons_succ])
              refine wpAnyR_only (i := 5) rfl (by kernel_rfl) (by rfl) fun K hK => ?_
              have hfl : FlatAt F (wy3) 6 (.slice A n cap) n (l.flatMap StepD.cells) := by have h := StepsAt.kept HLD.out (Kept.of_below G3.out.bb F); unfold StepsAt at h; rwa [HN.out] at h
              refine wp_append_gen _ _ 22 (by rfl) W3.heap.size 34 i0 _ 6 48 Try.underlying22 HI.out HZ0.out HZ1.out HZ2.out (by rfl) (by omega) (.slice (some ⟨q0, 0, none⟩) 0 0) 0 [] (by rfl) (G3.out.row _ _ _ rfl) F A n cap (l.flatMap StepD.cells) (by rfl) hfl (by unfold maxLen; omega) (by omega) G3.out.bb.size ?_
              intro v6 wy4 ho hg
              rw [Nat.zero_add, List.nil_append] at ho
              obtain ⟨q6, k6, rfl⟩ := own_pos ho hn1
              obtain ⟨hbl, hgx⟩ := GX.app1 G3.out ho hg
              have G4 := hide hgx
              refine hK.out _ _ hbl (?_ : wpAnyR _ _ _ _ _ _ _ (Act.put _ (some 34) _) _)
              clear ho hg hbl hgx hfl
              clear hK K
              try (simp only [Act.put]; try simp only [List.setIfInBounds_toArray]; try simp only [List.set_cons_zero, List.set_cons_succ])
              refine wpAnyR_only (i := 8) rfl (by kernel_rfl) (by rfl) fun K hK => ?_
              refine wp_append_gen _ _ 22 (by rfl) W3.heap.size 34 i0 _ 6 48 Try.underlying22 HI.out HZ0.out HZ1.out HZ2.out (by rfl) (by omega) (.slice (some ⟨q6, 0, none⟩) n k6) n (l.flatMap StepD.cells) (by rfl) (G4.out.row _ _ _ rfl) (fun _ => True) (some ⟨o1, 0, none⟩) 1 1 s.cells (by rfl) (flat_block (G4.out.one _ rfl).1) (by unfold maxLen; omega) (by omega) G4.out.bb.size ?_
              intro v8 wy5 ho hg
              rw [← flat_snoc] at ho
              obtain ⟨q8, k8, rfl⟩ := own_pos ho (by omega)
              obtain ⟨hbl, hgx⟩ := GX.app2 G4.out ho hg
              have G5 := hide hgx
              refine hK.out _ _ hbl (?_ : wpAnyR _ _ _ _ _ _ _ (Act.put _ (some 37) _) _)
              clear ho hg hbl hgx
              clear hK K
              try (simp only [Act.put]; try simp only [List.setIfInBounds_toArray]; try simp only [List.set_cons_zero, List.set_cons_succ])
              refine wpAnyR_take (pre_below W3.heap.size) (i := 9) (d := some 38) (v := .agg #[.string a1, .slice (some ⟨q8, 0, none⟩) (n + 1) k8]) rfl rfl (by kernel_rfl) (by kernel_rfl) (by kernel_rfl) (fun _ _ _ h => h) (by rfl) ?yanyy9 ?_
              case yanyy9 => (intro w' hw'; go_simp; try (with_reducible rfl))
              simp only [Act.put]; try simp only [List.setIfInBounds_toArray]; try simp only [List.set_cons_zero, List.set_cons_succ]
              refine wpAnyR_only (i := 11) rfl (by kernel_rfl) (by rfl) fun K hK => ?_
              refine wp_store_box 24 _ _ (by rfl) y1 0 #[.string a1, .slice (some ⟨q8, 0, none⟩) (n + 1) k8] (by rfl) (by rfl) 24 _ (G5.out.df _ rfl).1 (by kernel_rfl) (by simp) (by simp [Value.oneCell']) ?_
              intro wz hz hgz
              obtain ⟨hbl, hnx⟩ := GX.whole (name := a1) G5.out (by rw [List.length_append, HN.out]; rfl) hz hgz
              have HNX := hide hnx
              refine hK.out _ _ hbl ?_
              clear hz hgz hbl hnx
              clear hK K
              try simp only [Act.put]
              refine wpAnyR_done (by kernel_rfl) ?_ _
              go_wp2_with (fail)
              go_meet
              exact ⟨y1, q8, k8, rfl, HNX.out⟩
          · go_simp
            have hgx : GX W3 s none none (some W3.heap.size) ((W3.alloc (.cells #[.string ⟨#[]⟩, .slice none 0 0] 24 (0, 0))).drew) := GX.mkDef (GX.start W3 s)
            have hbl : Below W3.heap.size W3.drew ((W3.alloc (.cells #[.string ⟨#[]⟩, .slice none 0 0] 24 (0, 0))).drew) := (Below.refl _ W3.drew).alloc (GX.start W3 s).bb.size _
            refine hK.out _ _ hbl ?_
            obtain ⟨wy1, hwy1⟩ : ∃ wy1, (W3.alloc (.cells #[.string ⟨#[]⟩, .slice none 0 0] 24 (0, 0))).drew = wy1 := ⟨_, rfl⟩
            rw [hwy1] at hgx
            rw [hwy1]
            have G1 := hide hgx
            clear hgx hbl hwy1
            clear hK K
            try (simp only [Act.put]; try simp only [List.setIfInBounds_toArray]; try simp only [List.set_cons_zero, List.set_cons_succ])
            refine wpAnyR_two (i := 2) (j := 7) rfl rfl (by kernel_rfl) (by rfl) (by rfl) (fun K hK => ?_) (fun K hK => ?_)
            · skip
              refine wp_empty_steps W3.heap.size (by exact G1.out.bb.size) (by rfl) ?_
              intro q0 wy2 ho hl
              have G2 := hide (GX.empty G1.out hl ho)
              refine hK.out _ _ (Below.mono hl G1.out.bb.size) (?_ : wpAnyR _ _ _ _ _ _ _ (Act.put _ (some 31) _) _)
              clear ho hl
              clear hK K
              try (simp only [Act.put]; try simp only [List.setIfInBounds_toArray]; try simp only [List.set_cons_zero, List.set_cons_succ])
              refine wpAnyR_two (i := 5) (j := 7) rfl rfl (by kernel_rfl) (by rfl) (by rfl) (fun K hK => ?_) (fun K hK => ?_)
              · skip
                have hfl : FlatAt F (wy2) 6 (.slice A n cap) n (l.flatMap StepD.cells) := by have h := StepsAt.kept HLD.out (Kept.of_below G2.out.bb F); unfold StepsAt at h; rwa [HN.out] at h
                refine wp_append_gen _ _ 22 (by rfl) W3.heap.size 34 i0 _ 6 48 Try.underlying22 HI.out HZ0.out HZ1.out HZ2.out (by rfl) (by omega) (.slice (some ⟨q0, 0, none⟩) 0 0) 0 [] (by rfl) (G2.out.row _ _ _ rfl) F A n cap (l.flatMap StepD.cells) (by rfl) hfl (by unfold maxLen; omega) (by omega) G2.out.bb.size ?_
                intro v6 wy3 ho hg
                rw [Nat.zero_add, List.nil_append] at ho
                obtain ⟨q6, k6, rfl⟩ := own_pos ho hn1
                obtain ⟨hbl, hgx⟩ := GX.app1 G2.out ho hg
                have G3 := hide hgx
                refine hK.out _ _ hbl (?_ : wpAnyR _ _ _ _ _ _ _ (Act.put _ (some 34) _) _)
                clear ho hg hbl hgx hfl
                clear hK K
                try (simp only [Act.put]; try simp only [List.setIfInBounds_toArray]; try simp only [List.set_cons_zero, List.set_cons_succ])
                refine wpAnyR_only (i := 7) rfl (by kernel_rfl) (by rfl) fun K hK => ?_
                refine wp_buildSlice_one 22 34 _ (by rfl) i0 _ 6 Try.underlying22 HI.out HZ0.out HZ1.out (by omega) (by omega) #[.string s.name, .int .i64 s.stub, .int .i64 s.retry, .int .i64 s.wait, .bool s.undo, .bool s.pivot] (by rfl) (by rfl) ?_
                have hgx := GX.mkOne G3.out
                have hbl : Below W3.heap.size (wy3) ((wy3).alloc (.cells s.cells.toArray 34 (0, 0))) := (Below.refl _ _).alloc G3.out.bb.size _
                unfold StepD.cells at hgx hbl
                refine hK.out _ _ hbl (?_ : wpAnyR _ _ _ _ _ _ _ (Act.put _ (some 36) _) _)
                obtain ⟨o1, ho1⟩ : ∃ o1, (wy3).heap.size = o1 := ⟨_, rfl⟩
                obtain ⟨wy4, hwy4⟩ : ∃ wy4, (wy3).alloc (.cells #[.string s.name, .int .i64 s.stub, .int .i64 s.retry, .int .i64 s.wait, .bool s.undo, .bool s.pivot] 34 (0, 0)) = wy4 := ⟨_, rfl⟩
                rw [ho1, hwy4] at hgx
                rw [ho1, hwy4]
                have G4 := hide hgx
                clear hgx hbl ho1 hwy4
                clear hK K
                try (simp only [Act.put]; try simp only [List.setIfInBounds_toArray]; try simp only [List.set_cons_zero, List.set_cons_succ])
                refine wpAnyR_only (i := 8) rfl (by kernel_rfl) (by rfl) fun K hK => ?_
                refine wp_append_gen _ _ 22 (by rfl) W3.heap.size 34 i0 _ 6 48 Try.underlying22 HI.out HZ0.out HZ1.out HZ2.out (by rfl) (by omega) (.slice (some ⟨q6, 0, none⟩) n k6) n (l.flatMap StepD.cells) (by rfl) (G4.out.row _ _ _ rfl) (fun _ => True) (some ⟨o1, 0, none⟩) 1 1 s.cells (by rfl) (flat_block (G4.out.one _ rfl).1) (by unfold maxLen; omega) (by omega) G4.out.bb.size ?_
                intro v8 wy5 ho hg
                rw [← flat_snoc] at ho
                obtain ⟨q8, k8, rfl⟩ := own_pos ho (by omega)
                obtain ⟨hbl, hgx⟩ := GX.app2 G4.out ho hg
                have G5 := hide hgx
                refine hK.out _ _ hbl (?_ : wpAnyR _ _ _ _ _ _ _ (Act.put _ (some 37) _) _)
                clear ho hg hbl hgx
                clear hK K
                try (simp only [Act.put]; try simp only [List.setIfInBounds_toArray]; try simp only [List.set_cons_zero, List.set_cons_succ])
                refine wpAnyR_take (pre_below W3.heap.size) (i := 9) (d := some 38) (v := .agg #[.string a1, .slice (some ⟨q8, 0, none⟩) (n + 1) k8]) rfl rfl (by kernel_rfl) (by kernel_rfl) (by kernel_rfl) (fun _ _ _ h => h) (by rfl) ?yanzxx9 ?_
                case yanzxx9 => (intro w' hw'; go_simp; try (with_reducible rfl))
                simp only [Act.put]; try simp only [List.setIfInBounds_toArray]; try simp only [List.set_cons_zero, List.set_cons_succ]
                refine wpAnyR_only (i := 11) rfl (by kernel_rfl) (by rfl) fun K hK => ?_
                refine wp_store_box 24 _ _ (by rfl) W3.heap.size 0 #[.string a1, .slice (some ⟨q8, 0, none⟩) (n + 1) k8] (by rfl) (by rfl) 24 _ (G5.out.df _ rfl).1 (by kernel_rfl) (by simp) (by simp [Value.oneCell']) ?_
                intro wz hz hgz
                obtain ⟨hbl, hnx⟩ := GX.whole (name := a1) G5.out (by rw [List.length_append, HN.out]; rfl) hz hgz
                have HNX := hide hnx
                refine hK.out _ _ hbl ?_
                clear hz hgz hbl hnx
                clear hK K
                try simp only [Act.put]
                refine wpAnyR_done (by kernel_rfl) ?_ _
                go_wp2_with (fail)
                go_meet
                exact ⟨W3.heap.size, q8, k8, rfl, HNX.out⟩
              · skip
                refine wp_buildSlice_one 22 34 _ (by rfl) i0 _ 6 Try.underlying22 HI.out HZ0.out HZ1.out (by omega) (by omega) #[.string s.name, .int .i64 s.stub, .int .i64 s.retry, .int .i64 s.wait, .bool s.undo, .bool s.pivot] (by rfl) (by rfl) ?_
                have hgx := GX.mkOne G2.out
                have hbl : Below W3.heap.size (wy2) ((wy2).alloc (.cells s.cells.toArray 34 (0, 0))) := (Below.refl _ _).alloc G2.out.bb.size _
                unfold StepD.cells at hgx hbl
                refine hK.out _ _ hbl (?_ : wpAnyR _ _ _ _ _ _ _ (Act.put _ (some 36) _) _)
                obtain ⟨o1, ho1⟩ : ∃ o1, (wy2).heap.size = o1 := ⟨_, rfl⟩
                obtain ⟨wy3, hwy3⟩ : ∃ wy3, (wy2).alloc (.cells #[.string s.name, .int .i64 s.stub, .int .i64 s.retry, .int .i64 s.wait, .bool s.undo, .bool s.pivot] 34 (0, 0)) = wy3 := ⟨_, rfl⟩
                rw [ho1, hwy3] at hgx
                rw [ho1, hwy3]
                have G3 := hide hgx
                clear hgx hbl ho1 hwy3
                clear hK K
                try (simp only [Act.put]; try simp only [List.setIfInBounds_toArray]; try simp only [List.set_cons_zero, List.set_cons_succ])
                refine wpAnyR_only (i := 5) rfl (by kernel_rfl) (by rfl) fun K hK => ?_
                have hfl : FlatAt F (wy3) 6 (.slice A n cap) n (l.flatMap StepD.cells) := by have h := StepsAt.kept HLD.out (Kept.of_below G3.out.bb F); unfold StepsAt at h; rwa [HN.out] at h
                refine wp_append_gen _ _ 22 (by rfl) W3.heap.size 34 i0 _ 6 48 Try.underlying22 HI.out HZ0.out HZ1.out HZ2.out (by rfl) (by omega) (.slice (some ⟨q0, 0, none⟩) 0 0) 0 [] (by rfl) (G3.out.row _ _ _ rfl) F A n cap (l.flatMap StepD.cells) (by rfl) hfl (by unfold maxLen; omega) (by omega) G3.out.bb.size ?_
                intro v6 wy4 ho hg
                rw [Nat.zero_add, List.nil_append] at ho
                obtain ⟨q6, k6, rfl⟩ := own_pos ho hn1
                obtain ⟨hbl, hgx⟩ := GX.app1 G3.out ho hg
                have G4 := hide hgx
                refine hK.out _ _ hbl (?_ : wpAnyR _ _ _ _ _ _ _ (Act.put _ (some 34) _) _)
                clear ho hg hbl hgx hfl
                clear hK K
                try (simp only [Act.put]; try simp only [List.setIfInBounds_toArray]; try simp only [List.set_cons_zero, List.set_cons_succ])
                refine wpAnyR_only (i := 8) rfl (by kernel_rfl) (by rfl) fun K hK => ?_
                refine wp_append_gen _ _ 22 (by rfl) W3.heap.size 34 i0 _ 6 48 Try.underlying22 HI.out HZ0.out HZ1.out HZ2.out (by rfl) (by omega) (.slice (some ⟨q6, 0, none⟩) n k6) n (l.flatMap StepD.cells) (by rfl) (G4.out.row _ _ _ rfl) (fun _ => True) (some ⟨o1, 0, none⟩) 1 1 s.cells (by rfl) (flat_block (G4.out.one _ rfl).1) (by unfold maxLen; omega) (by omega) G4.out.bb.size ?_
                intro v8 wy5 ho hg
                rw [← flat_snoc] at ho
                obtain ⟨q8, k8, rfl⟩ := own_pos ho (by omega)
                obtain ⟨hbl, hgx⟩ := GX.app2 G4.out ho hg
                have G5 := hide hgx
                refine hK.out _ _ hbl (?_ : wpAnyR _ _ _ _ _ _ _ (Act.put _ (some 37) _) _)
                clear ho hg hbl hgx
                clear hK K
                try (simp only [Act.put]; try simp only [List.setIfInBounds_toArray]; try simp only [List.set_cons_zero, List.set_cons_succ])
                refine wpAnyR_take (pre_below W3.heap.size) (i := 9) (d := some 38) (v := .agg #[.string a1, .slice (some ⟨q8, 0, none⟩) (n + 1) k8]) rfl rfl (by kernel_rfl) (by kernel_rfl) (by kernel_rfl) (fun _ _ _ h => h) (by rfl) ?yanzxy9 ?_
                case yanzxy9 => (intro w' hw'; go_simp; try (with_reducible rfl))
                simp only [Act.put]; try simp only [List.setIfInBounds_toArray]; try simp only [List.set_cons_zero, List.set_cons_succ]
                refine wpAnyR_only (i := 11) rfl (by kernel_rfl) (by rfl) fun K hK => ?_
                refine wp_store_box 24 _ _ (by rfl) W3.heap.size 0 #[.string a1, .slice (some ⟨q8, 0, none⟩) (n + 1) k8] (by rfl) (by rfl) 24 _ (G5.out.df _ rfl).1 (by kernel_rfl) (by simp) (by simp [Value.oneCell']) ?_
                intro wz hz hgz
                obtain ⟨hbl, hnx⟩ := GX.whole (name := a1) G5.out (by rw [List.length_append, HN.out]; rfl) hz hgz
                have HNX := hide hnx
                refine hK.out _ _ hbl ?_
                clear hz hgz hbl hnx
                clear hK K
                try simp only [Act.put]
                refine wpAnyR_done (by kernel_rfl) ?_ _
                go_wp2_with (fail)
                go_meet
                exact ⟨W3.heap.size, q8, k8, rfl, HNX.out⟩
            · skip
              refine wp_buildSlice_one 22 34 _ (by rfl) i0 _ 6 Try.underlying22 HI.out HZ0.out HZ1.out (by omega) (by omega) #[.string s.name, .int .i64 s.stub, .int .i64 s.retry, .int .i64 s.wait, .bool s.undo, .bool s.pivot] (by rfl) (by rfl) ?_
              have hgx := GX.mkOne G1.out
              have hbl : Below W3.heap.size (wy1) ((wy1).alloc (.cells s.cells.toArray 34 (0, 0))) := (Below.refl _ _).alloc G1.out.bb.size _
              unfold StepD.cells at hgx hbl
              refine hK.out _ _ hbl (?_ : wpAnyR _ _ _ _ _ _ _ (Act.put _ (some 36) _) _)
              obtain ⟨o1, ho1⟩ : ∃ o1, (wy1).heap.size = o1 := ⟨_, rfl⟩
              obtain ⟨wy2, hwy2⟩ : ∃ wy2, (wy1).alloc (.cells #[.string s.name, .int .i64 s.stub, .int .i64 s.retry, .int .i64 s.wait, .bool s.undo, .bool s.pivot] 34 (0, 0)) = wy2 := ⟨_, rfl⟩
              rw [ho1, hwy2] at hgx
              rw [ho1, hwy2]
              have G2 := hide hgx
              clear hgx hbl ho1 hwy2
              clear hK K
              try (simp only [Act.put]; try simp only [List.setIfInBounds_toArray]; try simp only [List.set_cons_zero, List.set_cons_succ])
              refine wpAnyR_only (i := 2) rfl (by kernel_rfl) (by rfl) fun K hK => ?_
              refine wp_empty_steps W3.heap.size (by exact G2.out.bb.size) (by rfl) ?_
              intro q0 wy3 ho hl
              have G3 := hide (GX.empty G2.out hl ho)
              refine hK.out _ _ (Below.mono hl G2.out.bb.size) (?_ : wpAnyR _ _ _ _ _ _ _ (Act.put _ (some 31) _) _)
              clear ho hl
              clear hK K
              try (simp only [Act.put]; try simp only [List.setIfInBounds_toArray]; try simp only [List.set_cons_zero, List.set_cons_succ])
              refine wpAnyR_only (i := 5) rfl (by kernel_rfl) (by rfl) fun K hK => ?_
              have hfl : FlatAt F (wy3) 6 (.slice A n cap) n (l.flatMap StepD.cells) := by have h := StepsAt.kept HLD.out (Kept.of_below G3.out.bb F); unfold StepsAt at h; rwa [HN.out] at h
              refine wp_append_gen _ _ 22 (by rfl) W3.heap.size 34 i0 _ 6 48 Try.underlying22 HI.out HZ0.out HZ1.out HZ2.out (by rfl) (by omega) (.slice (some ⟨q0, 0, none⟩) 0 0) 0 [] (by rfl) (G3.out.row _ _ _ rfl) F A n cap (l.flatMap StepD.cells) (by rfl) hfl (by unfold maxLen; omega) (by omega) G3.out.bb.size ?_
              intro v6 wy4 ho hg
              rw [Nat.zero_add, List.nil_append] at ho
              obtain ⟨q6, k6, rfl⟩ := own_pos ho hn1
              obtain ⟨hbl, hgx⟩ := GX.app1 G3.out ho hg
              have G4 := hide hgx
              refine hK.out _ _ hbl (?_ : wpAnyR _ _ _ _ _ _ _ (Act.put _ (some 34) _) _)
              clear ho hg hbl hgx hfl
              clear hK K
              try (simp only [Act.put]; try simp only [List.setIfInBounds_toArray]; try simp only [List.set_cons_zero, List.set_cons_succ])
              refine wpAnyR_only (i := 8) rfl (by kernel_rfl) (by rfl) fun K hK => ?_
              refine wp_append_gen _ _ 22 (by rfl) W3.heap.size 34 i0 _ 6 48 Try.underlying22 HI.out HZ0.out HZ1.out HZ2.out (by rfl) (by omega) (.slice (some ⟨q6, 0, none⟩) n k6) n (l.flatMap StepD.cells) (by rfl) (G4.out.row _ _ _ rfl) (fun _ => True) (some ⟨o1, 0, none⟩) 1 1 s.cells (by rfl) (flat_block (G4.out.one _ rfl).1) (by unfold maxLen; omega) (by omega) G4.out.bb.size ?_
              intro v8 wy5 ho hg
              rw [← flat_snoc] at ho
              obtain ⟨q8, k8, rfl⟩ := own_pos ho (by omega)
              obtain ⟨hbl, hgx⟩ := GX.app2 G4.out ho hg
              have G5 := hide hgx
              refine hK.out _ _ hbl (?_ : wpAnyR _ _ _ _ _ _ _ (Act.put _ (some 37) _) _)
              clear ho hg hbl hgx
              clear hK K
              try (simp only [Act.put]; try simp only [List.setIfInBounds_toArray]; try simp only [List.set_cons_zero, List.set_cons_succ])
              refine wpAnyR_take (pre_below W3.heap.size) (i := 9) (d := some 38) (v := .agg #[.string a1, .slice (some ⟨q8, 0, none⟩) (n + 1) k8]) rfl rfl (by kernel_rfl) (by kernel_rfl) (by kernel_rfl) (fun _ _ _ h => h) (by rfl) ?yanzy9 ?_
              case yanzy9 => (intro w' hw'; go_simp; try (with_reducible rfl))
              simp only [Act.put]; try simp only [List.setIfInBounds_toArray]; try simp only [List.set_cons_zero, List.set_cons_succ]
              refine wpAnyR_only (i := 11) rfl (by kernel_rfl) (by rfl) fun K hK => ?_
              refine wp_store_box 24 _ _ (by rfl) W3.heap.size 0 #[.string a1, .slice (some ⟨q8, 0, none⟩) (n + 1) k8] (by rfl) (by rfl) 24 _ (G5.out.df _ rfl).1 (by kernel_rfl) (by simp) (by simp [Value.oneCell']) ?_
              intro wz hz hgz
              obtain ⟨hbl, hnx⟩ := GX.whole (name := a1) G5.out (by rw [List.length_append, HN.out]; rfl) hz hgz
              have HNX := hide hnx
              refine hK.out _ _ hbl ?_
              clear hz hgz hbl hnx
              clear hK K
              try simp only [Act.put]
              refine wpAnyR_done (by kernel_rfl) ?_ _
              go_wp2_with (fail)
              go_meet
              exact ⟨W3.heap.size, q8, k8, rfl, HNX.out⟩
        case rest =>
          obtain ⟨y, q, c, rfl, hnx⟩ := hcut
          have NXH := hide hnx
          have L5 : Hid (Later W1 wc) := L4.out.trans hnx.bb
          have X5 := hide (X4.out.below hnx.bb)
          have Z5 : Hid (StepBox (x + 1) s wc) := (Below.block hnx.bb (x + 1) (lt_of_block Z4.out)).trans Z4.out
          clear hnx z0 z1 z2 z3 z4 z5 d0 d1 hx3 hz3 HLD L4 X4 Z4 L2 X2 Z2
          have y0 := NXH.out.db.name_
          have y1 := NXH.out.db.steps
          have SM : Hid (∀ W, Later wc W → StepsAt (fun _ => True) W (.slice (some ⟨q, 0, none⟩) (n + 1) c) (l ++ [s])) := fun W h => NXH.out.sl.kept (Kept.of_below h _)
          obtain ⟨m1, hm1⟩ : ∃ q, (checkF a1 (l ++ [s])).1 = q := ⟨_, rfl⟩
          obtain ⟨m2, hm2⟩ : ∃ q, (checkF a1 (l ++ [s])).2 = q := ⟨_, rfl⟩
          have CM : Hid (∀ W, Later wc W → Calls Try.prog 20 #[.agg #[.string a1, .slice (some ⟨q, 0, none⟩) (n + 1) c]] W fun e w' => e = .returned (.tuple #[.int .i64 (m1 : Int), .int .i64 (m2 : Int)]) ∧ Later W w') := fun W h => hm1 ▸ hm2 ▸ rcheck_any (SM.out W h)
          have HM2 := hide hm2
          clear hm1 hm2
          go_wp2_with (fail)
          refine (CM.out _ (Later.refl _)).mono ?_
          rintro e w6 ⟨rfl, hl6⟩
          have L6 := hide hl6
          have Y6 := hide (NXH.out.db.below hl6)
          have X6 := hide (X5.out.below hl6)
          have Z6 : Hid (StepBox (x + 1) s w6) := (Below.block hl6 (x + 1) (lt_of_block Z5.out)).trans Z5.out
          have G6 := hide (L5.out.trans hl6)
          clear hl6 CM y0 y1
          obtain ⟨tm, htm⟩ : ∃ q, sumF ticksF a1 (l ++ [s]) = q := ⟨_, rfl⟩
          obtain ⟨cm, hcm⟩ : ∃ q, sumF triesF a1 (l ++ [s]) = q := ⟨_, rfl⟩
          have ML : Hid (∀ W, Later w6 W → Calls Try.prog 16 #[.agg #[.string a1, .slice (some ⟨q, 0, none⟩) (n + 1) c]] W fun e w' => e = .returned (.int .i64 tm) ∧ Later W w') := fun W h => htm ▸ longest_any (SM.out W (L6.out.trans h))
          have MC : Hid (∀ W, Later w6 W → Calls Try.prog 18 #[.agg #[.string a1, .slice (some ⟨q, 0, none⟩) (n + 1) c]] W fun e w' => e = .returned (.int .i64 cm) ∧ Later W w') := fun W h => hcm ▸ commands_any (SM.out W (L6.out.trans h))
          have LV6 : Hid (∀ W, Later w6 W → Calls Try.prog 7 #[] W fun e w' => e = .returned (.bool true) ∧ Later W w') := fun W h => CLV.out W (G6.out.trans h)
          have LS0 := hide (Later.drew w6)
          have XS0 := hide (show DefBox x a1 (.slice A n cap) w6.drew from X6.out)
          have YS0 := hide (show DefBox y a1 (.slice (some ⟨q, 0, none⟩) (n + 1) c) w6.drew from Y6.out)
          have ZS0 := hide (show StepBox (x + 1) s w6.drew from Z6.out)
          by_cases hm : m2 = 0
          · subst hm
            have hgd := (check_good HM2.out).2.2.2 s (by simp)
            obtain ⟨e1, e2, e3, e4⟩ := good_nums hgd
            have ADD := fun k hk => more_sums (name := a1) (l := l) (s := s) HK2.out HM2.out k hk
            obtain ⟨td, htd⟩ : ∃ q, sumF ticksF a1 l = q := ⟨_, rfl⟩
            obtain ⟨cd, hcd⟩ : ∃ q, sumF triesF a1 l = q := ⟨_, rfl⟩
            have rt := sumF_range (fun s => ticks_range (s := s)) a1 l
            have rc := sumF_range (fun s => tries_range (s := s)) a1 l
            have rtm := sumF_range (fun s => ticks_range (s := s)) a1 (l ++ [s])
            have rcm := sumF_range (fun s => tries_range (s := s)) a1 (l ++ [s])
            rw [htd] at rt
            rw [hcd] at rc
            rw [htm] at rtm
            rw [hcm] at rcm
            rw [htd, hcd, htm, hcm] at ADD
            have DL : Hid (∀ W, Later w6 W → Calls Try.prog 16 #[.agg #[.string a1, .slice A n cap]] W fun e w' => e = .returned (.int .i64 td) ∧ Later W w') := fun W h => htd ▸ longest_any (SL.out W (G6.out.trans h))
            have DC : Hid (∀ W, Later w6 W → Calls Try.prog 18 #[.agg #[.string a1, .slice A n cap]] W fun e w' => e = .returned (.int .i64 cd) ∧ Later W w') := fun W h => hcd ▸ commands_any (SL.out W (G6.out.trans h))
            obtain ⟨b0, b1, b2, b3, b4, b5, bf⟩ := Z6.out.cells
            obtain ⟨rr, hrr⟩ : ∃ q, s.retry = q := ⟨_, rfl⟩
            obtain ⟨wt, hwt⟩ : ∃ q, s.wait = q := ⟨_, rfl⟩
            obtain ⟨un, hun⟩ : ∃ q, s.undo = q := ⟨_, rfl⟩
            rw [hrr] at e1 e2 ADD
            rw [hwt] at e3 e4 ADD
            rw [hun] at b4 ADD
            have HRR := hide hrr
            have HWT := hide hwt
            clear htm hcm htd hcd b0 b1 b2 b3 b5 bf hrr hwt hun hgd
            cases un with
            | false =>
              obtain ⟨A1, A2⟩ := ADD 1 rfl
              obtain ⟨m1, hm1⟩ : ∃ m1, 1 * (rr + 1) = m1 := ⟨_, rfl⟩
              rw [hm1] at A1 A2
              obtain ⟨m2, hm2⟩ : ∃ m2, m1 * wt = m2 := ⟨_, rfl⟩
              rw [hm2] at A2
              have hmr : 0 ≤ m1 ∧ m1 ≤ 20 := by omega
              have HM1 := hide hm1
              have HMM := hide hm2
              obtain rfl := A1
              obtain rfl := A2
              clear hm1 hm2 ADD
              go_wp2_with (fail)
              refine wp_region_L (by kernel_rfl) ?_
              refine wpAnyL_take (i := 0) (d := some 57) (v := .agg #[.string a1, .slice (some ⟨q, 0, none⟩) (n + 1) c]) rfl rfl (by kernel_rfl) (by kernel_rfl) (by kernel_rfl) (fun _ _ _ h => h) (by rfl) ?yat0 ?_
              case yat0 => (intro w' hw'; exact exec_load_box 24 _ (by rfl) y 0 (by rfl) 24 _ ((Below.block hw' y (lt_of_block YS0.out)).trans YS0.out) 2 _ Try.underlying24 (by rfl) (by kernel_rfl) [.string a1, .slice (some ⟨q, 0, none⟩) (n + 1) c] (by rfl) (by rfl))
              simp only [Act.put]; try simp only [List.setIfInBounds_toArray]; try simp only [List.set_cons_zero, List.set_cons_succ]
              refine wpAnyL_take (i := 2) (d := some 59) (v := .agg #[.string a1, .slice A n cap]) rfl rfl (by kernel_rfl) (by kernel_rfl) (by kernel_rfl) (fun _ _ _ h => h) (by rfl) ?yat2 ?_
              case yat2 => (intro w' hw'; exact exec_load_box 24 _ (by rfl) x 0 (by rfl) 24 _ ((Below.block hw' x (lt_of_block XS0.out)).trans XS0.out) 2 _ Try.underlying24 (by rfl) (by kernel_rfl) [.string a1, .slice A n cap] (by rfl) (by rfl))
              simp only [Act.put]; try simp only [List.setIfInBounds_toArray]; try simp only [List.set_cons_zero, List.set_cons_succ]
              refine wpAnyL_take (i := 4) (d := some 61) (v := ?vat4) rfl rfl (by kernel_rfl) (by kernel_rfl) (by kernel_rfl) (fun _ _ _ h => h) (by rfl) ?yat4 ?_
              case yat4 => (intro w' hw'; go_simp; try (with_reducible rfl))
              simp only [Act.put]; try simp only [List.setIfInBounds_toArray]; try simp only [List.set_cons_zero, List.set_cons_succ]
              refine wpAnyL_take (i := 5) (d := some 62) (v := ?vat5) rfl rfl (by kernel_rfl) (by kernel_rfl) (by kernel_rfl) (fun _ _ _ h => h) (by rfl) ?yat5 ?_
              case yat5 => (intro w' hw'; go_simp; try (with_reducible rfl))
              simp only [Act.put]; try simp only [List.setIfInBounds_toArray]; try simp only [List.set_cons_zero, List.set_cons_succ]
              refine wpAnyL_take (i := 6) (d := some 63) (v := .int .i64 rr) rfl rfl (by kernel_rfl) (by kernel_rfl) (by kernel_rfl) (fun _ _ _ h => h) (by rfl) ?yat6 ?_
              case yat6 => (intro w' hw'; have hz_ := (show StepBox (x + 1) s w' from (Below.block hw' (x + 1) (lt_of_block ZS0.out)).trans ZS0.out); obtain ⟨b0, b1, b2, b3, b4, b5, bf⟩ := hz_.cells; rw [HRR.out] at b2; rw [HWT.out] at b3; go_simp)
              simp only [Act.put]; try simp only [List.setIfInBounds_toArray]; try simp only [List.set_cons_zero, List.set_cons_succ]
              refine wpAnyL_take (i := 7) (d := some 64) (v := .int .i64 (rr + 1)) rfl rfl (by kernel_rfl) (by kernel_rfl) (by kernel_rfl) (fun _ _ _ h => h) (by rfl) ?yat7 ?_
              case yat7 => (intro w' hw'; go_simp; exact wrap_in (by omega))
              simp only [Act.put]; try simp only [List.setIfInBounds_toArray]; try simp only [List.set_cons_zero, List.set_cons_succ]
              refine wpAnyL_take (i := 8) (d := some 65) (v := .int .i64 m1) rfl rfl (by kernel_rfl) (by kernel_rfl) (by kernel_rfl) (fun _ _ _ h => h) (by rfl) ?yat8 ?_
              case yat8 => (intro w' hw'; have h1 := HM1.out; go_simp; exact wrap_in (by omega))
              simp only [Act.put]; try simp only [List.setIfInBounds_toArray]; try simp only [List.set_cons_zero, List.set_cons_succ]
              refine wpAnyL_only (i := 1) rfl (by kernel_rfl) (by rfl) fun K hK => ?_
              go_simp
              refine (MC.out _ LS0.out).mono ?_
              rintro e w_1 ⟨rfl, hl_⟩
              have LS1 := hide (LS0.out.trans hl_)
              have XS1 := hide (XS0.out.below hl_)
              have YS1 := hide (YS0.out.below hl_)
              have ZS1 := hide (show StepBox (x + 1) s w_1 from (Below.block hl_ (x + 1) (lt_of_block ZS0.out)).trans ZS0.out)
              refine hK.out _ _ hl_ ?_
              clear hl_
              clear hK K
              try (simp only [Act.put]; try simp only [List.setIfInBounds_toArray]; try simp only [List.set_cons_zero, List.set_cons_succ])
              refine wpAnyL_only (i := 3) rfl (by kernel_rfl) (by rfl) fun K hK => ?_
              go_simp
              refine (DC.out _ LS1.out).mono ?_
              rintro e w_3 ⟨rfl, hl_⟩
              have LS3 := hide (LS1.out.trans hl_)
              have XS3 := hide (XS1.out.below hl_)
              have YS3 := hide (YS1.out.below hl_)
              have ZS3 := hide (show StepBox (x + 1) s w_3 from (Below.block hl_ (x + 1) (lt_of_block ZS1.out)).trans ZS1.out)
              refine hK.out _ _ hl_ ?_
              clear hl_
              clear hK K
              try (simp only [Act.put]; try simp only [List.setIfInBounds_toArray]; try simp only [List.set_cons_zero, List.set_cons_succ])
              refine wpAnyL_take (i := 9) (d := some 66) (v := .int .i64 (cd + m1)) rfl rfl (by kernel_rfl) (by kernel_rfl) (by kernel_rfl) (fun _ _ _ h => h) (by rfl) ?yat9 ?_
              case yat9 => (intro w' hw'; go_simp; exact wrap_in (by omega))
              simp only [Act.put]; try simp only [List.setIfInBounds_toArray]; try simp only [List.set_cons_zero, List.set_cons_succ]
              refine wpAnyL_take (i := 10) (d := some 67) (v := ?vat10) rfl rfl (by kernel_rfl) (by kernel_rfl) (by kernel_rfl) (fun _ _ _ h => h) (by rfl) ?yat10 ?_
              case yat10 => (intro w' hw'; go_simp; try (with_reducible rfl))
              simp only [Act.put]; try simp only [List.setIfInBounds_toArray]; try simp only [List.set_cons_zero, List.set_cons_succ]
              refine wpAnyL_take (i := 11) (d := some 68) (v := ?vat11) rfl rfl (by kernel_rfl) (by kernel_rfl) (by kernel_rfl) (fun _ _ _ h => h) (by rfl) ?yat11 ?_
              case yat11 => (intro w' hw'; go_simp; try (with_reducible rfl))
              simp only [Act.put]; try simp only [List.setIfInBounds_toArray]; try simp only [List.set_cons_zero, List.set_cons_succ]
              refine wpAnyL_take (i := 12) (d := some 69) (v := .agg #[.string a1, .slice (some ⟨q, 0, none⟩) (n + 1) c]) rfl rfl (by kernel_rfl) (by kernel_rfl) (by kernel_rfl) (fun _ _ _ h => h) (by rfl) ?yat12 ?_
              case yat12 => (intro w' hw'; exact exec_load_box 24 _ (by rfl) y 0 (by rfl) 24 _ ((Below.block hw' y (lt_of_block YS3.out)).trans YS3.out) 2 _ Try.underlying24 (by rfl) (by kernel_rfl) [.string a1, .slice (some ⟨q, 0, none⟩) (n + 1) c] (by rfl) (by rfl))
              simp only [Act.put]; try simp only [List.setIfInBounds_toArray]; try simp only [List.set_cons_zero, List.set_cons_succ]
              refine wpAnyL_take (i := 14) (d := some 71) (v := .agg #[.string a1, .slice A n cap]) rfl rfl (by kernel_rfl) (by kernel_rfl) (by kernel_rfl) (fun _ _ _ h => h) (by rfl) ?yat14 ?_
              case yat14 => (intro w' hw'; exact exec_load_box 24 _ (by rfl) x 0 (by rfl) 24 _ ((Below.block hw' x (lt_of_block XS3.out)).trans XS3.out) 2 _ Try.underlying24 (by rfl) (by kernel_rfl) [.string a1, .slice A n cap] (by rfl) (by rfl))
              simp only [Act.put]; try simp only [List.setIfInBounds_toArray]; try simp only [List.set_cons_zero, List.set_cons_succ]
              refine wpAnyL_take (i := 16) (d := some 73) (v := ?vat16) rfl rfl (by kernel_rfl) (by kernel_rfl) (by kernel_rfl) (fun _ _ _ h => h) (by rfl) ?yat16 ?_
              case yat16 => (intro w' hw'; go_simp; try (with_reducible rfl))
              simp only [Act.put]; try simp only [List.setIfInBounds_toArray]; try simp only [List.set_cons_zero, List.set_cons_succ]
              refine wpAnyL_take (i := 17) (d := some 74) (v := ?vat17) rfl rfl (by kernel_rfl) (by kernel_rfl) (by kernel_rfl) (fun _ _ _ h => h) (by rfl) ?yat17 ?_
              case yat17 => (intro w' hw'; go_simp; try (with_reducible rfl))
              simp only [Act.put]; try simp only [List.setIfInBounds_toArray]; try simp only [List.set_cons_zero, List.set_cons_succ]
              refine wpAnyL_take (i := 18) (d := some 75) (v := .int .i64 rr) rfl rfl (by kernel_rfl) (by kernel_rfl) (by kernel_rfl) (fun _ _ _ h => h) (by rfl) ?yat18 ?_
              case yat18 => (intro w' hw'; have hz_ := (show StepBox (x + 1) s w' from (Below.block hw' (x + 1) (lt_of_block ZS3.out)).trans ZS3.out); obtain ⟨b0, b1, b2, b3, b4, b5, bf⟩ := hz_.cells; rw [HRR.out] at b2; rw [HWT.out] at b3; go_simp)
              simp only [Act.put]; try simp only [List.setIfInBounds_toArray]; try simp only [List.set_cons_zero, List.set_cons_succ]
              refine wpAnyL_take (i := 19) (d := some 76) (v := .int .i64 (rr + 1)) rfl rfl (by kernel_rfl) (by kernel_rfl) (by kernel_rfl) (fun _ _ _ h => h) (by rfl) ?yat19 ?_
              case yat19 => (intro w' hw'; go_simp; exact wrap_in (by omega))
              simp only [Act.put]; try simp only [List.setIfInBounds_toArray]; try simp only [List.set_cons_zero, List.set_cons_succ]
              refine wpAnyL_take (i := 20) (d := some 77) (v := .int .i64 m1) rfl rfl (by kernel_rfl) (by kernel_rfl) (by kernel_rfl) (fun _ _ _ h => h) (by rfl) ?yat20 ?_
              case yat20 => (intro w' hw'; have h1 := HM1.out; go_simp; exact wrap_in (by omega))
              simp only [Act.put]; try simp only [List.setIfInBounds_toArray]; try simp only [List.set_cons_zero, List.set_cons_succ]
              refine wpAnyL_take (i := 21) (d := some 78) (v := ?vat21) rfl rfl (by kernel_rfl) (by kernel_rfl) (by kernel_rfl) (fun _ _ _ h => h) (by rfl) ?yat21 ?_
              case yat21 => (intro w' hw'; go_simp; try (with_reducible rfl))
              simp only [Act.put]; try simp only [List.setIfInBounds_toArray]; try simp only [List.set_cons_zero, List.set_cons_succ]
              refine wpAnyL_take (i := 22) (d := some 79) (v := .int .i64 wt) rfl rfl (by kernel_rfl) (by kernel_rfl) (by kernel_rfl) (fun _ _ _ h => h) (by rfl) ?yat22 ?_
              case yat22 => (intro w' hw'; have hz_ := (show StepBox (x + 1) s w' from (Below.block hw' (x + 1) (lt_of_block ZS3.out)).trans ZS3.out); obtain ⟨b0, b1, b2, b3, b4, b5, bf⟩ := hz_.cells; rw [HRR.out] at b2; rw [HWT.out] at b3; go_simp)
              simp only [Act.put]; try simp only [List.setIfInBounds_toArray]; try simp only [List.set_cons_zero, List.set_cons_succ]
              refine wpAnyL_take (i := 23) (d := some 80) (v := .int .i64 m2) rfl rfl (by kernel_rfl) (by kernel_rfl) (by kernel_rfl) (fun _ _ _ h => h) (by rfl) ?yat23 ?_
              case yat23 => (intro w' hw'; have h1 := HMM.out; go_simp; exact wrap_in (by omega))
              simp only [Act.put]; try simp only [List.setIfInBounds_toArray]; try simp only [List.set_cons_zero, List.set_cons_succ]
              refine wpAnyL_only (i := 13) rfl (by kernel_rfl) (by rfl) fun K hK => ?_
              go_simp
              refine (ML.out _ LS3.out).mono ?_
              rintro e w_13 ⟨rfl, hl_⟩
              have LS13 := hide (LS3.out.trans hl_)
              have XS13 := hide (XS3.out.below hl_)
              have YS13 := hide (YS3.out.below hl_)
              have ZS13 := hide (show StepBox (x + 1) s w_13 from (Below.block hl_ (x + 1) (lt_of_block ZS3.out)).trans ZS3.out)
              refine hK.out _ _ hl_ ?_
              clear hl_
              clear hK K
              try (simp only [Act.put]; try simp only [List.setIfInBounds_toArray]; try simp only [List.set_cons_zero, List.set_cons_succ])
              refine wpAnyL_only (i := 15) rfl (by kernel_rfl) (by rfl) fun K hK => ?_
              go_simp
              refine (DL.out _ LS13.out).mono ?_
              rintro e w_15 ⟨rfl, hl_⟩
              have LS15 := hide (LS13.out.trans hl_)
              have XS15 := hide (XS13.out.below hl_)
              have YS15 := hide (YS13.out.below hl_)
              have ZS15 := hide (show StepBox (x + 1) s w_15 from (Below.block hl_ (x + 1) (lt_of_block ZS13.out)).trans ZS13.out)
              refine hK.out _ _ hl_ ?_
              clear hl_
              clear hK K
              try (simp only [Act.put]; try simp only [List.setIfInBounds_toArray]; try simp only [List.set_cons_zero, List.set_cons_succ])
              refine wpAnyL_take (i := 24) (d := some 81) (v := .int .i64 (td + m2)) rfl rfl (by kernel_rfl) (by kernel_rfl) (by kernel_rfl) (fun _ _ _ h => h) (by rfl) ?yat24 ?_
              case yat24 => (intro w' hw'; go_simp; exact wrap_in (by omega))
              simp only [Act.put]; try simp only [List.setIfInBounds_toArray]; try simp only [List.set_cons_zero, List.set_cons_succ]
              refine wpAnyL_take (i := 25) (d := some 82) (v := ?vat25) rfl rfl (by kernel_rfl) (by kernel_rfl) (by kernel_rfl) (fun _ _ _ h => h) (by rfl) ?yat25 ?_
              case yat25 => (intro w' hw'; go_simp; try (with_reducible rfl))
              simp only [Act.put]; try simp only [List.setIfInBounds_toArray]; try simp only [List.set_cons_zero, List.set_cons_succ]
              refine wpAnyL_take (i := 26) (d := some 83) (v := ?vat26) rfl rfl (by kernel_rfl) (by kernel_rfl) (by kernel_rfl) (fun _ _ _ h => h) (by rfl) ?yat26 ?_
              case yat26 => (intro w' hw'; go_simp; try (with_reducible rfl))
              simp only [Act.put]; try simp only [List.setIfInBounds_toArray]; try simp only [List.set_cons_zero, List.set_cons_succ]
              refine wpAnyL_take (i := 27) (d := some 84) (v := ?vat27) rfl rfl (by kernel_rfl) (by kernel_rfl) (by kernel_rfl) (fun _ _ _ h => h) (by rfl) ?yat27 ?_
              case yat27 => (intro w' hw'; go_simp; try (with_reducible rfl))
              simp only [Act.put]; try simp only [List.setIfInBounds_toArray]; try simp only [List.set_cons_zero, List.set_cons_succ]
              refine wpAnyL_only (i := 28) rfl (by kernel_rfl) (by rfl) fun K hK => ?_
              go_simp
              refine (LV6.out _ LS15.out).mono ?_
              rintro e w_28 ⟨rfl, hl_⟩
              have LS28 := hide (LS15.out.trans hl_)
              have XS28 := hide (XS15.out.below hl_)
              have YS28 := hide (YS15.out.below hl_)
              have ZS28 := hide (show StepBox (x + 1) s w_28 from (Below.block hl_ (x + 1) (lt_of_block ZS15.out)).trans ZS15.out)
              refine hK.out _ _ hl_ ?_
              clear hl_
              clear hK K
              try (simp only [Act.put]; try simp only [List.setIfInBounds_toArray]; try simp only [List.set_cons_zero, List.set_cons_succ])
              refine wpAnyL_take (i := 29) (d := some 86) (v := ?vat29) rfl rfl (by kernel_rfl) (by kernel_rfl) (by kernel_rfl) (fun _ _ _ h => h) (by rfl) ?yat29 ?_
              case yat29 => (intro w' hw'; go_simp; try (with_reducible rfl))
              simp only [Act.put]; try simp only [List.setIfInBounds_toArray]; try simp only [List.set_cons_zero, List.set_cons_succ]
              refine wpAnyL_take (i := 30) (d := some 4) (v := ?vat30) rfl rfl (by kernel_rfl) (by kernel_rfl) (by kernel_rfl) (fun _ _ _ h => h) (by rfl) ?yat30 ?_
              case yat30 => (intro w' hw'; go_simp; try (with_reducible rfl))
              simp only [Act.put]; try simp only [List.setIfInBounds_toArray]; try simp only [List.set_cons_zero, List.set_cons_succ]
              refine wpAnyL_done (by kernel_rfl) ?_ _
              go_wp2_with (fail)
              go_ret
              exact ⟨rfl, L1.out.trans (G6.out.trans LS28.out)⟩
            | true =>
              obtain ⟨A1, A2⟩ := ADD 2 rfl
              obtain ⟨m1, hm1⟩ : ∃ m1, 2 * (rr + 1) = m1 := ⟨_, rfl⟩
              rw [hm1] at A1 A2
              obtain ⟨m2, hm2⟩ : ∃ m2, m1 * wt = m2 := ⟨_, rfl⟩
              rw [hm2] at A2
              have hmr : 0 ≤ m1 ∧ m1 ≤ 20 := by omega
              have HM1 := hide hm1
              have HMM := hide hm2
              obtain rfl := A1
              obtain rfl := A2
              clear hm1 hm2 ADD
              go_wp2_with (fail)
              refine wp_region_L (by kernel_rfl) ?_
              refine wpAnyL_take (i := 0) (d := some 57) (v := .agg #[.string a1, .slice (some ⟨q, 0, none⟩) (n + 1) c]) rfl rfl (by kernel_rfl) (by kernel_rfl) (by kernel_rfl) (fun _ _ _ h => h) (by rfl) ?yau0 ?_
              case yau0 => (intro w' hw'; exact exec_load_box 24 _ (by rfl) y 0 (by rfl) 24 _ ((Below.block hw' y (lt_of_block YS0.out)).trans YS0.out) 2 _ Try.underlying24 (by rfl) (by kernel_rfl) [.string a1, .slice (some ⟨q, 0, none⟩) (n + 1) c] (by rfl) (by rfl))
              simp only [Act.put]; try simp only [List.setIfInBounds_toArray]; try simp only [List.set_cons_zero, List.set_cons_succ]
              refine wpAnyL_take (i := 2) (d := some 59) (v := .agg #[.string a1, .slice A n cap]) rfl rfl (by kernel_rfl) (by kernel_rfl) (by kernel_rfl) (fun _ _ _ h => h) (by rfl) ?yau2 ?_
              case yau2 => (intro w' hw'; exact exec_load_box 24 _ (by rfl) x 0 (by rfl) 24 _ ((Below.block hw' x (lt_of_block XS0.out)).trans XS0.out) 2 _ Try.underlying24 (by rfl) (by kernel_rfl) [.string a1, .slice A n cap] (by rfl) (by rfl))
              simp only [Act.put]; try simp only [List.setIfInBounds_toArray]; try simp only [List.set_cons_zero, List.set_cons_succ]
              refine wpAnyL_take (i := 4) (d := some 61) (v := ?vau4) rfl rfl (by kernel_rfl) (by kernel_rfl) (by kernel_rfl) (fun _ _ _ h => h) (by rfl) ?yau4 ?_
              case yau4 => (intro w' hw'; go_simp; try (with_reducible rfl))
              simp only [Act.put]; try simp only [List.setIfInBounds_toArray]; try simp only [List.set_cons_zero, List.set_cons_succ]
              refine wpAnyL_take (i := 5) (d := some 62) (v := ?vau5) rfl rfl (by kernel_rfl) (by kernel_rfl) (by kernel_rfl) (fun _ _ _ h => h) (by rfl) ?yau5 ?_
              case yau5 => (intro w' hw'; go_simp; try (with_reducible rfl))
              simp only [Act.put]; try simp only [List.setIfInBounds_toArray]; try simp only [List.set_cons_zero, List.set_cons_succ]
              refine wpAnyL_take (i := 6) (d := some 63) (v := .int .i64 rr) rfl rfl (by kernel_rfl) (by kernel_rfl) (by kernel_rfl) (fun _ _ _ h => h) (by rfl) ?yau6 ?_
              case yau6 => (intro w' hw'; have hz_ := (show StepBox (x + 1) s w' from (Below.block hw' (x + 1) (lt_of_block ZS0.out)).trans ZS0.out); obtain ⟨b0, b1, b2, b3, b4, b5, bf⟩ := hz_.cells; rw [HRR.out] at b2; rw [HWT.out] at b3; go_simp)
              simp only [Act.put]; try simp only [List.setIfInBounds_toArray]; try simp only [List.set_cons_zero, List.set_cons_succ]
              refine wpAnyL_take (i := 7) (d := some 64) (v := .int .i64 (rr + 1)) rfl rfl (by kernel_rfl) (by kernel_rfl) (by kernel_rfl) (fun _ _ _ h => h) (by rfl) ?yau7 ?_
              case yau7 => (intro w' hw'; go_simp; exact wrap_in (by omega))
              simp only [Act.put]; try simp only [List.setIfInBounds_toArray]; try simp only [List.set_cons_zero, List.set_cons_succ]
              refine wpAnyL_take (i := 8) (d := some 65) (v := .int .i64 m1) rfl rfl (by kernel_rfl) (by kernel_rfl) (by kernel_rfl) (fun _ _ _ h => h) (by rfl) ?yau8 ?_
              case yau8 => (intro w' hw'; have h1 := HM1.out; go_simp; exact wrap_in (by omega))
              simp only [Act.put]; try simp only [List.setIfInBounds_toArray]; try simp only [List.set_cons_zero, List.set_cons_succ]
              refine wpAnyL_only (i := 1) rfl (by kernel_rfl) (by rfl) fun K hK => ?_
              go_simp
              refine (MC.out _ LS0.out).mono ?_
              rintro e w_1 ⟨rfl, hl_⟩
              have LS1 := hide (LS0.out.trans hl_)
              have XS1 := hide (XS0.out.below hl_)
              have YS1 := hide (YS0.out.below hl_)
              have ZS1 := hide (show StepBox (x + 1) s w_1 from (Below.block hl_ (x + 1) (lt_of_block ZS0.out)).trans ZS0.out)
              refine hK.out _ _ hl_ ?_
              clear hl_
              clear hK K
              try (simp only [Act.put]; try simp only [List.setIfInBounds_toArray]; try simp only [List.set_cons_zero, List.set_cons_succ])
              refine wpAnyL_only (i := 3) rfl (by kernel_rfl) (by rfl) fun K hK => ?_
              go_simp
              refine (DC.out _ LS1.out).mono ?_
              rintro e w_3 ⟨rfl, hl_⟩
              have LS3 := hide (LS1.out.trans hl_)
              have XS3 := hide (XS1.out.below hl_)
              have YS3 := hide (YS1.out.below hl_)
              have ZS3 := hide (show StepBox (x + 1) s w_3 from (Below.block hl_ (x + 1) (lt_of_block ZS1.out)).trans ZS1.out)
              refine hK.out _ _ hl_ ?_
              clear hl_
              clear hK K
              try (simp only [Act.put]; try simp only [List.setIfInBounds_toArray]; try simp only [List.set_cons_zero, List.set_cons_succ])
              refine wpAnyL_take (i := 9) (d := some 66) (v := .int .i64 (cd + m1)) rfl rfl (by kernel_rfl) (by kernel_rfl) (by kernel_rfl) (fun _ _ _ h => h) (by rfl) ?yau9 ?_
              case yau9 => (intro w' hw'; go_simp; exact wrap_in (by omega))
              simp only [Act.put]; try simp only [List.setIfInBounds_toArray]; try simp only [List.set_cons_zero, List.set_cons_succ]
              refine wpAnyL_take (i := 10) (d := some 67) (v := ?vau10) rfl rfl (by kernel_rfl) (by kernel_rfl) (by kernel_rfl) (fun _ _ _ h => h) (by rfl) ?yau10 ?_
              case yau10 => (intro w' hw'; go_simp; try (with_reducible rfl))
              simp only [Act.put]; try simp only [List.setIfInBounds_toArray]; try simp only [List.set_cons_zero, List.set_cons_succ]
              refine wpAnyL_take (i := 11) (d := some 68) (v := ?vau11) rfl rfl (by kernel_rfl) (by kernel_rfl) (by kernel_rfl) (fun _ _ _ h => h) (by rfl) ?yau11 ?_
              case yau11 => (intro w' hw'; go_simp; try (with_reducible rfl))
              simp only [Act.put]; try simp only [List.setIfInBounds_toArray]; try simp only [List.set_cons_zero, List.set_cons_succ]
              refine wpAnyL_take (i := 12) (d := some 69) (v := .agg #[.string a1, .slice (some ⟨q, 0, none⟩) (n + 1) c]) rfl rfl (by kernel_rfl) (by kernel_rfl) (by kernel_rfl) (fun _ _ _ h => h) (by rfl) ?yau12 ?_
              case yau12 => (intro w' hw'; exact exec_load_box 24 _ (by rfl) y 0 (by rfl) 24 _ ((Below.block hw' y (lt_of_block YS3.out)).trans YS3.out) 2 _ Try.underlying24 (by rfl) (by kernel_rfl) [.string a1, .slice (some ⟨q, 0, none⟩) (n + 1) c] (by rfl) (by rfl))
              simp only [Act.put]; try simp only [List.setIfInBounds_toArray]; try simp only [List.set_cons_zero, List.set_cons_succ]
              refine wpAnyL_take (i := 14) (d := some 71) (v := .agg #[.string a1, .slice A n cap]) rfl rfl (by kernel_rfl) (by kernel_rfl) (by kernel_rfl) (fun _ _ _ h => h) (by rfl) ?yau14 ?_
              case yau14 => (intro w' hw'; exact exec_load_box 24 _ (by rfl) x 0 (by rfl) 24 _ ((Below.block hw' x (lt_of_block XS3.out)).trans XS3.out) 2 _ Try.underlying24 (by rfl) (by kernel_rfl) [.string a1, .slice A n cap] (by rfl) (by rfl))
              simp only [Act.put]; try simp only [List.setIfInBounds_toArray]; try simp only [List.set_cons_zero, List.set_cons_succ]
              refine wpAnyL_take (i := 16) (d := some 73) (v := ?vau16) rfl rfl (by kernel_rfl) (by kernel_rfl) (by kernel_rfl) (fun _ _ _ h => h) (by rfl) ?yau16 ?_
              case yau16 => (intro w' hw'; go_simp; try (with_reducible rfl))
              simp only [Act.put]; try simp only [List.setIfInBounds_toArray]; try simp only [List.set_cons_zero, List.set_cons_succ]
              refine wpAnyL_take (i := 17) (d := some 74) (v := ?vau17) rfl rfl (by kernel_rfl) (by kernel_rfl) (by kernel_rfl) (fun _ _ _ h => h) (by rfl) ?yau17 ?_
              case yau17 => (intro w' hw'; go_simp; try (with_reducible rfl))
              simp only [Act.put]; try simp only [List.setIfInBounds_toArray]; try simp only [List.set_cons_zero, List.set_cons_succ]
              refine wpAnyL_take (i := 18) (d := some 75) (v := .int .i64 rr) rfl rfl (by kernel_rfl) (by kernel_rfl) (by kernel_rfl) (fun _ _ _ h => h) (by rfl) ?yau18 ?_
              case yau18 => (intro w' hw'; have hz_ := (show StepBox (x + 1) s w' from (Below.block hw' (x + 1) (lt_of_block ZS3.out)).trans ZS3.out); obtain ⟨b0, b1, b2, b3, b4, b5, bf⟩ := hz_.cells; rw [HRR.out] at b2; rw [HWT.out] at b3; go_simp)
              simp only [Act.put]; try simp only [List.setIfInBounds_toArray]; try simp only [List.set_cons_zero, List.set_cons_succ]
              refine wpAnyL_take (i := 19) (d := some 76) (v := .int .i64 (rr + 1)) rfl rfl (by kernel_rfl) (by kernel_rfl) (by kernel_rfl) (fun _ _ _ h => h) (by rfl) ?yau19 ?_
              case yau19 => (intro w' hw'; go_simp; exact wrap_in (by omega))
              simp only [Act.put]; try simp only [List.setIfInBounds_toArray]; try simp only [List.set_cons_zero, List.set_cons_succ]
              refine wpAnyL_take (i := 20) (d := some 77) (v := .int .i64 m1) rfl rfl (by kernel_rfl) (by kernel_rfl) (by kernel_rfl) (fun _ _ _ h => h) (by rfl) ?yau20 ?_
              case yau20 => (intro w' hw'; have h1 := HM1.out; go_simp; exact wrap_in (by omega))
              simp only [Act.put]; try simp only [List.setIfInBounds_toArray]; try simp only [List.set_cons_zero, List.set_cons_succ]
              refine wpAnyL_take (i := 21) (d := some 78) (v := ?vau21) rfl rfl (by kernel_rfl) (by kernel_rfl) (by kernel_rfl) (fun _ _ _ h => h) (by rfl) ?yau21 ?_
              case yau21 => (intro w' hw'; go_simp; try (with_reducible rfl))
              simp only [Act.put]; try simp only [List.setIfInBounds_toArray]; try simp only [List.set_cons_zero, List.set_cons_succ]
              refine wpAnyL_take (i := 22) (d := some 79) (v := .int .i64 wt) rfl rfl (by kernel_rfl) (by kernel_rfl) (by kernel_rfl) (fun _ _ _ h => h) (by rfl) ?yau22 ?_
              case yau22 => (intro w' hw'; have hz_ := (show StepBox (x + 1) s w' from (Below.block hw' (x + 1) (lt_of_block ZS3.out)).trans ZS3.out); obtain ⟨b0, b1, b2, b3, b4, b5, bf⟩ := hz_.cells; rw [HRR.out] at b2; rw [HWT.out] at b3; go_simp)
              simp only [Act.put]; try simp only [List.setIfInBounds_toArray]; try simp only [List.set_cons_zero, List.set_cons_succ]
              refine wpAnyL_take (i := 23) (d := some 80) (v := .int .i64 m2) rfl rfl (by kernel_rfl) (by kernel_rfl) (by kernel_rfl) (fun _ _ _ h => h) (by rfl) ?yau23 ?_
              case yau23 => (intro w' hw'; have h1 := HMM.out; go_simp; exact wrap_in (by omega))
              simp only [Act.put]; try simp only [List.setIfInBounds_toArray]; try simp only [List.set_cons_zero, List.set_cons_succ]
              refine wpAnyL_only (i := 13) rfl (by kernel_rfl) (by rfl) fun K hK => ?_
              go_simp
              refine (ML.out _ LS3.out).mono ?_
              rintro e w_13 ⟨rfl, hl_⟩
              have LS13 := hide (LS3.out.trans hl_)
              have XS13 := hide (XS3.out.below hl_)
              have YS13 := hide (YS3.out.below hl_)
              have ZS13 := hide (show StepBox (x + 1) s w_13 from (Below.block hl_ (x + 1) (lt_of_block ZS3.out)).trans ZS3.out)
              refine hK.out _ _ hl_ ?_
              clear hl_
              clear hK K
              try (simp only [Act.put]; try simp only [List.setIfInBounds_toArray]; try simp only [List.set_cons_zero, List.set_cons_succ])
              refine wpAnyL_only (i := 15) rfl (by kernel_rfl) (by rfl) fun K hK => ?_
              go_simp
              refine (DL.out _ LS13.out).mono ?_
              rintro e w_15 ⟨rfl, hl_⟩
              have LS15 := hide (LS13.out.trans hl_)
              have XS15 := hide (XS13.out.below hl_)
              have YS15 := hide (YS13.out.below hl_)
              have ZS15 := hide (show StepBox (x + 1) s w_15 from (Below.block hl_ (x + 1) (lt_of_block ZS13.out)).trans ZS13.out)
              refine hK.out _ _ hl_ ?_
              clear hl_
              clear hK K
              try (simp only [Act.put]; try simp only [List.setIfInBounds_toArray]; try simp only [List.set_cons_zero, List.set_cons_succ])
              refine wpAnyL_take (i := 24) (d := some 81) (v := .int .i64 (td + m2)) rfl rfl (by kernel_rfl) (by kernel_rfl) (by kernel_rfl) (fun _ _ _ h => h) (by rfl) ?yau24 ?_
              case yau24 => (intro w' hw'; go_simp; exact wrap_in (by omega))
              simp only [Act.put]; try simp only [List.setIfInBounds_toArray]; try simp only [List.set_cons_zero, List.set_cons_succ]
              refine wpAnyL_take (i := 25) (d := some 82) (v := ?vau25) rfl rfl (by kernel_rfl) (by kernel_rfl) (by kernel_rfl) (fun _ _ _ h => h) (by rfl) ?yau25 ?_
              case yau25 => (intro w' hw'; go_simp; try (with_reducible rfl))
              simp only [Act.put]; try simp only [List.setIfInBounds_toArray]; try simp only [List.set_cons_zero, List.set_cons_succ]
              refine wpAnyL_take (i := 26) (d := some 83) (v := ?vau26) rfl rfl (by kernel_rfl) (by kernel_rfl) (by kernel_rfl) (fun _ _ _ h => h) (by rfl) ?yau26 ?_
              case yau26 => (intro w' hw'; go_simp; try (with_reducible rfl))
              simp only [Act.put]; try simp only [List.setIfInBounds_toArray]; try simp only [List.set_cons_zero, List.set_cons_succ]
              refine wpAnyL_take (i := 27) (d := some 84) (v := ?vau27) rfl rfl (by kernel_rfl) (by kernel_rfl) (by kernel_rfl) (fun _ _ _ h => h) (by rfl) ?yau27 ?_
              case yau27 => (intro w' hw'; go_simp; try (with_reducible rfl))
              simp only [Act.put]; try simp only [List.setIfInBounds_toArray]; try simp only [List.set_cons_zero, List.set_cons_succ]
              refine wpAnyL_only (i := 28) rfl (by kernel_rfl) (by rfl) fun K hK => ?_
              go_simp
              refine (LV6.out _ LS15.out).mono ?_
              rintro e w_28 ⟨rfl, hl_⟩
              have LS28 := hide (LS15.out.trans hl_)
              have XS28 := hide (XS15.out.below hl_)
              have YS28 := hide (YS15.out.below hl_)
              have ZS28 := hide (show StepBox (x + 1) s w_28 from (Below.block hl_ (x + 1) (lt_of_block ZS15.out)).trans ZS15.out)
              refine hK.out _ _ hl_ ?_
              clear hl_
              clear hK K
              try (simp only [Act.put]; try simp only [List.setIfInBounds_toArray]; try simp only [List.set_cons_zero, List.set_cons_succ])
              refine wpAnyL_take (i := 29) (d := some 86) (v := ?vau29) rfl rfl (by kernel_rfl) (by kernel_rfl) (by kernel_rfl) (fun _ _ _ h => h) (by rfl) ?yau29 ?_
              case yau29 => (intro w' hw'; go_simp; try (with_reducible rfl))
              simp only [Act.put]; try simp only [List.setIfInBounds_toArray]; try simp only [List.set_cons_zero, List.set_cons_succ]
              refine wpAnyL_take (i := 30) (d := some 4) (v := ?vau30) rfl rfl (by kernel_rfl) (by kernel_rfl) (by kernel_rfl) (fun _ _ _ h => h) (by rfl) ?yau30 ?_
              case yau30 => (intro w' hw'; go_simp; try (with_reducible rfl))
              simp only [Act.put]; try simp only [List.setIfInBounds_toArray]; try simp only [List.set_cons_zero, List.set_cons_succ]
              refine wpAnyL_done (by kernel_rfl) ?_ _
              go_wp2_with (fail)
              go_ret
              exact ⟨rfl, L1.out.trans (G6.out.trans LS28.out)⟩
          · have htm0 : tm = 0 := by rw [← htm]; unfold sumF; rw [if_neg (by rw [HM2.out]; exact hm)]
            have hcm0 : cm = 0 := by rw [← hcm]; unfold sumF; rw [if_neg (by rw [HM2.out]; exact hm)]
            subst htm0 hcm0
            have hm0 : ((m2 : Int) == 0) = false := by rw [beq_eq_false_iff_ne]; omega
            clear htm hcm hm
            go_wp2_with (fail)
            refine wp_region_L (by kernel_rfl) ?_
            refine wpAnyL_take (i := 0) (d := some 46) (v := .agg #[.string a1, .slice (some ⟨q, 0, none⟩) (n + 1) c]) rfl rfl (by kernel_rfl) (by kernel_rfl) (by kernel_rfl) (fun _ _ _ h => h) (by rfl) ?yas0 ?_
            case yas0 => (intro w' hw'; exact exec_load_box 24 _ (by rfl) y 0 (by rfl) 24 _ ((Below.block hw' y (lt_of_block YS0.out)).trans YS0.out) 2 _ Try.underlying24 (by rfl) (by kernel_rfl) [.string a1, .slice (some ⟨q, 0, none⟩) (n + 1) c] (by rfl) (by rfl))
            simp only [Act.put]; try simp only [List.setIfInBounds_toArray]; try simp only [List.set_cons_zero, List.set_cons_succ]
            refine wpAnyL_take (i := 2) (d := some 48) (v := .agg #[.string a1, .slice (some ⟨q, 0, none⟩) (n + 1) c]) rfl rfl (by kernel_rfl) (by kernel_rfl) (by kernel_rfl) (fun _ _ _ h => h) (by rfl) ?yas2 ?_
            case yas2 => (intro w' hw'; exact exec_load_box 24 _ (by rfl) y 0 (by rfl) 24 _ ((Below.block hw' y (lt_of_block YS0.out)).trans YS0.out) 2 _ Try.underlying24 (by rfl) (by kernel_rfl) [.string a1, .slice (some ⟨q, 0, none⟩) (n + 1) c] (by rfl) (by rfl))
            simp only [Act.put]; try simp only [List.setIfInBounds_toArray]; try simp only [List.set_cons_zero, List.set_cons_succ]
            refine wpAnyL_only (i := 1) rfl (by kernel_rfl) (by rfl) fun K hK => ?_
            go_simp
            refine (ML.out _ LS0.out).mono ?_
            rintro e w_1 ⟨rfl, hl_⟩
            have LS1 := hide (LS0.out.trans hl_)
            have XS1 := hide (XS0.out.below hl_)
            have YS1 := hide (YS0.out.below hl_)
            have ZS1 := hide (show StepBox (x + 1) s w_1 from (Below.block hl_ (x + 1) (lt_of_block ZS0.out)).trans ZS0.out)
            refine hK.out _ _ hl_ ?_
            clear hl_
            clear hK K
            try (simp only [Act.put]; try simp only [List.setIfInBounds_toArray]; try simp only [List.set_cons_zero, List.set_cons_succ])
            refine wpAnyL_only (i := 3) rfl (by kernel_rfl) (by rfl) fun K hK => ?_
            go_simp
            refine (MC.out _ LS1.out).mono ?_
            rintro e w_3 ⟨rfl, hl_⟩
            have LS3 := hide (LS1.out.trans hl_)
            have XS3 := hide (XS1.out.below hl_)
            have YS3 := hide (YS1.out.below hl_)
            have ZS3 := hide (show StepBox (x + 1) s w_3 from (Below.block hl_ (x + 1) (lt_of_block ZS1.out)).trans ZS1.out)
            refine hK.out _ _ hl_ ?_
            clear hl_
            clear hK K
            try (simp only [Act.put]; try simp only [List.setIfInBounds_toArray]; try simp only [List.set_cons_zero, List.set_cons_succ])
            refine wpAnyL_take (i := 4) (d := some 50) (v := ?vas4) rfl rfl (by kernel_rfl) (by kernel_rfl) (by kernel_rfl) (fun _ _ _ h => h) (by rfl) ?yas4 ?_
            case yas4 => (intro w' hw'; go_simp; try (with_reducible rfl))
            simp only [Act.put]; try simp only [List.setIfInBounds_toArray]; try simp only [List.set_cons_zero, List.set_cons_succ]
            refine wpAnyL_take (i := 5) (d := some 51) (v := ?vas5) rfl rfl (by kernel_rfl) (by kernel_rfl) (by kernel_rfl) (fun _ _ _ h => h) (by rfl) ?yas5 ?_
            case yas5 => (intro w' hw'; go_simp; try (with_reducible rfl))
            simp only [Act.put]; try simp only [List.setIfInBounds_toArray]; try simp only [List.set_cons_zero, List.set_cons_succ]
            refine wpAnyL_take (i := 6) (d := some 52) (v := ?vas6) rfl rfl (by kernel_rfl) (by kernel_rfl) (by kernel_rfl) (fun _ _ _ h => h) (by rfl) ?yas6 ?_
            case yas6 => (intro w' hw'; go_simp; try (with_reducible rfl))
            simp only [Act.put]; try simp only [List.setIfInBounds_toArray]; try simp only [List.set_cons_zero, List.set_cons_succ]
            refine wpAnyL_only (i := 7) rfl (by kernel_rfl) (by rfl) fun K hK => ?_
            go_simp
            refine (LV6.out _ LS3.out).mono ?_
            rintro e w_7 ⟨rfl, hl_⟩
            have LS7 := hide (LS3.out.trans hl_)
            have XS7 := hide (XS3.out.below hl_)
            have YS7 := hide (YS3.out.below hl_)
            have ZS7 := hide (show StepBox (x + 1) s w_7 from (Below.block hl_ (x + 1) (lt_of_block ZS3.out)).trans ZS3.out)
            refine hK.out _ _ hl_ ?_
            clear hl_
            clear hK K
            try (simp only [Act.put]; try simp only [List.setIfInBounds_toArray]; try simp only [List.set_cons_zero, List.set_cons_succ])
            refine wpAnyL_take (i := 8) (d := some 54) (v := ?vas8) rfl rfl (by kernel_rfl) (by kernel_rfl) (by kernel_rfl) (fun _ _ _ h => h) (by rfl) ?yas8 ?_
            case yas8 => (intro w' hw'; go_simp; try (with_reducible rfl))
            simp only [Act.put]; try simp only [List.setIfInBounds_toArray]; try simp only [List.set_cons_zero, List.set_cons_succ]
            refine wpAnyL_take (i := 9) (d := some 4) (v := ?vas9) rfl rfl (by kernel_rfl) (by kernel_rfl) (by kernel_rfl) (fun _ _ _ h => h) (by rfl) ?yas9 ?_
            case yas9 => (intro w' hw'; go_simp; try (with_reducible rfl))
            simp only [Act.put]; try simp only [List.setIfInBounds_toArray]; try simp only [List.set_cons_zero, List.set_cons_succ]
            refine wpAnyL_done (by kernel_rfl) ?_ _
            go_wp2_with (fail)
            go_ret
            exact ⟨rfl, L1.out.trans (G6.out.trans LS7.out)⟩
  · have hk0 : ((k2 : Int) == 0) = false := by rw [beq_eq_false_iff_ne]; omega
    have hk1 : ((k2 : Int) != 0) = true := by simpa using hk
    have hk3 : ¬ (k2 : Int) = 0 := by omega
    clear hk
    go_wp2_with (fail)
    refine (CLV.out _ L2.out).mono ?_
    rintro e w99 ⟨rfl, hl99⟩
    have L99 := hide (L1.out.trans (L2.out.trans hl99))
    clear hl99
    go_wp2_with (fail)
    go_ret
    exact ⟨rfl, L99.out⟩
end
end Go.Proofs.Ytojhehpbmgkbgaa
/- PlanMeans, as the claim asks it. -/
namespace Go.Proofs.Ytojhehpbmgkbgaa
open Go.RowKit
theorem flat_small {F : Nat → Prop} {w : World} {k n : Nat} {v : Value} {xs : List Value} (h : FlatAt F w k v n xs) : n ≤ 9223372036854775807 := by
  obtain ⟨A, c, _, a, b, _⟩ := FlatAt.shape h; unfold maxLen at b; omega
theorem law_meansW (nm : ByteArray) (v : Value) (l : List StepD) (v2 : Value) (hs : List Bool) (k : Int) (w : World) (h1 : StepsAt (· < w.heap.size) w v l) (_ : nm.size ≤ 140737488355328) (hwf : ∀ s ∈ l, s.wf) (h2 : BoolsAt (· < w.heap.size) w v2 hs) (_ : True) (hk : I64 k) :
    Calls Try.prog 3 #[.agg #[.string nm, v], v2, .int .i64 k] w fun e w' => e = .returned (.bool true) ∧ Later w w' := law_means h1 (flat_small h1) hwf h2 (flat_small h2) hk
end Go.Proofs.Ytojhehpbmgkbgaa
/- PlanSums, as the claim asks it. -/
namespace Go.Proofs.Ytojhehpbmgkbgaa
open Go.RowKit
theorem law_sumsW (nm : ByteArray) (v : Value) (l : List StepD) (s : StepD) (w : World) (h1 : StepsAt (· < w.heap.size) w v l) (_ : nm.size ≤ 140737488355328) (hwf : ∀ s ∈ l, s.wf) (h2 : s.wf) :
    Calls Try.prog 5 #[.agg #[.string nm, v], .agg s.cells.toArray] w fun e w' => e = .returned (.bool true) ∧ Later w w' := law_sums h1 (flat_small h1) hwf h2.1
end Go.Proofs.Ytojhehpbmgkbgaa
namespace Go.Proofs.Ytojhehpbmgkbgaa
open Go.ChangeShapes Go.WideShapes Go.ChangeAt Go.RowKit

theorem planSums_lawKnobs : ownKnob Try.prog.godebug = none := by kernel_rfl
theorem planSums_allLaid : laidOutB Try.prog = true := by kernel_rfl

set_option maxRecDepth 100000 in
set_option maxHeartbeats 1000000 in
theorem planSums_lifted (os : Os) (started : os.Started) (H : Type) (enc : TypeId × Value → H) :
    ReturnsInHanded {} Try.checked os 5 .any (Rows.planSumsSpec.pre6 enc Try.prog Try.f5 Rows.planSumsRow.domain false) (Rows.planSumsSpec.post enc Try.prog Try.f5 false true false false) := by
  refine returnsInHanded_of_change_sized (C := Try.checked) planSums_lawKnobs started (by kernel_rfl) Try.func5
    (ChangeSpec.witness6 (enc := enc) (C := Try.checked) false ⟨#[], #[.agg #[.string ⟨#[]⟩, .slice none 0 0], .agg #[.string ⟨#[]⟩, .int .i64 0, .int .i64 0, .int .i64 0, .bool false, .bool false]], []⟩ 8 (by kernel_rfl) (by kernel_rfl) (by kernel_rfl) (by kernel_rfl)) ?_
  intro W base args ds gs before hval0 hW hcnd hsz _
  have hval : ∀ (j : Nat) t v, Try.f5.params[j]? = some t → args[j]? = some v → Value.okWide Try.prog W .any base t v := hval0
  have hW' := hW
  obtain ⟨p, q, hA0, hV, rfl, _, _⟩ := hW
  have hA : DataW.TrodAll enc Try.prog W 0 (fun _ => true) true Try.f5.params.toList args.toList ds p := hA0
  rw [Try.params5] at hA hval
  obtain ⟨v0, vs0, d0, ds0, p0, q0, hargs, rfl, rfl, h0, r0⟩ := trodAll_cons hA
  obtain ⟨v1, vs1, d1, ds1, p1, q1, rfl, rfl, rfl, h1, r1⟩ := trodAll_cons r0
  obtain ⟨rfl, rfl, rfl⟩ := trodAll_nil r1
  obtain rfl : args = #[v0, v1] := by cases args; simp_all
  obtain ⟨rfl, rfl⟩ := trodVars_none hV
  have k0 := h0
  have lt0 : ∀ x ∈ p0, x.block < W.heap.size := by obtain ⟨m, hm⟩ := k0; exact DataW.trod_lt m _ _ _ hm
  have s0 : Sm 24 d0 := sm_of hsz (j := 0) rfl rfl
  obtain ⟨cs0, rfl, _⟩ := okWide_struct Try.underlying24 (hval 0 24 v0 rfl rfl)
  obtain ⟨nm0, sv0, l0, rfl, hs0, hn0, wf0⟩ := arg_def h0 s0
  have k1 := h1
  have lt1 : ∀ x ∈ p1, x.block < W.heap.size := by obtain ⟨m, hm⟩ := k1; exact DataW.trod_lt m _ _ _ hm
  have s1 : Sm 34 d1 := sm_of hsz (j := 1) rfl rfl
  obtain ⟨cs1, rfl, _⟩ := okWide_struct Try.underlying34 (hval 1 34 v1 rfl rfl)
  obtain ⟨a1, rfl, wf1⟩ := arg_step h1 s1
  clear hA0 hval0
  refine (law_sumsW nm0 sv0 l0 a1 W hs0 hn0 wf0 wf1).mono fun e W' ⟨he, bel⟩ => ?_
  subst he
  exact ⟨_, rfl, _, _, _, [], _, [], hW', trodAll_mk1 (shut_bool Try.underlying4 _), (trodAll_cons_mk (Below.trod planSums_allLaid (by kernel_rfl) (of_decide_eq_true (by kernel_rfl)) k0 bel lt0) (trodAll_cons_mk (Below.trod planSums_allLaid (by kernel_rfl) (of_decide_eq_true (by kernel_rfl)) k1 bel lt1) trodAll_mk0)), rfl, bel.frame _, fun h => by cases h⟩

theorem planSums_over : Rows.planSumsRow.holds Try.pinned (OpenSpec.ofChange Rows.planSumsSpec) :=
  OpenClaim.holds_of_wide 5 Try.f5 rfl rfl rfl rfl rfl rfl rfl ⟨rfl, rfl, rfl, rfl, rfl⟩ rfl rfl rfl rfl rfl (by kernel_rfl) Try.func5 (by kernel_rfl)
    (of_decide_eq_true (by kernel_rfl)) (by unfold Func.isWrapper; first | (rw [if_pos (by decide +kernel)]; kernel_rfl) | (rw [if_neg (by decide +kernel)]; exact ⟨rfl, rfl⟩))
    (fun os started H enc _ => planSums_lifted os started H enc)

theorem planSums_holds : Rows.PlanSumsSaid := planSums_over
#print axioms planSums_holds
end Go.Proofs.Ytojhehpbmgkbgaa
