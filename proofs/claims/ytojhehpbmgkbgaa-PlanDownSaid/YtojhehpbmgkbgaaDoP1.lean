/- Whatever a definition, whatever steps are hit: asked from one less each time, each step that is hit and may be undone is told once, falling; no condition. -/
import Derived.Test.YtojhehpbmgkbgaaBaseP1
import Derived.Test.YtojhehpbmgkbgaaBaseP2
import Derived.Test.YtojhehpbmgkbgaaRows
import Derived.ProofKit
import Derived.OpenShut
import Derived.ShutString
import Derived.ChangeOld
/- PlanMeans. -/
namespace Go.Proofs.Ytojhehpbmgkbgaa
open Go.RowKit

theorem long_le {a : ByteArray} {l : List StepD} (h : longF a l = false) : l.length ≤ 40 := by
  unfold longF at h
  simp at h
  omega
section
variable {w : World}
set_option maxRecDepth 100000 in
set_option maxHeartbeats 8000000 in
theorem law_means {F G : Nat → Prop} {a1 : ByteArray} {v v2 : Value} {l : List StepD} {hs : List Bool} {k : Int} (hl : StepsAt F w v l) (hb : l.length ≤ 9223372036854775807) (hwf : ∀ s ∈ l, s.wf) (hh : BoolsAt G w v2 hs) (hhb : hs.length ≤ 9223372036854775807) (hk : I64 k) :
    Calls Try.prog 3 #[.agg #[.string a1, v], v2, .int .i64 k] w fun e w' => e = .returned (.bool true) ∧ Later w w' := by
  obtain ⟨A, c, rfl, _, _, _⟩ := FlatAt.shape hl
  obtain ⟨A2, cap2, rfl, _, _, _⟩ := FlatAt.shape hh
  obtain ⟨n, hn⟩ : ∃ n, l.length = n := ⟨_, rfl⟩
  obtain ⟨n2, hn2⟩ : ∃ n, hs.length = n := ⟨_, rfl⟩
  rw [hn] at hl ⊢
  rw [hn2] at hh hhb ⊢
  obtain ⟨W1, hW1⟩ : ∃ W1, W1 = w.alloc (.cells #[.string a1, .slice A n c] 24 (0, 0)) := ⟨_, rfl⟩
  obtain ⟨x, hx⟩ : ∃ x, x = w.heap.size := ⟨_, rfl⟩
  have L1 : Hid (Later w W1) := by rw [hW1]; exact (Below.refl _ _).alloc (Nat.le_refl _) _
  have X1 : Hid (DefBox x a1 (.slice A n c) W1) := by rw [hW1, hx]; exact heap_alloc_new w _
  have CLV : Hid (∀ W, Later W1 W → Calls Try.prog 7 #[] W fun e w' => e = .returned (.bool true) ∧ Later W w') := fun W h => lives_any
  have CL1 : Hid (∀ W, Later W1 W → Calls Try.prog 6 #[.agg #[.string a1, .slice A n c]] W fun e w' => e = .returned (.bool (longF a1 l)) ∧ Later W w') := fun W h => long_any (hl.kept (Kept.of_below (L1.out.trans h) _)) hb
  have SL : Hid (∀ W, Later W1 W → StepsAt F W (.slice A n c) l) := fun W h => hl.kept (Kept.of_below (L1.out.trans h) _)
  have SH : Hid (∀ W, Later W1 W → BoolsAt G W (.slice A2 n2 cap2) hs) := fun W h => hh.kept (Kept.of_below (L1.out.trans h) _)
  obtain ⟨q1, hq1⟩ : ∃ q, longF a1 l = q := ⟨_, rfl⟩
  rw [hq1] at CL1
  have HQ1 := hide hq1
  have HWF := hide hwf
  have HK := hide hk
  have HW1 := hide hW1.symm
  have HX := hide hx.symm
  clear hl hh hn hn2 hW1 hx hq1 hb hwf hk
  go_enter Try.func3, Try.ntmps3
  go_wp2_with (fail)
  simp only [HW1.out, HX.out]
  refine (CL1.out _ (Later.refl _)).mono ?_
  rintro e w2 ⟨rfl, hl2⟩
  have L2 := hide hl2
  have X2 := hide (X1.out.below hl2)
  clear hl2 CL1
  cases q1 with
  | true =>
    go_wp2_with (fail)
    refine (CLV.out _ L2.out).mono ?_
    rintro e w3 ⟨rfl, hl3⟩
    have L3 := hide (L1.out.trans (L2.out.trans hl3))
    clear hl3
    go_wp2_with (fail)
    go_ret
    exact ⟨rfl, L3.out⟩
  | false =>
    have HLE := hide (long_le HQ1.out)
    by_cases h100 : 100 < n2
    · have h100' : (100 : Int) < (n2 : Int) := by omega
      go_wp2_with (fail)
      refine (CLV.out _ L2.out).mono ?_
      rintro e w3 ⟨rfl, hl3⟩
      have L3 := hide (L1.out.trans (L2.out.trans hl3))
      clear hl3
      go_wp2_with (fail)
      go_ret
      exact ⟨rfl, L3.out⟩
    · have h100' : ¬ (100 : Int) < (n2 : Int) := by omega
      have LS0 := hide (L2.out.trans (Later.drew w2))
      have XS0 := hide (show w2.drew.heap[x]? = some (.cells #[.string a1, .slice A n c] 24 (0, 0)) from X2.out)
      have h1000 : l.length ≤ 1000 := Nat.le_trans HLE.out (by omega)
      have K1 : Hid (∀ W, Later W1 W → Calls Try.prog 8 #[.agg #[.string a1, .slice A n c]] W fun e w' => e = .returned (.int .i64 ((pivotN l : Nat) : Int)) ∧ Later W w') := fun W h => pivot_any (SL.out W h) h1000
      have K3 : Hid (∀ W, Later W1 W → Calls Try.prog 9 #[.agg #[.string a1, .slice A n c]] W fun e w' => e = .returned (.int .i64 ((pivotN l : Nat) : Int)) ∧ Later W w') := fun W h => rpivot_any (SL.out W h) h1000
      have K8 : Hid (∀ W, Later W1 W → Calls Try.prog 10 #[.agg #[.string a1, .slice A n c], .int .i64 k] W fun e w' => e = .returned (.int .i64 (triesN l k)) ∧ Later W w') := fun W h => Tries_any (SL.out W h) HK.out HWF.out
      have K11 : Hid (∀ W, Later W1 W → Calls Try.prog 11 #[.agg #[.string a1, .slice A n c], .int .i64 k] W fun e w' => e = .returned (.int .i64 (triesN l k)) ∧ Later W w') := fun W h => rTries_any (SL.out W h) HK.out HWF.out
      have K18 : Hid (∀ W, Later W1 W → Calls Try.prog 12 #[.agg #[.string a1, .slice A n c], .slice A2 n2 cap2, .int .i64 k] W fun e w' => e = .returned (.int .i64 ((downF l hs k : Nat) : Int)) ∧ Later W w') := fun W h => Down_any (SL.out W h) h1000 (SH.out W h) HK.out
      have K22 : Hid (∀ W, Later W1 W → Calls Try.prog 13 #[.agg #[.string a1, .slice A n c], .slice A2 n2 cap2, .int .i64 k] W fun e w' => e = .returned (.int .i64 ((downF l hs k : Nat) : Int)) ∧ Later W w') := fun W h => rDown_any (SL.out W h) h1000 (SH.out W h) HK.out
      have K28 : Hid (∀ W, Later W1 W → Calls Try.prog 14 #[.agg #[.string a1, .slice A n c], .slice A2 n2 cap2] W fun e w' => e = .returned (.bool (sealedF l hs)) ∧ Later W w') := fun W h => sealed_any (SL.out W h) h1000 (SH.out W h)
      have K31 : Hid (∀ W, Later W1 W → Calls Try.prog 15 #[.agg #[.string a1, .slice A n c], .slice A2 n2 cap2] W fun e w' => e = .returned (.bool (sealedF l hs)) ∧ Later W w') := fun W h => rsealed_any (SL.out W h) h1000 (SH.out W h)
      have K36 : Hid (∀ W, Later W1 W → Calls Try.prog 16 #[.agg #[.string a1, .slice A n c]] W fun e w' => e = .returned (.int .i64 (sumF ticksF a1 l)) ∧ Later W w') := fun W h => longest_any (SL.out W h)
      have K38 : Hid (∀ W, Later W1 W → Calls Try.prog 17 #[.agg #[.string a1, .slice A n c]] W fun e w' => e = .returned (.int .i64 (sumF ticksF a1 l)) ∧ Later W w') := fun W h => rlongest_any (SL.out W h) HWF.out
      have K43 : Hid (∀ W, Later W1 W → Calls Try.prog 18 #[.agg #[.string a1, .slice A n c]] W fun e w' => e = .returned (.int .i64 (sumF triesF a1 l)) ∧ Later W w') := fun W h => commands_any (SL.out W h)
      have K45 : Hid (∀ W, Later W1 W → Calls Try.prog 19 #[.agg #[.string a1, .slice A n c]] W fun e w' => e = .returned (.int .i64 (sumF triesF a1 l)) ∧ Later W w') := fun W h => rcommands_any (SL.out W h) HWF.out
      obtain ⟨P1, hP1⟩ : ∃ P : Nat, pivotN l = P := ⟨_, rfl⟩
      obtain ⟨P2, hP2⟩ : ∃ P, triesN l k = P := ⟨_, rfl⟩
      obtain ⟨P3, hP3⟩ : ∃ P : Nat, downF l hs k = P := ⟨_, rfl⟩
      obtain ⟨P4, hP4⟩ : ∃ P, sealedF l hs = P := ⟨_, rfl⟩
      obtain ⟨P5, hP5⟩ : ∃ P, sumF ticksF a1 l = P := ⟨_, rfl⟩
      obtain ⟨P6, hP6⟩ : ∃ P, sumF triesF a1 l = P := ⟨_, rfl⟩
      rw [hP1] at K1 K3
      rw [hP2] at K8 K11
      rw [hP3] at K18 K22
      rw [hP4] at K28 K31
      rw [hP5] at K36 K38
      rw [hP6] at K43 K45
      have K49 := CLV
      clear hP1 hP2 hP3 hP4 hP5 hP6 h1000 CLV
      go_wp2_with (fail)
      refine wp_region_L (by kernel_rfl) ?_
      refine wpAnyL_take (i := 0) (d := some 15) (v := .agg #[.string a1, .slice A n c]) rfl rfl (by kernel_rfl) (by kernel_rfl) (by kernel_rfl) (fun _ _ _ h => h) (by rfl) ?yas0 ?_
      case yas0 => (intro w' hw'; exact exec_load_box 24 _ (by rfl) x 0 (by rfl) 24 _ ((Below.block hw' x (lt_of_block XS0.out)).trans XS0.out) 2 _ Try.underlying24 (by rfl) (by kernel_rfl) [.string a1, .slice A n c] (by rfl) (by rfl))
      simp only [Act.put]; try simp only [List.setIfInBounds_toArray]; try simp only [List.set_cons_zero, List.set_cons_succ]
      refine wpAnyL_take (i := 2) (d := some 17) (v := .agg #[.string a1, .slice A n c]) rfl rfl (by kernel_rfl) (by kernel_rfl) (by kernel_rfl) (fun _ _ _ h => h) (by rfl) ?yas2 ?_
      case yas2 => (intro w' hw'; exact exec_load_box 24 _ (by rfl) x 0 (by rfl) 24 _ ((Below.block hw' x (lt_of_block XS0.out)).trans XS0.out) 2 _ Try.underlying24 (by rfl) (by kernel_rfl) [.string a1, .slice A n c] (by rfl) (by rfl))
      simp only [Act.put]; try simp only [List.setIfInBounds_toArray]; try simp only [List.set_cons_zero, List.set_cons_succ]
      refine wpAnyL_only (i := 1) rfl (by kernel_rfl) (by rfl) fun K hK => ?_
      go_simp
      refine (K1.out _ LS0.out).mono ?_
      rintro e w_1 ⟨rfl, hl_⟩
      have LS1 := hide (LS0.out.trans hl_)
      have XS1 := hide ((Below.block hl_ x (lt_of_block XS0.out)).trans XS0.out)
      refine hK.out _ _ hl_ ?_
      clear hl_
      clear hK K
      try (simp only [Act.put]; try simp only [List.setIfInBounds_toArray]; try simp only [List.set_cons_zero, List.set_cons_succ])
      refine wpAnyL_only (i := 3) rfl (by kernel_rfl) (by rfl) fun K hK => ?_
      go_simp
      refine (K3.out _ LS1.out).mono ?_
      rintro e w_3 ⟨rfl, hl_⟩
      have LS3 := hide (LS1.out.trans hl_)
      have XS3 := hide ((Below.block hl_ x (lt_of_block XS1.out)).trans XS1.out)
      refine hK.out _ _ hl_ ?_
      clear hl_
      clear hK K
      try (simp only [Act.put]; try simp only [List.setIfInBounds_toArray]; try simp only [List.set_cons_zero, List.set_cons_succ])
      refine wpAnyL_take (i := 4) (d := some 19) (v := ?vas4) rfl rfl (by kernel_rfl) (by kernel_rfl) (by kernel_rfl) (fun _ _ _ h => h) (by rfl) ?yas4 ?_
      case yas4 => (intro w' hw'; go_simp; try (with_reducible rfl))
      simp only [Act.put]; try simp only [List.setIfInBounds_toArray]; try simp only [List.set_cons_zero, List.set_cons_succ]
      refine wpAnyL_take (i := 5) (d := some 20) (v := ?vas5) rfl rfl (by kernel_rfl) (by kernel_rfl) (by kernel_rfl) (fun _ _ _ h => h) (by rfl) ?yas5 ?_
      case yas5 => (intro w' hw'; go_simp; try (with_reducible rfl))
      simp only [Act.put]; try simp only [List.setIfInBounds_toArray]; try simp only [List.set_cons_zero, List.set_cons_succ]
      refine wpAnyL_take (i := 6) (d := some 21) (v := .agg #[.string a1, .slice A n c]) rfl rfl (by kernel_rfl) (by kernel_rfl) (by kernel_rfl) (fun _ _ _ h => h) (by rfl) ?yas6 ?_
      case yas6 => (intro w' hw'; exact exec_load_box 24 _ (by rfl) x 0 (by rfl) 24 _ ((Below.block hw' x (lt_of_block XS3.out)).trans XS3.out) 2 _ Try.underlying24 (by rfl) (by kernel_rfl) [.string a1, .slice A n c] (by rfl) (by rfl))
      simp only [Act.put]; try simp only [List.setIfInBounds_toArray]; try simp only [List.set_cons_zero, List.set_cons_succ]
      refine wpAnyL_take (i := 7) (d := some 22) (v := ?vas7) rfl rfl (by kernel_rfl) (by kernel_rfl) (by kernel_rfl) (fun _ _ _ h => h) (by rfl) ?yas7 ?_
      case yas7 => (intro w' hw'; go_simp; try (with_reducible rfl))
      simp only [Act.put]; try simp only [List.setIfInBounds_toArray]; try simp only [List.set_cons_zero, List.set_cons_succ]
      refine wpAnyL_take (i := 9) (d := some 24) (v := .agg #[.string a1, .slice A n c]) rfl rfl (by kernel_rfl) (by kernel_rfl) (by kernel_rfl) (fun _ _ _ h => h) (by rfl) ?yas9 ?_
      case yas9 => (intro w' hw'; exact exec_load_box 24 _ (by rfl) x 0 (by rfl) 24 _ ((Below.block hw' x (lt_of_block XS3.out)).trans XS3.out) 2 _ Try.underlying24 (by rfl) (by kernel_rfl) [.string a1, .slice A n c] (by rfl) (by rfl))
      simp only [Act.put]; try simp only [List.setIfInBounds_toArray]; try simp only [List.set_cons_zero, List.set_cons_succ]
      refine wpAnyL_take (i := 10) (d := some 25) (v := ?vas10) rfl rfl (by kernel_rfl) (by kernel_rfl) (by kernel_rfl) (fun _ _ _ h => h) (by rfl) ?yas10 ?_
      case yas10 => (intro w' hw'; go_simp; try (with_reducible rfl))
      simp only [Act.put]; try simp only [List.setIfInBounds_toArray]; try simp only [List.set_cons_zero, List.set_cons_succ]
      refine wpAnyL_only (i := 8) rfl (by kernel_rfl) (by rfl) fun K hK => ?_
      go_simp
      refine (K8.out _ LS3.out).mono ?_
      rintro e w_8 ⟨rfl, hl_⟩
      have LS8 := hide (LS3.out.trans hl_)
      have XS8 := hide ((Below.block hl_ x (lt_of_block XS3.out)).trans XS3.out)
      refine hK.out _ _ hl_ ?_
      clear hl_
      clear hK K
      try (simp only [Act.put]; try simp only [List.setIfInBounds_toArray]; try simp only [List.set_cons_zero, List.set_cons_succ])
      refine wpAnyL_only (i := 11) rfl (by kernel_rfl) (by rfl) fun K hK => ?_
      go_simp
      refine (K11.out _ LS8.out).mono ?_
      rintro e w_11 ⟨rfl, hl_⟩
      have LS11 := hide (LS8.out.trans hl_)
      have XS11 := hide ((Below.block hl_ x (lt_of_block XS8.out)).trans XS8.out)
      refine hK.out _ _ hl_ ?_
      clear hl_
      clear hK K
      try (simp only [Act.put]; try simp only [List.setIfInBounds_toArray]; try simp only [List.set_cons_zero, List.set_cons_succ])
      refine wpAnyL_take (i := 12) (d := some 27) (v := ?vas12) rfl rfl (by kernel_rfl) (by kernel_rfl) (by kernel_rfl) (fun _ _ _ h => h) (by rfl) ?yas12 ?_
      case yas12 => (intro w' hw'; go_simp; try (with_reducible rfl))
      simp only [Act.put]; try simp only [List.setIfInBounds_toArray]; try simp only [List.set_cons_zero, List.set_cons_succ]
      refine wpAnyL_take (i := 13) (d := some 28) (v := ?vas13) rfl rfl (by kernel_rfl) (by kernel_rfl) (by kernel_rfl) (fun _ _ _ h => h) (by rfl) ?yas13 ?_
      case yas13 => (intro w' hw'; go_simp; try (with_reducible rfl))
      simp only [Act.put]; try simp only [List.setIfInBounds_toArray]; try simp only [List.set_cons_zero, List.set_cons_succ]
      refine wpAnyL_take (i := 14) (d := some 29) (v := ?vas14) rfl rfl (by kernel_rfl) (by kernel_rfl) (by kernel_rfl) (fun _ _ _ h => h) (by rfl) ?yas14 ?_
      case yas14 => (intro w' hw'; go_simp; try (with_reducible rfl))
      simp only [Act.put]; try simp only [List.setIfInBounds_toArray]; try simp only [List.set_cons_zero, List.set_cons_succ]
      refine wpAnyL_take (i := 15) (d := some 30) (v := .agg #[.string a1, .slice A n c]) rfl rfl (by kernel_rfl) (by kernel_rfl) (by kernel_rfl) (fun _ _ _ h => h) (by rfl) ?yas15 ?_
      case yas15 => (intro w' hw'; exact exec_load_box 24 _ (by rfl) x 0 (by rfl) 24 _ ((Below.block hw' x (lt_of_block XS11.out)).trans XS11.out) 2 _ Try.underlying24 (by rfl) (by kernel_rfl) [.string a1, .slice A n c] (by rfl) (by rfl))
      simp only [Act.put]; try simp only [List.setIfInBounds_toArray]; try simp only [List.set_cons_zero, List.set_cons_succ]
      refine wpAnyL_take (i := 16) (d := some 31) (v := ?vas16) rfl rfl (by kernel_rfl) (by kernel_rfl) (by kernel_rfl) (fun _ _ _ h => h) (by rfl) ?yas16 ?_
      case yas16 => (intro w' hw'; go_simp; try (with_reducible rfl))
      simp only [Act.put]; try simp only [List.setIfInBounds_toArray]; try simp only [List.set_cons_zero, List.set_cons_succ]
      refine wpAnyL_take (i := 17) (d := some 32) (v := ?vas17) rfl rfl (by kernel_rfl) (by kernel_rfl) (by kernel_rfl) (fun _ _ _ h => h) (by rfl) ?yas17 ?_
      case yas17 => (intro w' hw'; go_simp; try (with_reducible rfl))
      simp only [Act.put]; try simp only [List.setIfInBounds_toArray]; try simp only [List.set_cons_zero, List.set_cons_succ]
      refine wpAnyL_take (i := 19) (d := some 34) (v := .agg #[.string a1, .slice A n c]) rfl rfl (by kernel_rfl) (by kernel_rfl) (by kernel_rfl) (fun _ _ _ h => h) (by rfl) ?yas19 ?_
      case yas19 => (intro w' hw'; exact exec_load_box 24 _ (by rfl) x 0 (by rfl) 24 _ ((Below.block hw' x (lt_of_block XS11.out)).trans XS11.out) 2 _ Try.underlying24 (by rfl) (by kernel_rfl) [.string a1, .slice A n c] (by rfl) (by rfl))
      simp only [Act.put]; try simp only [List.setIfInBounds_toArray]; try simp only [List.set_cons_zero, List.set_cons_succ]
      refine wpAnyL_take (i := 20) (d := some 35) (v := ?vas20) rfl rfl (by kernel_rfl) (by kernel_rfl) (by kernel_rfl) (fun _ _ _ h => h) (by rfl) ?yas20 ?_
      case yas20 => (intro w' hw'; go_simp; try (with_reducible rfl))
      simp only [Act.put]; try simp only [List.setIfInBounds_toArray]; try simp only [List.set_cons_zero, List.set_cons_succ]
      refine wpAnyL_take (i := 21) (d := some 36) (v := ?vas21) rfl rfl (by kernel_rfl) (by kernel_rfl) (by kernel_rfl) (fun _ _ _ h => h) (by rfl) ?yas21 ?_
      case yas21 => (intro w' hw'; go_simp; try (with_reducible rfl))
      simp only [Act.put]; try simp only [List.setIfInBounds_toArray]; try simp only [List.set_cons_zero, List.set_cons_succ]
      refine wpAnyL_only (i := 18) rfl (by kernel_rfl) (by rfl) fun K hK => ?_
      go_simp
      refine (K18.out _ LS11.out).mono ?_
      rintro e w_18 ⟨rfl, hl_⟩
      have LS18 := hide (LS11.out.trans hl_)
      have XS18 := hide ((Below.block hl_ x (lt_of_block XS11.out)).trans XS11.out)
      refine hK.out _ _ hl_ ?_
      clear hl_
      clear hK K
      try (simp only [Act.put]; try simp only [List.setIfInBounds_toArray]; try simp only [List.set_cons_zero, List.set_cons_succ])
      refine wpAnyL_only (i := 22) rfl (by kernel_rfl) (by rfl) fun K hK => ?_
      go_simp
      refine (K22.out _ LS18.out).mono ?_
      rintro e w_22 ⟨rfl, hl_⟩
      have LS22 := hide (LS18.out.trans hl_)
      have XS22 := hide ((Below.block hl_ x (lt_of_block XS18.out)).trans XS18.out)
      refine hK.out _ _ hl_ ?_
      clear hl_
      clear hK K
      try (simp only [Act.put]; try simp only [List.setIfInBounds_toArray]; try simp only [List.set_cons_zero, List.set_cons_succ])
      refine wpAnyL_take (i := 23) (d := some 38) (v := ?vas23) rfl rfl (by kernel_rfl) (by kernel_rfl) (by kernel_rfl) (fun _ _ _ h => h) (by rfl) ?yas23 ?_
      case yas23 => (intro w' hw'; go_simp; try (with_reducible rfl))
      simp only [Act.put]; try simp only [List.setIfInBounds_toArray]; try simp only [List.set_cons_zero, List.set_cons_succ]
      refine wpAnyL_take (i := 24) (d := some 39) (v := ?vas24) rfl rfl (by kernel_rfl) (by kernel_rfl) (by kernel_rfl) (fun _ _ _ h => h) (by rfl) ?yas24 ?_
      case yas24 => (intro w' hw'; go_simp; try (with_reducible rfl))
      simp only [Act.put]; try simp only [List.setIfInBounds_toArray]; try simp only [List.set_cons_zero, List.set_cons_succ]
      refine wpAnyL_take (i := 25) (d := some 40) (v := ?vas25) rfl rfl (by kernel_rfl) (by kernel_rfl) (by kernel_rfl) (fun _ _ _ h => h) (by rfl) ?yas25 ?_
      case yas25 => (intro w' hw'; go_simp; try (with_reducible rfl))
      simp only [Act.put]; try simp only [List.setIfInBounds_toArray]; try simp only [List.set_cons_zero, List.set_cons_succ]
      refine wpAnyL_take (i := 26) (d := some 41) (v := .agg #[.string a1, .slice A n c]) rfl rfl (by kernel_rfl) (by kernel_rfl) (by kernel_rfl) (fun _ _ _ h => h) (by rfl) ?yas26 ?_
      case yas26 => (intro w' hw'; exact exec_load_box 24 _ (by rfl) x 0 (by rfl) 24 _ ((Below.block hw' x (lt_of_block XS22.out)).trans XS22.out) 2 _ Try.underlying24 (by rfl) (by kernel_rfl) [.string a1, .slice A n c] (by rfl) (by rfl))
      simp only [Act.put]; try simp only [List.setIfInBounds_toArray]; try simp only [List.set_cons_zero, List.set_cons_succ]
      refine wpAnyL_take (i := 27) (d := some 42) (v := ?vas27) rfl rfl (by kernel_rfl) (by kernel_rfl) (by kernel_rfl) (fun _ _ _ h => h) (by rfl) ?yas27 ?_
      case yas27 => (intro w' hw'; go_simp; try (with_reducible rfl))
      simp only [Act.put]; try simp only [List.setIfInBounds_toArray]; try simp only [List.set_cons_zero, List.set_cons_succ]
      refine wpAnyL_take (i := 29) (d := some 44) (v := .agg #[.string a1, .slice A n c]) rfl rfl (by kernel_rfl) (by kernel_rfl) (by kernel_rfl) (fun _ _ _ h => h) (by rfl) ?yas29 ?_
      case yas29 => (intro w' hw'; exact exec_load_box 24 _ (by rfl) x 0 (by rfl) 24 _ ((Below.block hw' x (lt_of_block XS22.out)).trans XS22.out) 2 _ Try.underlying24 (by rfl) (by kernel_rfl) [.string a1, .slice A n c] (by rfl) (by rfl))
      simp only [Act.put]; try simp only [List.setIfInBounds_toArray]; try simp only [List.set_cons_zero, List.set_cons_succ]
      refine wpAnyL_take (i := 30) (d := some 45) (v := ?vas30) rfl rfl (by kernel_rfl) (by kernel_rfl) (by kernel_rfl) (fun _ _ _ h => h) (by rfl) ?yas30 ?_
      case yas30 => (intro w' hw'; go_simp; try (with_reducible rfl))
      simp only [Act.put]; try simp only [List.setIfInBounds_toArray]; try simp only [List.set_cons_zero, List.set_cons_succ]
      refine wpAnyL_only (i := 28) rfl (by kernel_rfl) (by rfl) fun K hK => ?_
      go_simp
      refine (K28.out _ LS22.out).mono ?_
      rintro e w_28 ⟨rfl, hl_⟩
      have LS28 := hide (LS22.out.trans hl_)
      have XS28 := hide ((Below.block hl_ x (lt_of_block XS22.out)).trans XS22.out)
      refine hK.out _ _ hl_ ?_
      clear hl_
      clear hK K
      try (simp only [Act.put]; try simp only [List.setIfInBounds_toArray]; try simp only [List.set_cons_zero, List.set_cons_succ])
      refine wpAnyL_only (i := 31) rfl (by kernel_rfl) (by rfl) fun K hK => ?_
      go_simp
      refine (K31.out _ LS28.out).mono ?_
      rintro e w_31 ⟨rfl, hl_⟩
      have LS31 := hide (LS28.out.trans hl_)
      have XS31 := hide ((Below.block hl_ x (lt_of_block XS28.out)).trans XS28.out)
      refine hK.out _ _ hl_ ?_
      clear hl_
      clear hK K
      try (simp only [Act.put]; try simp only [List.setIfInBounds_toArray]; try simp only [List.set_cons_zero, List.set_cons_succ])
      refine wpAnyL_take (i := 32) (d := some 47) (v := ?vas32) rfl rfl (by kernel_rfl) (by kernel_rfl) (by kernel_rfl) (fun _ _ _ h => h) (by rfl) ?yas32 ?_
      case yas32 => (intro w' hw'; go_simp; try (with_reducible rfl))
      simp only [Act.put]; try simp only [List.setIfInBounds_toArray]; try simp only [List.set_cons_zero, List.set_cons_succ]
      refine wpAnyL_take (i := 33) (d := some 48) (v := ?vas33) rfl rfl (by kernel_rfl) (by kernel_rfl) (by kernel_rfl) (fun _ _ _ h => h) (by rfl) ?yas33 ?_
      case yas33 => (intro w' hw'; go_simp; try (with_reducible rfl))
      simp only [Act.put]; try simp only [List.setIfInBounds_toArray]; try simp only [List.set_cons_zero, List.set_cons_succ]
      refine wpAnyL_take (i := 34) (d := some 49) (v := ?vas34) rfl rfl (by kernel_rfl) (by kernel_rfl) (by kernel_rfl) (fun _ _ _ h => h) (by rfl) ?yas34 ?_
      case yas34 => (intro w' hw'; go_simp; try (with_reducible rfl))
      simp only [Act.put]; try simp only [List.setIfInBounds_toArray]; try simp only [List.set_cons_zero, List.set_cons_succ]
      refine wpAnyL_take (i := 35) (d := some 50) (v := .agg #[.string a1, .slice A n c]) rfl rfl (by kernel_rfl) (by kernel_rfl) (by kernel_rfl) (fun _ _ _ h => h) (by rfl) ?yas35 ?_
      case yas35 => (intro w' hw'; exact exec_load_box 24 _ (by rfl) x 0 (by rfl) 24 _ ((Below.block hw' x (lt_of_block XS31.out)).trans XS31.out) 2 _ Try.underlying24 (by rfl) (by kernel_rfl) [.string a1, .slice A n c] (by rfl) (by rfl))
      simp only [Act.put]; try simp only [List.setIfInBounds_toArray]; try simp only [List.set_cons_zero, List.set_cons_succ]
      refine wpAnyL_take (i := 37) (d := some 52) (v := .agg #[.string a1, .slice A n c]) rfl rfl (by kernel_rfl) (by kernel_rfl) (by kernel_rfl) (fun _ _ _ h => h) (by rfl) ?yas37 ?_
      case yas37 => (intro w' hw'; exact exec_load_box 24 _ (by rfl) x 0 (by rfl) 24 _ ((Below.block hw' x (lt_of_block XS31.out)).trans XS31.out) 2 _ Try.underlying24 (by rfl) (by kernel_rfl) [.string a1, .slice A n c] (by rfl) (by rfl))
      simp only [Act.put]; try simp only [List.setIfInBounds_toArray]; try simp only [List.set_cons_zero, List.set_cons_succ]
      refine wpAnyL_only (i := 36) rfl (by kernel_rfl) (by rfl) fun K hK => ?_
      go_simp
      refine (K36.out _ LS31.out).mono ?_
      rintro e w_36 ⟨rfl, hl_⟩
      have LS36 := hide (LS31.out.trans hl_)
      have XS36 := hide ((Below.block hl_ x (lt_of_block XS31.out)).trans XS31.out)
      refine hK.out _ _ hl_ ?_
      clear hl_
      clear hK K
      try (simp only [Act.put]; try simp only [List.setIfInBounds_toArray]; try simp only [List.set_cons_zero, List.set_cons_succ])
      refine wpAnyL_only (i := 38) rfl (by kernel_rfl) (by rfl) fun K hK => ?_
      go_simp
      refine (K38.out _ LS36.out).mono ?_
      rintro e w_38 ⟨rfl, hl_⟩
      have LS38 := hide (LS36.out.trans hl_)
      have XS38 := hide ((Below.block hl_ x (lt_of_block XS36.out)).trans XS36.out)
      refine hK.out _ _ hl_ ?_
      clear hl_
      clear hK K
      try (simp only [Act.put]; try simp only [List.setIfInBounds_toArray]; try simp only [List.set_cons_zero, List.set_cons_succ])
      refine wpAnyL_take (i := 39) (d := some 54) (v := ?vas39) rfl rfl (by kernel_rfl) (by kernel_rfl) (by kernel_rfl) (fun _ _ _ h => h) (by rfl) ?yas39 ?_
      case yas39 => (intro w' hw'; go_simp; try (with_reducible rfl))
      simp only [Act.put]; try simp only [List.setIfInBounds_toArray]; try simp only [List.set_cons_zero, List.set_cons_succ]
      refine wpAnyL_take (i := 40) (d := some 55) (v := ?vas40) rfl rfl (by kernel_rfl) (by kernel_rfl) (by kernel_rfl) (fun _ _ _ h => h) (by rfl) ?yas40 ?_
      case yas40 => (intro w' hw'; go_simp; try (with_reducible rfl))
      simp only [Act.put]; try simp only [List.setIfInBounds_toArray]; try simp only [List.set_cons_zero, List.set_cons_succ]
      refine wpAnyL_take (i := 41) (d := some 56) (v := ?vas41) rfl rfl (by kernel_rfl) (by kernel_rfl) (by kernel_rfl) (fun _ _ _ h => h) (by rfl) ?yas41 ?_
      case yas41 => (intro w' hw'; go_simp; try (with_reducible rfl))
      simp only [Act.put]; try simp only [List.setIfInBounds_toArray]; try simp only [List.set_cons_zero, List.set_cons_succ]
      refine wpAnyL_take (i := 42) (d := some 57) (v := .agg #[.string a1, .slice A n c]) rfl rfl (by kernel_rfl) (by kernel_rfl) (by kernel_rfl) (fun _ _ _ h => h) (by rfl) ?yas42 ?_
      case yas42 => (intro w' hw'; exact exec_load_box 24 _ (by rfl) x 0 (by rfl) 24 _ ((Below.block hw' x (lt_of_block XS38.out)).trans XS38.out) 2 _ Try.underlying24 (by rfl) (by kernel_rfl) [.string a1, .slice A n c] (by rfl) (by rfl))
      simp only [Act.put]; try simp only [List.setIfInBounds_toArray]; try simp only [List.set_cons_zero, List.set_cons_succ]
      refine wpAnyL_take (i := 44) (d := some 59) (v := .agg #[.string a1, .slice A n c]) rfl rfl (by kernel_rfl) (by kernel_rfl) (by kernel_rfl) (fun _ _ _ h => h) (by rfl) ?yas44 ?_
      case yas44 => (intro w' hw'; exact exec_load_box 24 _ (by rfl) x 0 (by rfl) 24 _ ((Below.block hw' x (lt_of_block XS38.out)).trans XS38.out) 2 _ Try.underlying24 (by rfl) (by kernel_rfl) [.string a1, .slice A n c] (by rfl) (by rfl))
      simp only [Act.put]; try simp only [List.setIfInBounds_toArray]; try simp only [List.set_cons_zero, List.set_cons_succ]
      refine wpAnyL_only (i := 43) rfl (by kernel_rfl) (by rfl) fun K hK => ?_
      go_simp
      refine (K43.out _ LS38.out).mono ?_
      rintro e w_43 ⟨rfl, hl_⟩
      have LS43 := hide (LS38.out.trans hl_)
      have XS43 := hide ((Below.block hl_ x (lt_of_block XS38.out)).trans XS38.out)
      refine hK.out _ _ hl_ ?_
      clear hl_
      clear hK K
      try (simp only [Act.put]; try simp only [List.setIfInBounds_toArray]; try simp only [List.set_cons_zero, List.set_cons_succ])
      refine wpAnyL_only (i := 45) rfl (by kernel_rfl) (by rfl) fun K hK => ?_
      go_simp
      refine (K45.out _ LS43.out).mono ?_
      rintro e w_45 ⟨rfl, hl_⟩
      have LS45 := hide (LS43.out.trans hl_)
      have XS45 := hide ((Below.block hl_ x (lt_of_block XS43.out)).trans XS43.out)
      refine hK.out _ _ hl_ ?_
      clear hl_
      clear hK K
      try (simp only [Act.put]; try simp only [List.setIfInBounds_toArray]; try simp only [List.set_cons_zero, List.set_cons_succ])
      refine wpAnyL_take (i := 46) (d := some 61) (v := ?vas46) rfl rfl (by kernel_rfl) (by kernel_rfl) (by kernel_rfl) (fun _ _ _ h => h) (by rfl) ?yas46 ?_
      case yas46 => (intro w' hw'; go_simp; try (with_reducible rfl))
      simp only [Act.put]; try simp only [List.setIfInBounds_toArray]; try simp only [List.set_cons_zero, List.set_cons_succ]
      refine wpAnyL_take (i := 47) (d := some 62) (v := ?vas47) rfl rfl (by kernel_rfl) (by kernel_rfl) (by kernel_rfl) (fun _ _ _ h => h) (by rfl) ?yas47 ?_
      case yas47 => (intro w' hw'; go_simp; try (with_reducible rfl))
      simp only [Act.put]; try simp only [List.setIfInBounds_toArray]; try simp only [List.set_cons_zero, List.set_cons_succ]
      refine wpAnyL_take (i := 48) (d := some 63) (v := ?vas48) rfl rfl (by kernel_rfl) (by kernel_rfl) (by kernel_rfl) (fun _ _ _ h => h) (by rfl) ?yas48 ?_
      case yas48 => (intro w' hw'; go_simp; try (with_reducible rfl))
      simp only [Act.put]; try simp only [List.setIfInBounds_toArray]; try simp only [List.set_cons_zero, List.set_cons_succ]
      refine wpAnyL_only (i := 49) rfl (by kernel_rfl) (by rfl) fun K hK => ?_
      go_simp
      refine (K49.out _ LS45.out).mono ?_
      rintro e w_49 ⟨rfl, hl_⟩
      have LS49 := hide (LS45.out.trans hl_)
      have XS49 := hide ((Below.block hl_ x (lt_of_block XS45.out)).trans XS45.out)
      refine hK.out _ _ hl_ ?_
      clear hl_
      clear hK K
      try (simp only [Act.put]; try simp only [List.setIfInBounds_toArray]; try simp only [List.set_cons_zero, List.set_cons_succ])
      refine wpAnyL_take (i := 50) (d := some 65) (v := ?vas50) rfl rfl (by kernel_rfl) (by kernel_rfl) (by kernel_rfl) (fun _ _ _ h => h) (by rfl) ?yas50 ?_
      case yas50 => (intro w' hw'; go_simp; try (with_reducible rfl))
      simp only [Act.put]; try simp only [List.setIfInBounds_toArray]; try simp only [List.set_cons_zero, List.set_cons_succ]
      refine wpAnyL_take (i := 51) (d := some 6) (v := ?vas51) rfl rfl (by kernel_rfl) (by kernel_rfl) (by kernel_rfl) (fun _ _ _ h => h) (by rfl) ?yas51 ?_
      case yas51 => (intro w' hw'; go_simp; try (with_reducible rfl))
      simp only [Act.put]; try simp only [List.setIfInBounds_toArray]; try simp only [List.set_cons_zero, List.set_cons_succ]
      refine wpAnyL_done (by kernel_rfl) ?_ _
      go_wp2_with (fail)
      go_ret
      exact ⟨rfl, L1.out.trans LS49.out⟩
end
end Go.Proofs.Ytojhehpbmgkbgaa
/- PlanDown. -/
namespace Go.Proofs.Ytojhehpbmgkbgaa
open Go.RowKit

/-- How many of the first k steps are hit and have a way back. -/
def cntN (l : List StepD) (hs : List Bool) : Nat → Nat
  | 0 => 0
  | k + 1 => if okAt l hs k then cntN l hs k + 1 else cntN l hs k
theorem cnt_down {l : List StepD} {hs : List Bool} : ∀ (K k : Nat), downN l hs K = k + 1 → cntN l hs K = cntN l hs k + 1 ∧ okAt l hs k = true ∧ k + 1 ≤ K
  | 0, k, h => by cases h
  | K + 1, k, h => by
    unfold downN at h
    split at h
    · rename_i hk
      obtain rfl : K = k := by omega
      exact ⟨by rw [cntN, if_pos hk], hk, Nat.le_refl _⟩
    · rename_i hk
      obtain ⟨h1, h2, h3⟩ := cnt_down K k h
      exact ⟨by rw [cntN, if_neg hk, h1], h2, by omega⟩
theorem cnt_zero {l : List StepD} {hs : List Bool} : ∀ (K : Nat), downN l hs K = 0 → cntN l hs K = 0
  | 0, _ => rfl
  | K + 1, h => by
    unfold downN at h
    split at h
    · cases h
    · rename_i hk
      rw [cntN, if_neg hk, cnt_zero K h]
theorem cnt_le {l : List StepD} {hs : List Bool} : ∀ (K : Nat), cntN l hs K ≤ K
  | 0 => Nat.le_refl _
  | K + 1 => by
    have := cnt_le (l := l) (hs := hs) K
    unfold cntN
    split <;> omega
theorem downF_nat {l : List StepD} {hs : List Bool} {K : Nat} (h : K ≤ l.length) : downF l hs (K : Int) = downN l hs K := by
  unfold downF
  rw [show (min (K : Int) (l.length : Int)).toNat = K from by omega]
theorem ok_parts {l : List StepD} {hs : List Bool} {k : Nat} {s : StepD} (h : l[k]? = some s) (hk : okAt l hs k = true) : s.undo = true ∧ hs[k]? = some true := by
  unfold okAt at hk
  rw [h] at hk
  simp only [Option.map_some, Option.getD_some, Bool.and_eq_true] at hk
  refine ⟨hk.1, ?_⟩
  cases hq : hs[k]? with
  | none => rw [hq] at hk; simp at hk
  | some x => rw [hq] at hk; simp at hk; rw [hk.2]

section
variable {w : World}
set_option maxRecDepth 100000 in
set_option maxHeartbeats 8000000 in
theorem law_down {F G : Nat → Prop} {a1 : ByteArray} {v v2 : Value} {l : List StepD} {hs : List Bool} (hl : StepsAt F w v l) (hb : l.length ≤ 9223372036854775807) (hh : BoolsAt G w v2 hs) (hhb : hs.length ≤ 9223372036854775807) :
    Calls Try.prog 4 #[.agg #[.string a1, v], v2] w fun e w' => e = .returned (.bool true) ∧ Later w w' := by
  obtain ⟨A, c, rfl, _, _, _⟩ := FlatAt.shape hl
  obtain ⟨A2, cap2, rfl, _, _, _⟩ := FlatAt.shape hh
  obtain ⟨n, hn⟩ : ∃ n, l.length = n := ⟨_, rfl⟩
  obtain ⟨n2, hn2⟩ : ∃ n, hs.length = n := ⟨_, rfl⟩
  rw [hn] at hl ⊢
  rw [hn2] at hh hhb ⊢
  obtain ⟨W1, hW1⟩ : ∃ W1, W1 = w.alloc (.cells #[.string a1, .slice A n c] 24 (0, 0)) := ⟨_, rfl⟩
  obtain ⟨x, hx⟩ : ∃ x, x = w.heap.size := ⟨_, rfl⟩
  have L1 : Hid (Later w W1) := by rw [hW1]; exact (Below.refl _ _).alloc (Nat.le_refl _) _
  have X1 : Hid (DefBox x a1 (.slice A n c) W1) := by rw [hW1, hx]; exact heap_alloc_new w _
  have CLV : Hid (∀ W, Later W1 W → Calls Try.prog 7 #[] W fun e w' => e = .returned (.bool true) ∧ Later W w') := fun W h => lives_any
  have CL1 : Hid (∀ W, Later W1 W → Calls Try.prog 6 #[.agg #[.string a1, .slice A n c]] W fun e w' => e = .returned (.bool (longF a1 l)) ∧ Later W w') := fun W h => long_any (hl.kept (Kept.of_below (L1.out.trans h) _)) hb
  have SL : Hid (∀ W, Later W1 W → StepsAt F W (.slice A n c) l) := fun W h => hl.kept (Kept.of_below (L1.out.trans h) _)
  have SH : Hid (∀ W, Later W1 W → BoolsAt G W (.slice A2 n2 cap2) hs) := fun W h => hh.kept (Kept.of_below (L1.out.trans h) _)
  obtain ⟨q1, hq1⟩ : ∃ q, longF a1 l = q := ⟨_, rfl⟩
  rw [hq1] at CL1
  have HQ1 := hide hq1
  have HN := hide hn
  have HN2 := hide hn2
  have HW1 := hide hW1.symm
  have HX := hide hx.symm
  clear hl hh hn hn2 hW1 hx hq1 hb
  go_enter Try.func4, Try.ntmps4
  go_wp2_with (fail)
  simp only [HW1.out, HX.out]
  refine (CL1.out _ (Later.refl _)).mono ?_
  rintro e w2 ⟨rfl, hl2⟩
  have L2 := hide hl2
  have X2 := hide (X1.out.below hl2)
  clear hl2 CL1
  cases q1 with
  | true =>
    go_wp2_with (fail)
    refine (CLV.out _ L2.out).mono ?_
    rintro e w3 ⟨rfl, hl3⟩
    have L3 := hide (L1.out.trans (L2.out.trans hl3))
    clear hl3
    go_wp2_with (fail)
    go_ret
    exact ⟨rfl, L3.out⟩
  | false =>
    have HLE := hide (long_le HQ1.out)
    by_cases h100 : 100 < n2
    · have h100' : (100 : Int) < (n2 : Int) := by omega
      go_wp2_with (fail)
      refine (CLV.out _ L2.out).mono ?_
      rintro e w3 ⟨rfl, hl3⟩
      have L3 := hide (L1.out.trans (L2.out.trans hl3))
      clear hl3
      go_wp2_with (fail)
      go_ret
      exact ⟨rfl, L3.out⟩
    · have h100' : ¬ (100 : Int) < (n2 : Int) := by omega
      have hn40 : n ≤ 40 := by have := HLE.out; rwa [HN.out] at this
      have CD : Hid (∀ (W : World) (K : Nat), Later W1 W → K ≤ n → Calls Try.prog 12 #[.agg #[.string a1, .slice A n c], .slice A2 n2 cap2, .int .i64 (K : Int)] W fun e w' => e = .returned (.int .i64 ((downN l hs K : Nat) : Int)) ∧ Later W w') := fun W K h hK => by
        have h2 := Down_any (name := a1) (fr := (K : Int)) (SL.out W h) (by rw [HN.out]; omega) (SH.out W h) (by unfold I64; omega)
        rwa [downF_nat (by rw [HN.out]; exact hK)] at h2
      have x1 : w2.cell? ⟨x, 1, none⟩ = some (.slice A n c) := X2.out.steps
      go_wp2_with (fail)
      go_loopw [5, 21] (fun t v wr => ∃ i : Nat, v = .int .i64 (i : Int) ∧ i ≤ n ∧ t = .int .i64 ((cntN l hs i : Nat) : Int) ∧ Later w2 wr) (fun _ v _ => n - (intOf v).toNat)
      case atStart => exact ⟨0, rfl, by omega, rfl, Later.refl _⟩
      case round =>
        obtain ⟨i, rfl, hi, rfl, hlat⟩ := hrel
        have HL := hide hlat
        have hcl := cnt_le (l := l) (hs := hs) i
        obtain ⟨T, hT⟩ : ∃ T : Nat, cntN l hs i = T := ⟨_, rfl⟩
        rw [hT] at hcl ⊢
        have HT := hide hT
        clear hlat hT x1
        by_cases hlt : i < n
        · obtain ⟨s, b, off, c', hs', hvv, _, _, _, hr⟩ := StepsAt.at_ (SL.out _ (L2.out.trans HL.out)) (i := i) (by rw [HN.out]; exact hlt)
          rw [HN.out] at hvv
          obtain ⟨rfl, rfl⟩ : A = some ⟨b, off, none⟩ ∧ c = c' := by injection hvv with e1 _ e3; exact ⟨e1, e3⟩
          obtain ⟨r0, r1, r2, r3, r4, r5⟩ := range_step hr
          obtain ⟨W5, hW5⟩ : ∃ W5, W5 = wr.alloc (.cells s.cells.toArray 34 (0, 0)) := ⟨_, rfl⟩
          have L5 : Hid (Later wr W5) := by rw [hW5]; exact (Below.refl _ _).alloc (Nat.le_refl _) _
          have L25 : Hid (Later w2 W5) := HL.out.trans L5.out
          have HOK := hide (okAt_hit (hs := hs) hs')
          have HST : Hid (cntN l hs (i + 1) = if okAt l hs i then T + 1 else T) := by show _ = _; rw [cntN, HT.out]
          obtain ⟨un, hun⟩ : ∃ un, s.undo = un := ⟨_, rfl⟩
          rw [hun] at r4 HOK
          unfold StepD.cells at hW5
          rw [hun] at hW5
          have SH5 := hide (SH.out _ (L2.out.trans L25.out))
          clear hs' hvv hr hun
          by_cases hi2 : i < n2
          · obtain ⟨h, b2, off2, c2, hhx, hvv2, _, _, hb2, hcell⟩ := BoolsAt.at_ SH5.out (i := i) (by rw [HN2.out]; exact hi2)
            rw [HN2.out] at hvv2
            obtain ⟨rfl, rfl⟩ : A2 = some ⟨b2, off2, none⟩ ∧ cap2 = c2 := by injection hvv2 with e1 _ e3; exact ⟨e1, e3⟩
            have HH2 := hide (hit_at hhx)
            rw [hW5] at hcell
            have HW5 := hide hW5.symm
            clear hvv2 hhx hW5
            cases un with
            | false =>
              have HE : Hid (cntN l hs (i + 1) = T) := by show _ = _; rw [HST.out, HOK.out]; rfl
              clear HST HOK HH2
              go_wp2
              go_roundw
              case rel => exact ⟨i + 1, by go_num, by omega, by rw [HE.out], by rw [HW5.out]; exact L25.out⟩
              case measure => simp [intOf]; omega
            | true =>
              cases h with
              | false =>
                have HE : Hid (cntN l hs (i + 1) = T) := by show _ = _; rw [HST.out, HOK.out, HH2.out]; rfl
                clear HST HOK HH2
                go_wp2
                go_roundw
                case rel => exact ⟨i + 1, by go_num, by omega, by rw [HE.out], by rw [HW5.out]; exact L25.out⟩
                case measure => simp [intOf]; omega
              | true =>
                have HE : Hid (cntN l hs (i + 1) = T + 1) := by show _ = _; rw [HST.out, HOK.out, HH2.out]; rfl
                clear HST HOK HH2
                go_wp2
                go_roundw
                case rel => exact ⟨i + 1, by go_num, by omega, by rw [HE.out]; go_num, by rw [HW5.out]; exact L25.out⟩
                case measure => simp [intOf]; omega
          · have hno : hitB hs ((i : Int) + 1) = false := hit_no (.inr (by rw [HN2.out]; omega))
            have hi3 : ¬ (i : Int) < (n2 : Int) := by omega
            have HE : Hid (cntN l hs (i + 1) = T) := by show _ = _; rw [HST.out, HOK.out, hno]; simp
            have HW5 := hide hW5.symm
            clear HST HOK hno hW5
            cases un with
            | false =>
              go_wp2
              go_roundw
              case rel => exact ⟨i + 1, by go_num, by omega, by rw [HE.out], by rw [HW5.out]; exact L25.out⟩
              case measure => simp [intOf]; omega
            | true =>
              go_wp2
              go_roundw
              case rel => exact ⟨i + 1, by go_num, by omega, by rw [HE.out], by rw [HW5.out]; exact L25.out⟩
              case measure => simp [intOf]; omega
        · have hin : i = n := by omega
          rw [hin] at HT
          have X3 := hide (X2.out.below HL.out)
          have L3 := hide (L2.out.trans HL.out)
          have x0 : wr.cell? ⟨x, 0, none⟩ = some (.string a1) := X3.out.name_
          have x1 : wr.cell? ⟨x, 1, none⟩ = some (.slice A n c) := X3.out.steps
          clear hcl
          go_wp2_with (fail)
          refine (CD.out _ n L3.out (Nat.le_refl _)).mono ?_
          rintro e w4 ⟨rfl, hl4⟩
          have L4 := hide (L3.out.trans hl4)
          have X4 := hide (X3.out.below hl4)
          have HTH := hide HT.out
          obtain ⟨D0, hD0⟩ : ∃ D0 : Nat, downN l hs n = D0 := ⟨_, rfl⟩
          rw [hD0]
          have HD0 := hide hD0
          have hTn : T ≤ n := by rw [← HT.out]; exact cnt_le n
          have hdn : D0 ≤ n := by rw [← hD0]; exact downN_le l hs n
          have y1 : w4.cell? ⟨x, 1, none⟩ = some (.slice A n c) := X4.out.steps
          clear x0 x1 hl4 hlt HT hD0
          go_wp2_with (fail)
          go_loopw [5, 8, 9] (fun t f k wv => ∃ (K : Nat) (D : Nat), K ≤ n ∧ downN l hs K = D ∧ t = .int .i64 ((cntN l hs K : Nat) : Int) ∧ f = .int .i64 (K : Int) ∧ k = .int .i64 (D : Int) ∧ Later w4 wv) (fun _ f _ _ => (intOf f).toNat)
          case atStart => exact ⟨n, D0, Nat.le_refl _, HD0.out, by rw [HTH.out], rfl, rfl, Later.refl _⟩
          case round =>
            obtain ⟨K, D, hK, hD, rfl, rfl, rfl, hlat⟩ := hrel
            have HL5 := hide hlat
            have X5 := hide (X4.out.below hlat)
            have z0 := X5.out.name_
            have z1 := X5.out.steps
            have SL5 := hide (SL.out _ (L4.out.trans hlat))
            have SH5 := hide (SH.out _ (L4.out.trans hlat))
            obtain ⟨U, hU⟩ : ∃ U : Nat, cntN l hs K = U := ⟨_, rfl⟩
            rw [hU]
            have HU := hide hU
            have HD := hide hD
            have hUn : U ≤ K := by rw [← hU]; exact cnt_le K
            clear hlat hU hD y1 hTn hdn
            cases D with
            | zero =>
              obtain rfl : U = 0 := by rw [← HU.out]; exact cnt_zero K HD.out
              go_wp2_with (fail)
              refine (CLV.out _ (L4.out.trans HL5.out)).mono ?_
              rintro e w6 ⟨rfl, hl6⟩
              have L6 := hide (L1.out.trans (L4.out.trans (HL5.out.trans hl6)))
              clear hl6 z0 z1
              go_wp2
              go_ret
              exact ⟨rfl, L6.out⟩
            | succ k =>
              obtain ⟨hc1, hok, hkK⟩ := cnt_down K k HD.out
              have HC1 := hide (HU.out.symm.trans hc1)
              have hkn : k < n := by omega
              obtain ⟨s, b, off, c', hs', hvv, _, _, _, hr⟩ := StepsAt.at_ SL5.out (i := k) (by rw [HN.out]; exact hkn)
              rw [HN.out] at hvv
              obtain ⟨rfl, rfl⟩ : A = some ⟨b, off, none⟩ ∧ c = c' := by injection hvv with e1 _ e3; exact ⟨e1, e3⟩
              obtain ⟨r0, r1, r2, r3, r4, r5⟩ := range_step hr
              obtain ⟨hun, hh1⟩ := ok_parts hs' hok
              rw [hun] at r4
              have hk2 : k < n2 := by rw [← HN2.out]; exact (List.getElem?_eq_some_iff.1 hh1).1
              obtain ⟨h, b2, off2, c2, hhx, hvv2, _, _, hb2, hcell⟩ := BoolsAt.at_ SH5.out (i := k) (by rw [HN2.out]; exact hk2)
              rw [HN2.out] at hvv2
              obtain ⟨rfl, rfl⟩ : A2 = some ⟨b2, off2, none⟩ ∧ cap2 = c2 := by injection hvv2 with e1 _ e3; exact ⟨e1, e3⟩
              obtain rfl : h = true := by rw [hh1] at hhx; injection hhx with e; exact e.symm
              have e1 : ((k + 1 : Nat) : Int) = (k : Int) + 1 := by omega
              have e2 : (k : Int) + 1 - 1 = (k : Int) := by omega
              have g1 : ¬ (K : Int) < (k : Int) + 1 := by omega
              have g2 : ¬ (n2 : Int) < (k : Int) + 1 := by omega
              have g3 : 0 < (k : Int) + 1 := by omega
              obtain ⟨u, hu⟩ : ∃ u, cntN l hs k = u := ⟨_, rfl⟩
              rw [hu] at HC1
              have HU2 := hide hu
              obtain rfl : U = u + 1 := HC1.out
              have e3 : ((u + 1 : Nat) : Int) = (u : Int) + 1 := by omega
              have e4 : (u : Int) + 1 - 1 = (u : Int) := by omega
              have g4 : ¬ (u : Int) < 0 := by omega
              have CK := hide (CD.out _ k (L4.out.trans HL5.out) (by omega))
              have hdk := downN_le l hs k
              obtain ⟨D2, hD2⟩ : ∃ D2 : Nat, downN l hs k = D2 := ⟨_, rfl⟩
              rw [hD2] at CK hdk
              have HD2 := hide hD2
              simp only [e1, e3]
              clear hs' hvv hr hun hh1 hhx hvv2 hc1 hok HC1 hu hD2 e1 e3 r0 r1 r2 r3 r5 HU HD
              go_wp2_with (fail)
              refine CK.out.mono ?_
              rintro e w6 ⟨rfl, hl6⟩
              have L6 := hide (HL5.out.trans hl6)
              clear hl6 z0 z1 CK r4 hcell
              go_wp2
              go_roundw
              case rel => exact ⟨k, D2, by omega, HD2.out, by rw [HU2.out], rfl, rfl, L6.out⟩
              case measure => simp [intOf]; omega
end
end Go.Proofs.Ytojhehpbmgkbgaa
/- PlanMeans, as the claim asks it. -/
namespace Go.Proofs.Ytojhehpbmgkbgaa
open Go.RowKit
theorem flat_small {F : Nat → Prop} {w : World} {k n : Nat} {v : Value} {xs : List Value} (h : FlatAt F w k v n xs) : n ≤ 9223372036854775807 := by
  obtain ⟨A, c, _, a, b, _⟩ := FlatAt.shape h; unfold maxLen at b; omega
theorem law_meansW (nm : ByteArray) (v : Value) (l : List StepD) (v2 : Value) (hs : List Bool) (k : Int) (w : World) (h1 : StepsAt (· < w.heap.size) w v l) (_ : nm.size ≤ 140737488355328) (hwf : ∀ s ∈ l, s.wf) (h2 : BoolsAt (· < w.heap.size) w v2 hs) (_ : True) (hk : I64 k) :
    Calls Try.prog 3 #[.agg #[.string nm, v], v2, .int .i64 k] w fun e w' => e = .returned (.bool true) ∧ Later w w' := law_means h1 (flat_small h1) hwf h2 (flat_small h2) hk
end Go.Proofs.Ytojhehpbmgkbgaa
/- PlanDown, as the claim asks it. -/
namespace Go.Proofs.Ytojhehpbmgkbgaa
open Go.RowKit
theorem law_downW (nm : ByteArray) (v : Value) (l : List StepD) (v2 : Value) (hs : List Bool) (w : World) (h1 : StepsAt (· < w.heap.size) w v l) (_ : nm.size ≤ 140737488355328) (_ : ∀ s ∈ l, s.wf) (h2 : BoolsAt (· < w.heap.size) w v2 hs) (_ : True) :
    Calls Try.prog 4 #[.agg #[.string nm, v], v2] w fun e w' => e = .returned (.bool true) ∧ Later w w' := law_down h1 (flat_small h1) h2 (flat_small h2)
end Go.Proofs.Ytojhehpbmgkbgaa
namespace Go.Proofs.Ytojhehpbmgkbgaa
open Go.ChangeShapes Go.WideShapes Go.ChangeAt Go.RowKit

theorem planDown_lawKnobs : ownKnob Try.prog.godebug = none := by kernel_rfl
theorem planDown_allLaid : laidOutB Try.prog = true := by kernel_rfl

set_option maxRecDepth 100000 in
set_option maxHeartbeats 1000000 in
theorem planDown_lifted (os : Os) (started : os.Started) (H : Type) (enc : TypeId × Value → H) :
    ReturnsInHanded {} Try.checked os 4 .any (Rows.planDownSpec.pre6 enc Try.prog Try.f4 Rows.planDownRow.domain false) (Rows.planDownSpec.post enc Try.prog Try.f4 false true false false) := by
  refine returnsInHanded_of_change_sized (C := Try.checked) planDown_lawKnobs started (by kernel_rfl) Try.func4
    (ChangeSpec.witness6 (enc := enc) (C := Try.checked) false ⟨#[], #[.agg #[.string ⟨#[]⟩, .slice none 0 0], .slice none 0 0], []⟩ 8 (by kernel_rfl) (by kernel_rfl) (by kernel_rfl) (by kernel_rfl)) ?_
  intro W base args ds gs before hval0 hW hcnd hsz _
  have hval : ∀ (j : Nat) t v, Try.f4.params[j]? = some t → args[j]? = some v → Value.okWide Try.prog W .any base t v := hval0
  have hW' := hW
  obtain ⟨p, q, hA0, hV, rfl, _, _⟩ := hW
  have hA : DataW.TrodAll enc Try.prog W 0 (fun _ => true) true Try.f4.params.toList args.toList ds p := hA0
  rw [Try.params4] at hA hval
  obtain ⟨v0, vs0, d0, ds0, p0, q0, hargs, rfl, rfl, h0, r0⟩ := trodAll_cons hA
  obtain ⟨v1, vs1, d1, ds1, p1, q1, rfl, rfl, rfl, h1, r1⟩ := trodAll_cons r0
  obtain ⟨rfl, rfl, rfl⟩ := trodAll_nil r1
  obtain rfl : args = #[v0, v1] := by cases args; simp_all
  obtain ⟨rfl, rfl⟩ := trodVars_none hV
  have k0 := h0
  have lt0 : ∀ x ∈ p0, x.block < W.heap.size := by obtain ⟨m, hm⟩ := k0; exact DataW.trod_lt m _ _ _ hm
  have s0 : Sm 24 d0 := sm_of hsz (j := 0) rfl rfl
  obtain ⟨cs0, rfl, _⟩ := okWide_struct Try.underlying24 (hval 0 24 v0 rfl rfl)
  obtain ⟨nm0, sv0, l0, rfl, hs0, hn0, wf0⟩ := arg_def h0 s0
  have k1 := h1
  have lt1 : ∀ x ∈ p1, x.block < W.heap.size := by obtain ⟨m, hm⟩ := k1; exact DataW.trod_lt m _ _ _ hm
  have s1 : Sm 25 d1 := sm_of hsz (j := 1) rfl rfl
  obtain ⟨A1, len1, cap1, rfl⟩ := okWide_slice Try.underlying25 (hval 1 25 v1 rfl rfl)
  obtain ⟨l1, hl1, wf1⟩ := arg_bools h1 s1
  clear hA0 hval0
  refine (law_downW nm0 sv0 l0 (.slice A1 len1 cap1) l1 W hs0 hn0 wf0 hl1 wf1).mono fun e W' ⟨he, bel⟩ => ?_
  subst he
  exact ⟨_, rfl, _, _, _, [], _, [], hW', trodAll_mk1 (shut_bool Try.underlying4 _), (trodAll_cons_mk (Below.trod planDown_allLaid (by kernel_rfl) (of_decide_eq_true (by kernel_rfl)) k0 bel lt0) (trodAll_cons_mk (Below.trod planDown_allLaid (by kernel_rfl) (of_decide_eq_true (by kernel_rfl)) k1 bel lt1) trodAll_mk0)), rfl, bel.frame _, fun h => by cases h⟩

theorem planDown_over : Rows.planDownRow.holds Try.pinned (OpenSpec.ofChange Rows.planDownSpec) :=
  OpenClaim.holds_of_wide 4 Try.f4 rfl rfl rfl rfl rfl rfl rfl ⟨rfl, rfl, rfl, rfl, rfl⟩ rfl rfl rfl rfl rfl (by kernel_rfl) Try.func4 (by kernel_rfl)
    (of_decide_eq_true (by kernel_rfl)) (by unfold Func.isWrapper; first | (rw [if_pos (by decide +kernel)]; kernel_rfl) | (rw [if_neg (by decide +kernel)]; exact ⟨rfl, rfl⟩))
    (fun os started H enc _ => planDown_lifted os started H enc)

theorem planDown_holds : Rows.PlanDownSaid := planDown_over
#print axioms planDown_holds
end Go.Proofs.Ytojhehpbmgkbgaa
