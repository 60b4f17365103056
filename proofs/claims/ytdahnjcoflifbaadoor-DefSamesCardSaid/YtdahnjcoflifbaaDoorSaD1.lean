/- Whatever two definitions come in: DefSames returns true and changes no argument. Conditions: the package-level table of package def starts as the program's text lays it; each argument takes up what the row allows. -/
import Derived.Test.YtdahnjcoflifbaaDoorBaseD1
import Derived.Test.YtdahnjcoflifbaaDoorBaseD2
import Derived.Test.YtdahnjcoflifbaaDoorBaseD3
import Derived.Test.YtdahnjcoflifbaaDoorCards
import Derived.Test.YtdahnjcoflifbaaDoorTie
import Derived.SevenTiedAt
import Derived.ShutString
import Derived.ChangeOld
import Derived.ChangeMaps5
/- DefSames. -/
namespace Go.Proofs.YtdahnjcoflifbaaDoor
open Go.RowKit

section
variable {w : World}
set_option maxHeartbeats 8000000 in
set_option maxRecDepth 100000 in
theorem law_sames {F G : Nat → Prop} {a1 a2 : ByteArray} {v v2 : Value} {l m : List StepD} (hl : StepsAt F w v l) (hm : StepsAt G w v2 m) (h1b : l.length ≤ 9223372036854775807) (h2b : m.length ≤ 9223372036854775807) (ho : OptAt w) :
    Calls Tryd.prog 6 #[.agg #[.string a1, v], .agg #[.string a2, v2]] w fun e w' => e = .returned (.bool true) ∧ Later w w' := by
  obtain ⟨A, c, rfl, _, _, _⟩ := FlatAt.shape hl
  obtain ⟨A2, c2, rfl, _, _, _⟩ := FlatAt.shape hm
  obtain ⟨n, hn⟩ : ∃ n, l.length = n := ⟨_, rfl⟩
  obtain ⟨n2, hn2⟩ : ∃ n2, m.length = n2 := ⟨_, rfl⟩
  rw [hn] at hl ⊢
  rw [hn2] at hm ⊢
  obtain ⟨W1, hW1⟩ : ∃ W1, W1 = (w.alloc (.cells #[.string a1, .slice A n c] 25 (0, 0))).alloc (.cells #[.string a2, .slice A2 n2 c2] 25 (0, 0)) := ⟨_, rfl⟩
  obtain ⟨x, hx⟩ : ∃ x, x = w.heap.size := ⟨_, rfl⟩
  obtain ⟨y, hy⟩ : ∃ y, y = x + 1 := ⟨_, rfl⟩
  have L1 : Hid (Later w W1) := by rw [hW1]; exact ((Below.refl _ _).alloc (Nat.le_refl _) _).alloc (by simp) _
  have X1 : Hid (W1.heap[x]? = some (.cells #[.string a1, .slice A n c] 25 (0, 0))) := by rw [hW1, hx]; exact heap_alloc2_old _ _ _
  have Y1 : Hid (W1.heap[y]? = some (.cells #[.string a2, .slice A2 n2 c2] 25 (0, 0))) := by rw [hW1, hy, hx]; exact heap_alloc2_new _ _ _
  have CLV : Hid (∀ W, Later W1 W → Calls Tryd.prog 9 #[] W fun e w' => e = .returned (.bool true) ∧ Later W w') := fun W h => lives_any (ho.later (L1.out.trans h))
  have CL1 : Hid (∀ W, Later W1 W → Calls Tryd.prog 13 #[.agg #[.string a1, .slice A n c]] W fun e w' => e = .returned (.bool (longF a1 l)) ∧ Later W w') := fun W h => long_any (hl.kept (Kept.of_below (L1.out.trans h) _)) h1b
  have CL2 : Hid (∀ W, Later W1 W → Calls Tryd.prog 13 #[.agg #[.string a2, .slice A2 n2 c2]] W fun e w' => e = .returned (.bool (longF a2 m)) ∧ Later W w') := fun W h => long_any (hm.kept (Kept.of_below (L1.out.trans h) _)) h2b
  obtain ⟨q, hq⟩ : ∃ q, decide (a1 = a2 ∧ l = m) = q := ⟨_, rfl⟩
  have hq2 : decide (a2 = a1 ∧ m = l) = q := by rw [← hq, decide_eq_decide]; constructor <;> (rintro ⟨rfl, rfl⟩; exact ⟨rfl, rfl⟩)
  have CS : Hid (∀ W, Later W1 W → Calls Tryd.prog 18 #[.agg #[.string a1, .slice A n c], .agg #[.string a2, .slice A2 n2 c2]] W fun e w' => e = .returned (.bool q) ∧ Later W w') := fun W h => hq ▸ same13_any (hl.kept (Kept.of_below (L1.out.trans h) _)) (hm.kept (Kept.of_below (L1.out.trans h) _))
  have CS2 : Hid (∀ W, Later W1 W → Calls Tryd.prog 18 #[.agg #[.string a2, .slice A2 n2 c2], .agg #[.string a1, .slice A n c]] W fun e w' => e = .returned (.bool q) ∧ Later W w') := fun W h => hq2 ▸ same13_any (hm.kept (Kept.of_below (L1.out.trans h) _)) (hl.kept (Kept.of_below (L1.out.trans h) _))
  have CSS : Hid (∀ W, Later W1 W → Calls Tryd.prog 18 #[.agg #[.string a1, .slice A n c], .agg #[.string a1, .slice A n c]] W fun e w' => e = .returned (.bool true) ∧ Later W w') := fun W h => by
    have := same13_any (a1 := a1) (a2 := a1) (hl.kept (Kept.of_below (L1.out.trans h) _)) (hl.kept (Kept.of_below (L1.out.trans h) _))
    simpa using this
  have CR : Hid (∀ W, Later W1 W → Calls Tryd.prog 12 #[.agg #[.string a1, .slice A n c], .agg #[.string a2, .slice A2 n2 c2]] W fun e w' => e = .returned (.bool q) ∧ Later W w') := fun W h => hq ▸ rsame13_any (hl.kept (Kept.of_below (L1.out.trans h) _)) (hm.kept (Kept.of_below (L1.out.trans h) _))
  obtain ⟨q1, hq1⟩ : ∃ q, longF a1 l = q := ⟨_, rfl⟩
  obtain ⟨q2, hq2'⟩ : ∃ q, longF a2 m = q := ⟨_, rfl⟩
  rw [hq1] at CL1
  rw [hq2'] at CL2
  have HW1 := hide hW1.symm
  have HX := hide hx.symm
  have HY := hide hy.symm
  clear hl hm hn hn2 hW1 hx hy hq hq2 hq1 hq2' h1b h2b ho
  go_enter Tryd.func6, Tryd.ntmps6
  go_wp2_with (fail)
  have hw := HW1.out
  have hxx := HX.out
  have hyy := HY.out
  simp only [hw, hxx, hyy]
  clear hw hxx hyy
  refine (CL1.out _ (Later.refl _)).mono ?_
  rintro e w2 ⟨rfl, hl2⟩
  have L2 := hide hl2
  have X2 := hide ((Below.block hl2 x (lt_of_block X1.out)).trans X1.out)
  have Y2 := hide ((Below.block hl2 y (lt_of_block Y1.out)).trans Y1.out)
  clear hl2
  cases q1 with
  | true =>
    go_wp2_with (fail)
    refine (CLV.out _ L2.out).mono ?_
    rintro e w3 ⟨rfl, hl3⟩
    have L3 := hide (L1.out.trans (L2.out.trans hl3))
    clear hl3
    go_wp2_with (fail)
    go_ret
    exact ⟨rfl, L3.out⟩
  | false =>
    go_wp2_with (refine wpList_val rfl (by rfl) (exec_load_box 25 _ (by rfl) y 0 (by rfl) 25 _ Y2.out 2 _ Tryd.underlying25 (by rfl) (by kernel_rfl) [.string a2, .slice A2 n2 c2] (by rfl) (by rfl)) ?_)
    refine (CL2.out _ L2.out).mono ?_
    rintro e w3 ⟨rfl, hl3⟩
    have L3 := hide (L2.out.trans hl3)
    have X3 := hide ((Below.block hl3 x (lt_of_block X2.out)).trans X2.out)
    have Y3 := hide ((Below.block hl3 y (lt_of_block Y2.out)).trans Y2.out)
    clear hl3 X2 Y2
    cases q2 with
    | true =>
      go_wp2_with (fail)
      refine (CLV.out _ L3.out).mono ?_
      rintro e w4 ⟨rfl, hl4⟩
      have L4 := hide (L1.out.trans (L3.out.trans hl4))
      clear hl4
      go_wp2_with (fail)
      go_ret
      exact ⟨rfl, L4.out⟩
    | false =>
      clear CL1 CL2
      have LS3 := hide (L3.out.trans (Later.drew w3))
      have XS3 := hide (show w3.drew.heap[x]? = some (.cells #[.string a1, .slice A n c] 25 (0, 0)) from X3.out)
      have YS3 := hide (show w3.drew.heap[y]? = some (.cells #[.string a2, .slice A2 n2 c2] 25 (0, 0)) from Y3.out)
      go_wp2_with (fail)
      refine wp_region_L (by kernel_rfl) ?_
      refine wpAnyL_take (i := 0) (d := some 12) (v := .agg #[.string a1, .slice A n c]) rfl rfl (by kernel_rfl) (by kernel_rfl) (by kernel_rfl) (fun _ _ _ h => h) (by rfl) ?yas0 ?_
      case yas0 => (intro w' hw'; exact exec_load_box 25 _ (by rfl) x 0 (by rfl) 25 _ ((Below.block hw' x (lt_of_block XS3.out)).trans XS3.out) 2 _ Tryd.underlying25 (by rfl) (by kernel_rfl) [.string a1, .slice A n c] (by rfl) (by rfl))
      simp only [Act.put]; try simp only [List.setIfInBounds_toArray]; try simp only [List.set_cons_zero, List.set_cons_succ]
      refine wpAnyL_take (i := 1) (d := some 13) (v := .agg #[.string a2, .slice A2 n2 c2]) rfl rfl (by kernel_rfl) (by kernel_rfl) (by kernel_rfl) (fun _ _ _ h => h) (by rfl) ?yas1 ?_
      case yas1 => (intro w' hw'; exact exec_load_box 25 _ (by rfl) y 0 (by rfl) 25 _ ((Below.block hw' y (lt_of_block YS3.out)).trans YS3.out) 2 _ Tryd.underlying25 (by rfl) (by kernel_rfl) [.string a2, .slice A2 n2 c2] (by rfl) (by rfl))
      simp only [Act.put]; try simp only [List.setIfInBounds_toArray]; try simp only [List.set_cons_zero, List.set_cons_succ]
      refine wpAnyL_take (i := 3) (d := some 15) (v := .agg #[.string a1, .slice A n c]) rfl rfl (by kernel_rfl) (by kernel_rfl) (by kernel_rfl) (fun _ _ _ h => h) (by rfl) ?yas3 ?_
      case yas3 => (intro w' hw'; exact exec_load_box 25 _ (by rfl) x 0 (by rfl) 25 _ ((Below.block hw' x (lt_of_block XS3.out)).trans XS3.out) 2 _ Tryd.underlying25 (by rfl) (by kernel_rfl) [.string a1, .slice A n c] (by rfl) (by rfl))
      simp only [Act.put]; try simp only [List.setIfInBounds_toArray]; try simp only [List.set_cons_zero, List.set_cons_succ]
      refine wpAnyL_take (i := 4) (d := some 16) (v := .agg #[.string a2, .slice A2 n2 c2]) rfl rfl (by kernel_rfl) (by kernel_rfl) (by kernel_rfl) (fun _ _ _ h => h) (by rfl) ?yas4 ?_
      case yas4 => (intro w' hw'; exact exec_load_box 25 _ (by rfl) y 0 (by rfl) 25 _ ((Below.block hw' y (lt_of_block YS3.out)).trans YS3.out) 2 _ Tryd.underlying25 (by rfl) (by kernel_rfl) [.string a2, .slice A2 n2 c2] (by rfl) (by rfl))
      simp only [Act.put]; try simp only [List.setIfInBounds_toArray]; try simp only [List.set_cons_zero, List.set_cons_succ]
      refine wpAnyL_only (i := 2) rfl (by kernel_rfl) (by rfl) fun K hK => ?_
      go_simp
      refine (CS.out _ LS3.out).mono ?_
      rintro e w_2 ⟨rfl, hl_⟩
      have LS2 := hide (LS3.out.trans hl_)
      have XS2 := hide ((Below.block hl_ x (lt_of_block XS3.out)).trans XS3.out)
      have YS2 := hide ((Below.block hl_ y (lt_of_block YS3.out)).trans YS3.out)
      refine hK.out _ _ hl_ ?_
      clear hl_
      clear hK K
      try (simp only [Act.put]; try simp only [List.setIfInBounds_toArray]; try simp only [List.set_cons_zero, List.set_cons_succ])
      refine wpAnyL_only (i := 5) rfl (by kernel_rfl) (by rfl) fun K hK => ?_
      go_simp
      refine (CR.out _ LS2.out).mono ?_
      rintro e w_5 ⟨rfl, hl_⟩
      have LS5 := hide (LS2.out.trans hl_)
      have XS5 := hide ((Below.block hl_ x (lt_of_block XS2.out)).trans XS2.out)
      have YS5 := hide ((Below.block hl_ y (lt_of_block YS2.out)).trans YS2.out)
      refine hK.out _ _ hl_ ?_
      clear hl_
      clear hK K
      try (simp only [Act.put]; try simp only [List.setIfInBounds_toArray]; try simp only [List.set_cons_zero, List.set_cons_succ])
      refine wpAnyL_take (i := 6) (d := some 18) (v := ?vas6) rfl rfl (by kernel_rfl) (by kernel_rfl) (by kernel_rfl) (fun _ _ _ h => h) (by rfl) ?yas6 ?_
      case yas6 => (intro w' hw'; go_simp; try (with_reducible rfl))
      simp only [Act.put]; try simp only [List.setIfInBounds_toArray]; try simp only [List.set_cons_zero, List.set_cons_succ]
      refine wpAnyL_take (i := 7) (d := some 19) (v := ?vas7) rfl rfl (by kernel_rfl) (by kernel_rfl) (by kernel_rfl) (fun _ _ _ h => h) (by rfl) ?yas7 ?_
      case yas7 => (intro w' hw'; go_simp; try (with_reducible rfl))
      simp only [Act.put]; try simp only [List.setIfInBounds_toArray]; try simp only [List.set_cons_zero, List.set_cons_succ]
      refine wpAnyL_take (i := 8) (d := some 20) (v := .agg #[.string a1, .slice A n c]) rfl rfl (by kernel_rfl) (by kernel_rfl) (by kernel_rfl) (fun _ _ _ h => h) (by rfl) ?yas8 ?_
      case yas8 => (intro w' hw'; exact exec_load_box 25 _ (by rfl) x 0 (by rfl) 25 _ ((Below.block hw' x (lt_of_block XS5.out)).trans XS5.out) 2 _ Tryd.underlying25 (by rfl) (by kernel_rfl) [.string a1, .slice A n c] (by rfl) (by rfl))
      simp only [Act.put]; try simp only [List.setIfInBounds_toArray]; try simp only [List.set_cons_zero, List.set_cons_succ]
      refine wpAnyL_take (i := 9) (d := some 21) (v := .agg #[.string a1, .slice A n c]) rfl rfl (by kernel_rfl) (by kernel_rfl) (by kernel_rfl) (fun _ _ _ h => h) (by rfl) ?yas9 ?_
      case yas9 => (intro w' hw'; exact exec_load_box 25 _ (by rfl) x 0 (by rfl) 25 _ ((Below.block hw' x (lt_of_block XS5.out)).trans XS5.out) 2 _ Tryd.underlying25 (by rfl) (by kernel_rfl) [.string a1, .slice A n c] (by rfl) (by rfl))
      simp only [Act.put]; try simp only [List.setIfInBounds_toArray]; try simp only [List.set_cons_zero, List.set_cons_succ]
      refine wpAnyL_only (i := 10) rfl (by kernel_rfl) (by rfl) fun K hK => ?_
      go_simp
      refine (CSS.out _ LS5.out).mono ?_
      rintro e w_10 ⟨rfl, hl_⟩
      have LS10 := hide (LS5.out.trans hl_)
      have XS10 := hide ((Below.block hl_ x (lt_of_block XS5.out)).trans XS5.out)
      have YS10 := hide ((Below.block hl_ y (lt_of_block YS5.out)).trans YS5.out)
      refine hK.out _ _ hl_ ?_
      clear hl_
      clear hK K
      try (simp only [Act.put]; try simp only [List.setIfInBounds_toArray]; try simp only [List.set_cons_zero, List.set_cons_succ])
      refine wpAnyL_take (i := 11) (d := some 23) (v := ?vas11) rfl rfl (by kernel_rfl) (by kernel_rfl) (by kernel_rfl) (fun _ _ _ h => h) (by rfl) ?yas11 ?_
      case yas11 => (intro w' hw'; go_simp; try (with_reducible rfl))
      simp only [Act.put]; try simp only [List.setIfInBounds_toArray]; try simp only [List.set_cons_zero, List.set_cons_succ]
      refine wpAnyL_take (i := 12) (d := some 24) (v := ?vas12) rfl rfl (by kernel_rfl) (by kernel_rfl) (by kernel_rfl) (fun _ _ _ h => h) (by rfl) ?yas12 ?_
      case yas12 => (intro w' hw'; go_simp; try (with_reducible rfl))
      simp only [Act.put]; try simp only [List.setIfInBounds_toArray]; try simp only [List.set_cons_zero, List.set_cons_succ]
      refine wpAnyL_take (i := 13) (d := some 25) (v := .agg #[.string a1, .slice A n c]) rfl rfl (by kernel_rfl) (by kernel_rfl) (by kernel_rfl) (fun _ _ _ h => h) (by rfl) ?yas13 ?_
      case yas13 => (intro w' hw'; exact exec_load_box 25 _ (by rfl) x 0 (by rfl) 25 _ ((Below.block hw' x (lt_of_block XS10.out)).trans XS10.out) 2 _ Tryd.underlying25 (by rfl) (by kernel_rfl) [.string a1, .slice A n c] (by rfl) (by rfl))
      simp only [Act.put]; try simp only [List.setIfInBounds_toArray]; try simp only [List.set_cons_zero, List.set_cons_succ]
      refine wpAnyL_take (i := 14) (d := some 26) (v := .agg #[.string a2, .slice A2 n2 c2]) rfl rfl (by kernel_rfl) (by kernel_rfl) (by kernel_rfl) (fun _ _ _ h => h) (by rfl) ?yas14 ?_
      case yas14 => (intro w' hw'; exact exec_load_box 25 _ (by rfl) y 0 (by rfl) 25 _ ((Below.block hw' y (lt_of_block YS10.out)).trans YS10.out) 2 _ Tryd.underlying25 (by rfl) (by kernel_rfl) [.string a2, .slice A2 n2 c2] (by rfl) (by rfl))
      simp only [Act.put]; try simp only [List.setIfInBounds_toArray]; try simp only [List.set_cons_zero, List.set_cons_succ]
      refine wpAnyL_take (i := 16) (d := some 28) (v := .agg #[.string a2, .slice A2 n2 c2]) rfl rfl (by kernel_rfl) (by kernel_rfl) (by kernel_rfl) (fun _ _ _ h => h) (by rfl) ?yas16 ?_
      case yas16 => (intro w' hw'; exact exec_load_box 25 _ (by rfl) y 0 (by rfl) 25 _ ((Below.block hw' y (lt_of_block YS10.out)).trans YS10.out) 2 _ Tryd.underlying25 (by rfl) (by kernel_rfl) [.string a2, .slice A2 n2 c2] (by rfl) (by rfl))
      simp only [Act.put]; try simp only [List.setIfInBounds_toArray]; try simp only [List.set_cons_zero, List.set_cons_succ]
      refine wpAnyL_take (i := 17) (d := some 29) (v := .agg #[.string a1, .slice A n c]) rfl rfl (by kernel_rfl) (by kernel_rfl) (by kernel_rfl) (fun _ _ _ h => h) (by rfl) ?yas17 ?_
      case yas17 => (intro w' hw'; exact exec_load_box 25 _ (by rfl) x 0 (by rfl) 25 _ ((Below.block hw' x (lt_of_block XS10.out)).trans XS10.out) 2 _ Tryd.underlying25 (by rfl) (by kernel_rfl) [.string a1, .slice A n c] (by rfl) (by rfl))
      simp only [Act.put]; try simp only [List.setIfInBounds_toArray]; try simp only [List.set_cons_zero, List.set_cons_succ]
      refine wpAnyL_only (i := 15) rfl (by kernel_rfl) (by rfl) fun K hK => ?_
      go_simp
      refine (CS.out _ LS10.out).mono ?_
      rintro e w_15 ⟨rfl, hl_⟩
      have LS15 := hide (LS10.out.trans hl_)
      have XS15 := hide ((Below.block hl_ x (lt_of_block XS10.out)).trans XS10.out)
      have YS15 := hide ((Below.block hl_ y (lt_of_block YS10.out)).trans YS10.out)
      refine hK.out _ _ hl_ ?_
      clear hl_
      clear hK K
      try (simp only [Act.put]; try simp only [List.setIfInBounds_toArray]; try simp only [List.set_cons_zero, List.set_cons_succ])
      refine wpAnyL_only (i := 18) rfl (by kernel_rfl) (by rfl) fun K hK => ?_
      go_simp
      refine (CS2.out _ LS15.out).mono ?_
      rintro e w_18 ⟨rfl, hl_⟩
      have LS18 := hide (LS15.out.trans hl_)
      have XS18 := hide ((Below.block hl_ x (lt_of_block XS15.out)).trans XS15.out)
      have YS18 := hide ((Below.block hl_ y (lt_of_block YS15.out)).trans YS15.out)
      refine hK.out _ _ hl_ ?_
      clear hl_
      clear hK K
      try (simp only [Act.put]; try simp only [List.setIfInBounds_toArray]; try simp only [List.set_cons_zero, List.set_cons_succ])
      refine wpAnyL_take (i := 19) (d := some 31) (v := ?vas19) rfl rfl (by kernel_rfl) (by kernel_rfl) (by kernel_rfl) (fun _ _ _ h => h) (by rfl) ?yas19 ?_
      case yas19 => (intro w' hw'; go_simp; try (with_reducible rfl))
      simp only [Act.put]; try simp only [List.setIfInBounds_toArray]; try simp only [List.set_cons_zero, List.set_cons_succ]
      refine wpAnyL_take (i := 20) (d := some 32) (v := ?vas20) rfl rfl (by kernel_rfl) (by kernel_rfl) (by kernel_rfl) (fun _ _ _ h => h) (by rfl) ?yas20 ?_
      case yas20 => (intro w' hw'; go_simp; try (with_reducible rfl))
      simp only [Act.put]; try simp only [List.setIfInBounds_toArray]; try simp only [List.set_cons_zero, List.set_cons_succ]
      refine wpAnyL_take (i := 21) (d := some 33) (v := ?vas21) rfl rfl (by kernel_rfl) (by kernel_rfl) (by kernel_rfl) (fun _ _ _ h => h) (by rfl) ?yas21 ?_
      case yas21 => (intro w' hw'; go_simp; try (with_reducible rfl))
      simp only [Act.put]; try simp only [List.setIfInBounds_toArray]; try simp only [List.set_cons_zero, List.set_cons_succ]
      refine wpAnyL_only (i := 22) rfl (by kernel_rfl) (by rfl) fun K hK => ?_
      go_simp
      refine (CLV.out _ LS18.out).mono ?_
      rintro e w_22 ⟨rfl, hl_⟩
      have LS22 := hide (LS18.out.trans hl_)
      have XS22 := hide ((Below.block hl_ x (lt_of_block XS18.out)).trans XS18.out)
      have YS22 := hide ((Below.block hl_ y (lt_of_block YS18.out)).trans YS18.out)
      refine hK.out _ _ hl_ ?_
      clear hl_
      clear hK K
      try (simp only [Act.put]; try simp only [List.setIfInBounds_toArray]; try simp only [List.set_cons_zero, List.set_cons_succ])
      refine wpAnyL_take (i := 23) (d := some 35) (v := ?vas23) rfl rfl (by kernel_rfl) (by kernel_rfl) (by kernel_rfl) (fun _ _ _ h => h) (by rfl) ?yas23 ?_
      case yas23 => (intro w' hw'; go_simp; try (with_reducible rfl))
      simp only [Act.put]; try simp only [List.setIfInBounds_toArray]; try simp only [List.set_cons_zero, List.set_cons_succ]
      refine wpAnyL_take (i := 24) (d := some 4) (v := ?vas24) rfl rfl (by kernel_rfl) (by kernel_rfl) (by kernel_rfl) (fun _ _ _ h => h) (by rfl) ?yas24 ?_
      case yas24 => (intro w' hw'; go_simp; try (with_reducible rfl))
      simp only [Act.put]; try simp only [List.setIfInBounds_toArray]; try simp only [List.set_cons_zero, List.set_cons_succ]
      refine wpAnyL_done (by kernel_rfl) ?_ _
      go_wp2_with (fail)
      go_ret
      exact ⟨ret_bool (by cases q <;> rfl), L1.out.trans LS22.out⟩
end
end Go.Proofs.YtdahnjcoflifbaaDoor
/- DefSames, as the claim asks it. -/
namespace Go.Proofs.YtdahnjcoflifbaaDoor
open Go.RowKit
theorem law_samesW (nm1 : ByteArray) (v1 : Value) (l1 : List StepD) (nm2 : ByteArray) (v2 : Value) (l2 : List StepD) (w : World) (h1 : StepsAt (· < w.heap.size) w v1 l1) (_ : nm1.size ≤ 140737488355328) (_ : ∀ s ∈ l1, s.wf)
    (h2 : StepsAt (· < w.heap.size) w v2 l2) (_ : nm2.size ≤ 140737488355328) (_ : ∀ s ∈ l2, s.wf) (ho : OptAt w) :
    Calls Tryd.prog 6 #[.agg #[.string nm1, v1], .agg #[.string nm2, v2]] w fun e w' => e = .returned (.bool true) ∧ Later w w' := by
  have b1 : l1.length ≤ 9223372036854775807 := by obtain ⟨A, c, _, a, b, _⟩ := FlatAt.shape h1; unfold maxLen at b; omega
  have b2 : l2.length ≤ 9223372036854775807 := by obtain ⟨A, c, _, a, b, _⟩ := FlatAt.shape h2; unfold maxLen at b; omega
  exact law_sames h1 h2 b1 b2 ho
end Go.Proofs.YtdahnjcoflifbaaDoor
namespace Go.Proofs.YtdahnjcoflifbaaDoor
open Go.ChangeShapes Go.WideShapes Go.ChangeAt Go.RowKit

theorem defSames_lawKnobs : ownKnob Tryd.prog.godebug = none := by kernel_rfl
theorem defSames_allLaid : laidOutB Tryd.prog = true := by kernel_rfl

set_option maxRecDepth 100000 in
set_option maxHeartbeats 1000000 in
theorem defSames_lifted (os : Os) (started : os.Started) (H : Type) (enc : TypeId × Value → H) :
    ReturnsInHanded {} Tryd.checked os 6 .any (fun w args => (Rows.defSamesSpec.pre enc Tryd.prog Tryd.f6 Rows.defSamesRow.domain false w args ∧ laidMetH Tryd.prog Rows.defSamesRow.laid w) ∧ sizedMet enc Tryd.prog Tryd.f6 (OpenSpec.ofChange Rows.defSamesSpec) false w args)
      (Rows.defSamesSpec.post enc Tryd.prog Tryd.f6 false true false false) := by
  refine returnsInHanded_of_change_and (C := Tryd.checked) (X := fun w _ => laidMetH Tryd.prog Rows.defSamesRow.laid w) (fun _ _ _ hh h => h.of_heap hh) defSames_lawKnobs started (by kernel_rfl) Tryd.func6
    (ChangeSpec.witness_shaped (enc := enc) (C := Tryd.checked) (os := os) (X := fun w _ => laidMetH Tryd.prog Rows.defSamesRow.laid w) false (World.doorLaid Tryd.prog 400 os) #[.agg #[.string ⟨#[]⟩, .slice none 0 0], .agg #[.string ⟨#[]⟩, .slice none 0 0]] 8 rfl (World.shaped_of_RefB (by kernel_rfl) (by kernel_rfl)) (by kernel_rfl) (by kernel_rfl) (by kernel_rfl) (tab_start1 os _)) ?_
  intro W base args ds gs before hval0 hW hcnd hsz0 hL _
  have hTab := opt1 hL
  have hval : ∀ (j : Nat) t v, Tryd.f6.params[j]? = some t → args[j]? = some v → Value.okWide Tryd.prog W .any base t v := hval0
  have hW' := hW
  obtain ⟨p, q, hA0, hV, rfl, _, _⟩ := hW
  have hA : DataW.TrodAll enc Tryd.prog W 0 (fun _ => true) true Tryd.f6.params.toList args.toList ds p := hA0
  have hsz : (DataW.weightsEach Tryd.prog (Tryd.f6.params.toList ++ Rows.defSamesSpec.plain.varTypes Tryd.prog) (ds ++ gs)).all (· ≤ reachBytes) = true := hsz0
  rw [Tryd.params6] at hA hval hsz
  obtain ⟨v0, vs0, d0, ds0, p0, q0, hargs, rfl, rfl, h0, r0⟩ := trodAll_cons hA
  obtain ⟨v1, vs1, d1, ds1, p1, q1, rfl, rfl, rfl, h1, r1⟩ := trodAll_cons r0
  obtain ⟨rfl, rfl, rfl⟩ := trodAll_nil r1
  obtain rfl : args = #[v0, v1] := by cases args; simp_all
  obtain ⟨rfl, rfl⟩ := trodVars_none hV
  have k0 := h0
  have lt0 : ∀ x ∈ p0, x.block < W.heap.size := by obtain ⟨m, hm⟩ := k0; exact DataW.trod_lt m _ _ _ hm
  have s0 : Sm 25 d0 := sm_of hsz (j := 0) rfl rfl
  obtain ⟨cs0, rfl, _⟩ := okWide_struct Tryd.underlying25 (hval 0 25 v0 rfl rfl)
  obtain ⟨nm0, sv0, l0, rfl, hs0, hn0, wf0⟩ := arg_def h0 s0
  have k1 := h1
  have lt1 : ∀ x ∈ p1, x.block < W.heap.size := by obtain ⟨m, hm⟩ := k1; exact DataW.trod_lt m _ _ _ hm
  have s1 : Sm 25 d1 := sm_of hsz (j := 1) rfl rfl
  obtain ⟨cs1, rfl, _⟩ := okWide_struct Tryd.underlying25 (hval 1 25 v1 rfl rfl)
  obtain ⟨nm1, sv1, l1, rfl, hs1, hn1, wf1⟩ := arg_def h1 s1
  clear hA0 hval0 hL
  refine (law_samesW nm0 sv0 l0 nm1 sv1 l1 W hs0 hn0 wf0 hs1 hn1 wf1 hTab).mono fun e W' ⟨he, bel0⟩ => ?_
  have bel : Below W.heap.size W W' := bel0
  subst he
  exact ⟨_, rfl, _, _, _, [], _, [], hW', trodAll_mk1 (shut_bool Tryd.underlying4 _), (trodAll_cons_mk (Below.trod defSames_allLaid (by kernel_rfl) (of_decide_eq_true (by kernel_rfl)) k0 bel lt0) (trodAll_cons_mk (Below.trod defSames_allLaid (by kernel_rfl) (of_decide_eq_true (by kernel_rfl)) k1 bel lt1) trodAll_mk0)), rfl, bel.frame _, fun h => by cases h⟩

theorem defSames_over : Rows.defSamesRow.holds Tryd.pinned (OpenSpec.ofChange Rows.defSamesSpec) :=
  OpenClaim.holds_of_wide 6 Tryd.f6 rfl rfl rfl rfl rfl rfl rfl ⟨rfl, rfl, rfl, rfl, rfl⟩ rfl rfl rfl rfl rfl (by kernel_rfl) Tryd.func6 (by kernel_rfl)
    (of_decide_eq_true (by kernel_rfl)) (by unfold Func.isWrapper; first | (rw [if_pos (by decide +kernel)]; kernel_rfl) | (rw [if_neg (by decide +kernel)]; exact ⟨rfl, rfl⟩))
    (fun os started H enc _ => defSames_lifted os started H enc)

theorem defSames_card : Rows.DefSamesCardSaid :=
  Claim7.holds_tied_plain_at .later [] _ true _ false defSames_over (fun _ h => by cases h) (by kernel_rfl) (fun _ h => by cases h) defSames_row_tie rfl ⟨rfl, rfl⟩ (by kernel_rfl) rfl
    (fun f fn hf hfn => by
      obtain rfl : f = 6 := Option.some.inj ((show Tryd.prog.funcNamed "drover/droverlaw13.DefSames" = some 6 by kernel_rfl).symm.trans hf) |>.symm
      obtain rfl : fn = Tryd.f6 := (Option.some.inj (Tryd.func6.symm.trans hfn)).symm
      exact ⟨by kernel_rfl, fun j t ht => by
        rw [Tryd.params6] at ht
        have hm : t ∈ [25, 25] := by simpa using Array.mem_of_getElem? ht
        have hall : ([25, 25].all fun u => !Tryd.prog.wantsStandIn u) = true := by kernel_rfl
        exact (show Tryd.prog.wantsStandIn t = false by simpa using List.all_eq_true.1 hall t hm)⟩)
    (by kernel_rfl)
#print axioms defSames_card
end Go.Proofs.YtdahnjcoflifbaaDoor
