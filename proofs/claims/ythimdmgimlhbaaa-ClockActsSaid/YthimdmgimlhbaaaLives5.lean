/- The document's examples of clock. -/
import Derived.Test.YthimdmgimlhbaaaClk
namespace Go.Proofs.Ythimdmgimlhbaaa
open Go.RowKit Go.Maps

theorem lives_first : namesT (dueT (insT (0 + 1, 2) (delT (insT (0 + 2, 1) (delT [] 1)) 2)) (0 + 1)) = [2] := by decide +kernel
theorem lives_second : namesT (dueT (restT (insT (0 + 1, 2) (delT (insT (0 + 2, 1) (delT [] 1)) 2)) (0 + 1)) (0 + 1 + 1)) = [1] := by decide +kernel
theorem lives_time : ∀ p ∈ insT (0 + 1, 2) (delT (insT (0 + 2, 1) (delT [] 1)) 2), (0 : Int) < p.1 := by decide +kernel
set_option maxHeartbeats 1000000 in
set_option maxRecDepth 100000 in
theorem lives_any (w : World) : Calls Try.prog 9 #[] w fun e w' => e = .returned (.bool true) ∧ Below w.heap.size w w' := by
  have C := hide (clk_new w)
  go_enter Try.func9, Try.ntmps9
  go_wp2_with (fail)
  refine C.out.mono ?_
  rintro e w1 ⟨c, S1, rfl, hb1, h1⟩
  have HB1 := hide hb1
  have C1 := hide (clk_set 1 2 h1 (by decide) (by decide) (by decide) (by decide) (.inr (by decide)) (by decide))
  have H1 := hide h1
  clear hb1 h1 C
  go_wp2_with (fail)
  refine C1.out.mono ?_
  rintro e w2 ⟨S2, rfl, h2, t2, _⟩
  have HB2 := hide (HB1.out.trans (H1.out.below t2))
  have C2 := hide (clk_set 2 1 h2 (by decide) (by decide) (by decide) (by decide) (.inr (by decide)) (by decide))
  have H2 := hide h2
  clear h2 t2 C1 H1
  go_wp2_with (fail)
  refine C2.out.mono ?_
  rintro e w3 ⟨S3, rfl, h3, t3, _⟩
  have HB3 := hide (HB2.out.trans (H2.out.below t3))
  have C3 := hide (clk_tick h3 lives_time (by decide))
  have H3 := hide h3
  clear h3 t3 C2 H2
  go_wp2_with (fail)
  refine C3.out.mono ?_
  rintro e w4 ⟨A4, n4, c4, rfl, o4, i4, k4, h4, t4⟩
  have HB4 := hide (HB3.out.trans (H3.out.below t4))
  have C4 := hide (clk_tick h4 rest_later (by decide))
  have H4 := hide h4
  have O4 := hide o4
  rw [lives_first] at o4 i4
  have hn4 : n4 = 1 := i4.1.symm
  subst hn4
  have HS3 : Hid (∀ i, S3 i → i < w3.heap.size) := fun i hi => (H3.out.1 i hi).2
  clear h4 t4 C3 H3 o4 i4
  go_wp2_with (fail)
  refine C4.out.mono ?_
  rintro e w5 ⟨A5, n5, c5, rfl, o5, i5, k5, h5, t5⟩
  rw [lives_second] at o5 i5
  have HB5 := hide (HB4.out.trans (H4.out.below t5))
  have C5 := hide (fun w' (hb : Below w5.heap.size w5 w') => clk_now (h5.later hb))
  have HI4 : Hid (IHolds w5 w5.heap.size A4 1 [2]) := by
    have h1 := own_apart O4.out t5 (fun q e hs => by
      have h1 := O4.out.lt q e
      have h2 := HS3.out q hs
      omega)
    have h2 : Fit [2] := by unfold Fit; decide
    obtain ⟨A, c', hv, _, _, hh⟩ := IHolds.of_own (l := [2]) h1 h2
    injection hv with e1 _ e3
    subst e1
    exact hh
  have hn5 : n5 = 1 := i5.1.symm
  subst hn5
  have HI5 : Hid (IHolds w5 w5.heap.size A5 1 [1]) := i5
  clear h5 t5 C4 H4 o5 i5 O4
  have C6 := hide (fun w' (hb : Below w5.heap.size w5 w') (g : Nat) (hi : IHolds w' w'.heap.size (some ⟨g, 0, none⟩) 1 [2]) => refints_any A4 (some ⟨g, 0, none⟩) 1 c4 1 1 w5.heap.size w'.heap.size [2] [2] w' (HI4.out.below hb) hi (by decide) (by decide))
  have C7 := hide (fun w' (hb : Below w5.heap.size w5 w') (g : Nat) (hi : IHolds w' w'.heap.size (some ⟨g, 0, none⟩) 1 [1]) => refints_any A5 (some ⟨g, 0, none⟩) 1 c5 1 1 w5.heap.size w'.heap.size [1] [1] w' (HI5.out.below hb) hi (by decide) (by decide))
  simp only [eqI_self] at C6 C7
  go_wp2_with (fail)
  refine (C6.out _ ((Below.refl _ _).alloc (Nat.le_refl _) _) _ ((ints_lit w5 _ 2 (by decide) (by decide)).more (by simp))).mono ?_
  rintro e w6 ⟨rfl, q6, rfl⟩
  go_wp2_with (fail)
  have L7 : Hid (Below w5.heap.size w5 (((w5.alloc (.cells #[.int .i64 2] 3 (0, 0))).alloc (.cells #[.int .i64 1] 3 (0, 0))).drewN q6)) := (((Below.refl _ _).alloc (Nat.le_refl _) _).alloc (by simp) _).trans (below_drewN _ _ _)
  have I7 : Hid (IHolds (((w5.alloc (.cells #[.int .i64 2] 3 (0, 0))).alloc (.cells #[.int .i64 1] 3 (0, 0))).drewN q6) (((w5.alloc (.cells #[.int .i64 2] 3 (0, 0))).alloc (.cells #[.int .i64 1] 3 (0, 0))).drewN q6).heap.size (some ⟨w5.heap.size + 1, 0, none⟩) 1 [1]) := by
    have h1 := ints_lit (w5.alloc (.cells #[.int .i64 2] 3 (0, 0))) 3 1 (by decide) (by decide)
    rw [show (w5.alloc (.cells #[.int .i64 2] 3 (0, 0))).heap.size = w5.heap.size + 1 from by simp] at h1
    exact (h1.drewN q6).more (by simp [World.drewN])
  refine (C7.out _ L7.out _ I7.out).mono ?_
  rintro e w7 ⟨rfl, q7, rfl⟩
  have L8 : Hid (∀ q, Below w5.heap.size w5 (((w5.alloc (.cells #[.int .i64 2] 3 (0, 0))).alloc (.cells #[.int .i64 1] 3 (0, 0))).drewN q)) := fun q => (((Below.refl _ _).alloc (Nat.le_refl _) _).alloc (by simp) _).trans (below_drewN _ _ _)
  go_wp2_with (fail)
  refine (C5.out _ (L8.out _)).mono ?_
  rintro e w8 ⟨rfl, rfl⟩
  go_wp2
  go_ret
  exact ⟨rfl, HB5.out.trans ((L8.out _).mono HB5.out.size)⟩
end Go.Proofs.Ythimdmgimlhbaaa
