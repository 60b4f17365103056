/- The document's examples of package vr: the walk over droverlaw10.lives. -/
import Derived.Test.YtflphpjfmbkeiaaReach
import Derived.Test.YtflphpjfmbkeiaaMerge
import Derived.Test.YtflphpjfmbkeiaaLeads
import Derived.Test.YtflphpjfmbkeiaaRefInts
namespace Go.Proofs.Ytflphpjfmbkeiaa
open Go.RowKit

theorem fit_of {l : List Int} (h : ∀ x ∈ l, 0 ≤ x ∧ x ≤ 1000) : Fit l := fun x hx => by have := h x hx; omega

set_option maxHeartbeats 2000000 in
theorem lives_any (w : World) : Calls Try.prog 9 #[] w fun e w' => e = .returned (.bool true) ∧ Later w w' := by
  have L0 : Hid (Later w (w.alloc (.cells #[.int .i64 5, .int .i64 3, .int .i64 4] 3 (0, 0)))) := (Below.refl _ _).alloc (Nat.le_refl _) _
  have H0 : SlI (w.heap.size ≤ ·) (w.alloc (.cells #[.int .i64 5, .int .i64 3, .int .i64 4] 3 (0, 0))) (.slice (some ⟨w.heap.size, 0, none⟩) 3 3) [5, 3, 4] := sli_lit w 3 [5, 3, 4] (fit_of (by decide)) (by decide) (by decide)
  have C0 := hide (reached_any H0 (by decide) 5 3)
  rw [reach_ex] at C0
  clear H0
  go_enter Try.func9, Try.ntmps9
  go_wp2_with (fail)
  refine C0.out.mono ?_
  rintro e w1 ⟨rfl, hb⟩
  have L1 : Hid (Later w w1) := L0.out.trans hb
  have LA : Hid (Later w1 ((w1.alloc (.cells #[.int .i64 1, .int .i64 2] 3 (0, 0))).alloc (.cells #[.int .i64 3] 3 (0, 0)))) := ((Below.refl _ _).alloc (Nat.le_refl _) _).alloc (by simp) _
  have HA : SlI (w1.heap.size ≤ ·) ((w1.alloc (.cells #[.int .i64 1, .int .i64 2] 3 (0, 0))).alloc (.cells #[.int .i64 3] 3 (0, 0))) (.slice (some ⟨w1.heap.size, 0, none⟩) 2 2) [1, 2] :=
    SlI.kept (sli_lit w1 3 [1, 2] (fit_of (by decide)) (by decide) (by decide)) (Kept.of_below (Below.alloc (Below.refl _ _) (Nat.le_refl _) _) _)
  have HB : SlI ((w1.alloc (.cells #[.int .i64 1, .int .i64 2] 3 (0, 0))).heap.size ≤ ·) ((w1.alloc (.cells #[.int .i64 1, .int .i64 2] 3 (0, 0))).alloc (.cells #[.int .i64 3] 3 (0, 0))) (.slice (some ⟨(w1.alloc (.cells #[.int .i64 1, .int .i64 2] 3 (0, 0))).heap.size, 0, none⟩) 1 1) [3] :=
    sli_lit (w1.alloc (.cells #[.int .i64 1, .int .i64 2] 3 (0, 0))) 3 [3] (fit_of (by decide)) (by decide) (by decide)
  rw [World.size_alloc] at HB
  have C1 := hide (merge_any HA HB (by decide))
  rw [show mergeL [1, 2] [3] = [3, 2] from by decide] at C1
  clear HA HB hb C0 L0
  go_wp2_with (fail)
  refine C1.out.mono ?_
  rintro e w2 ⟨A, n, c, rfl, _, hh, _, hb⟩
  have L2 : Hid (Later w w2) := (L1.out.trans LA.out).trans hb
  obtain rfl : n = 2 := hh.1.symm
  have hl : Later w2 (w2.alloc (.cells #[.int .i64 3, .int .i64 2] 3 (0, 0))) := (Below.refl _ _).alloc (Nat.le_refl _) _
  have H2 : SlI (w2.heap.size ≤ ·) (w2.alloc (.cells #[.int .i64 3, .int .i64 2] 3 (0, 0))) (.slice (some ⟨w2.heap.size, 0, none⟩) 2 2) [3, 2] := sli_lit w2 3 [3, 2] (fit_of (by decide)) (by decide) (by decide)
  have C2 := hide (refints_any A (some ⟨w2.heap.size, 0, none⟩) 2 c 2 2 _ _ [3, 2] [3, 2] _ (hh.below hl) H2.holds (by decide) (by decide))
  rw [eqI_self] at C2
  have LL := hide hl
  clear hh hb H2 hl C1 L1 LA
  go_wp2_with (fail)
  refine C2.out.mono ?_
  rintro e w3 ⟨rfl, q, hq⟩
  have L3 : Hid (Later w w3) := by rw [hq]; exact (L2.out.trans LL.out).trans (below_drewN _ _ _)
  clear hq C2
  have C3 := hide (leads_any 2 3 1 4 0 w3)
  rw [show leadsB 2 3 1 4 = true from by decide] at C3
  go_wp2_with (fail)
  refine C3.out.mono ?_
  rintro e w4 ⟨rfl, hb⟩
  go_wp2
  go_ret
  exact ⟨rfl, L3.out.trans hb⟩
end Go.Proofs.Ytflphpjfmbkeiaa
