/- The walk over droverlaw08.ViewNone: votes that no call made are none. -/
import Derived.Test.YtnmkndnaomgmhaaVotM
namespace Go.Proofs.Ytnmkndnaomgmhaa
open Go.RowKit

theorem index_0 (p q : Value) (w : World) : (Instr.index 61 (.agg #[p, q]) (.int .i64 0)).run Try.prog w = .ok p w := by kernel_rfl
theorem index_1 (p q : Value) (w : World) : (Instr.index 61 (.agg #[p, q]) (.int .i64 1)).run Try.prog w = .ok q w := by kernel_rfl
theorem hasB_none (x : Int) : hasB 0 0 x = false := rfl
theorem addB_none (x : Int) : addB 0 0 x = false := rfl

set_option maxHeartbeats 2000000 in
theorem law_none (x : Int) (w : World) (_ : -9223372036854775808 ≤ x) (_ : x < 9223372036854775808) : Calls Try.prog 8 #[.int .i64 x] w fun e w' => e = .returned (.bool true) ∧ Below w.heap.size w w' := by
  have L := hide lives_any
  have i0 := index_0 (.pointer none) (.pointer (some ⟨w.heap.size, 0, none⟩))
  have i1 := index_1 (.pointer none) (.pointer (some ⟨w.heap.size, 0, none⟩))
  go_enter Try.func8, Try.ntmps8
  go_wp2
  obtain ⟨w1, hw1⟩ : ∃ w1, w1 = w.alloc (.cells #[.int .i64 0, .int .u64 0] 60 (0, 0)) := ⟨_, rfl⟩
  have L1 : Hid (Below w.heap.size w w1) := by
    rw [hw1]
    exact (Below.refl _ _).alloc (Nat.le_refl _) _
  have N1 : Hid (VAt w1 (.pointer (some ⟨w.heap.size, 0, none⟩)) 0 0) := .inr ⟨_, rfl, by rw [hw1]; exact heap_alloc_new _ _⟩
  have N0 : Hid (VAt w1 (.pointer none) 0 0) := .inl ⟨rfl, rfl, rfl⟩
  rw [← hw1]
  clear hw1
  go_loopw [7] (fun v wr => ∃ k : Nat, v = .int .i64 (k : Int) ∧ k ≤ 2 ∧ ∃ q, wr = w1.drewN q) (fun v _ => 2 - (Go.RowKit.intOf v).toNat)
  case atStart => exact ⟨0, rfl, by omega, 0, rfl⟩
  case round =>
    obtain ⟨k, rfl, hk, q, rfl⟩ := hrel
    have hk3 : k = 0 ∨ k = 1 ∨ k = 2 := by omega
    clear hk
    rcases hk3 with rfl | rfl | rfl
    · have N := hide (N0.out.drewN q)
      go_wp2_with (fail)
      refine (clear_no N.out rfl).mono ?_
      rintro e w2 ⟨rfl, rfl⟩
      go_wp2_with (fail)
      refine (add_no N.out (by decide) (addB_none x)).mono ?_
      rintro e w2 ⟨rfl, q2, rfl⟩
      go_wp2_with (fail)
      refine (has_any (N0.out.drewN _) (by decide) x).mono ?_
      rintro e w2 ⟨rfl, q3, rfl⟩
      go_wp2_with (fail)
      refine (enough_any (N0.out.drewN _) (by decide)).mono ?_
      rw [show enB 0 0 = false from rfl]
      rintro e w2 ⟨rfl, q4, rfl⟩
      go_wp2_with (fail)
      refine (count_any (N0.out.drewN _) (by decide)).mono ?_
      rw [show cntN 0 0 = 0 from rfl]
      rintro e w2 ⟨rfl, rfl⟩
      go_wp2_with (fail)
      refine (nodes_no (N0.out.drewN _) rfl).mono ?_
      rintro e w2 ⟨rfl, rfl⟩
      go_wp2
      go_roundw
      case rel => exact ⟨1, rfl, by omega, _, rfl⟩
      case measure => simp [Go.RowKit.intOf]
    · have N := hide (N1.out.drewN q)
      go_wp2_with (fail)
      refine (clear_no N.out rfl).mono ?_
      rintro e w2 ⟨rfl, rfl⟩
      go_wp2_with (fail)
      refine (add_no N.out (by decide) (addB_none x)).mono ?_
      rintro e w2 ⟨rfl, q2, rfl⟩
      go_wp2_with (fail)
      refine (has_any (N1.out.drewN _) (by decide) x).mono ?_
      rintro e w2 ⟨rfl, q3, rfl⟩
      go_wp2_with (fail)
      refine (enough_any (N1.out.drewN _) (by decide)).mono ?_
      rw [show enB 0 0 = false from rfl]
      rintro e w2 ⟨rfl, q4, rfl⟩
      go_wp2_with (fail)
      refine (count_any (N1.out.drewN _) (by decide)).mono ?_
      rw [show cntN 0 0 = 0 from rfl]
      rintro e w2 ⟨rfl, rfl⟩
      go_wp2_with (fail)
      refine (nodes_no (N1.out.drewN _) rfl).mono ?_
      rintro e w2 ⟨rfl, rfl⟩
      go_wp2
      go_roundw
      case rel => exact ⟨2, rfl, by omega, _, rfl⟩
      case measure => simp [Go.RowKit.intOf]
    · go_wp2_with (fail)
      refine (L.out _).mono ?_
      rintro e w2 ⟨rfl, hq⟩
      obtain rfl := hq.symm
      go_wp2
      go_ret
      exact ⟨rfl, L1.out.trans (below_drewN _ _ _)⟩
end Go.Proofs.Ytnmkndnaomgmhaa
