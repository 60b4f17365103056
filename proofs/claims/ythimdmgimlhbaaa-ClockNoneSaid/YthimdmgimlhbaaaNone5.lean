/- The walk over droverlaw05.ClockNone: a clock that no call made has nothing. -/
import Derived.Test.YthimdmgimlhbaaaLives5
import Derived.Test.YthimdmgimlhbaaaAct
namespace Go.Proofs.Ythimdmgimlhbaaa
open Go.RowKit Go.Maps

theorem index_0 (p q : Value) (w : World) : (Instr.index 50 (.agg #[p, q]) (.int .i64 0)).run Try.prog w = .ok p w := by kernel_rfl
theorem index_1 (p q : Value) (w : World) : (Instr.index 50 (.agg #[p, q]) (.int .i64 1)).run Try.prog w = .ok q w := by kernel_rfl

set_option maxHeartbeats 4000000 in
set_option maxRecDepth 100000 in
theorem law_none (a : ActC) (w : World) (_ : a.wf) : Calls Try.prog 7 #[.agg a.cells.toArray] w fun e w' => e = .returned (.bool true) ∧ Below w.heap.size w w' := by
  obtain ⟨kd, nm, af⟩ := a
  unfold ActC.cells
  simp only
  go_enter Try.func7, Try.ntmps7
  go_wp2
  obtain ⟨w1, hw1⟩ : ∃ w1, w1 = (w.alloc (.cells #[.int .i64 kd, .int .i64 nm, .int .i64 af] 31 (0, 0))).alloc (.cells #[.pointer none] 49 (0, 0)) := ⟨_, rfl⟩
  have L1 : Hid (Below w.heap.size w w1) := by
    rw [hw1]
    exact ((Below.refl _ _).alloc (Nat.le_refl _) _).alloc (by simp) _
  have hx : w1.heap[w.heap.size]? = some (.cells #[.int .i64 kd, .int .i64 nm, .int .i64 af] 31 (0, 0)) := by
    rw [hw1]
    exact (heap_alloc_old _ _ (by simp)).trans (heap_alloc_new _ _)
  have hz : w1.heap[w.heap.size + 1]? = some (.cells #[.pointer none] 49 (0, 0)) := by
    rw [hw1]
    exact heap_at _ (by simp)
  have N0 : Hid (∀ n, NoClock (w1.drewN n) (.pointer none)) := fun n => .inl rfl
  have N1 : Hid (∀ n, NoClock (w1.drewN n) (.pointer (some ⟨w.heap.size + 1, 0, none⟩))) := fun n => .inr ⟨_, rfl, hz⟩
  have x1 := cell_of_row w1 w.heap.size 1 _ _ _ hx
  have x2 := cell_of_row w1 w.heap.size 2 _ _ _ hx
  simp only [List.getElem?_toArray, List.getElem?_cons_zero, List.getElem?_cons_succ] at x1 x2
  rw [← hw1]
  clear hw1 hx hz
  have i0 := index_0 (.pointer none) (.pointer (some ⟨w.heap.size + 1, 0, none⟩))
  have i1 := index_1 (.pointer none) (.pointer (some ⟨w.heap.size + 1, 0, none⟩))
  go_loopw [7] (fun v wr => ∃ k n : Nat, v = .int .i64 (k : Int) ∧ k ≤ 2 ∧ wr = w1.drewN n) (fun v _ => 2 - (intOf v).toNat)
  case atStart => exact ⟨0, 0, rfl, by omega, rfl⟩
  case round =>
    obtain ⟨k, n, rfl, hk, rfl⟩ := hrel
    have hk3 : k = 0 ∨ k = 1 ∨ k = 2 := by omega
    rcases hk3 with rfl | rfl | rfl
    · skip
      obtain ⟨w2, hw2⟩ : ∃ w2, w2 = w1.drewN n := ⟨_, rfl⟩
      have hl2 : Below w1.heap.size w1 w2 := by rw [hw2]; exact below_drewN _ _ _
      have HE2 : Hid (∃ q, w2 = w1.drewN q) := ⟨n, hw2⟩
      have NB : ∀ m, NoClock (w2.drewN m) (.pointer none) := fun m => (N0.out 0).later ((show Below w1.heap.size (w1.drewN 0) w1 from ⟨rfl, rfl, rfl, Nat.le_refl _, fun _ _ => rfl⟩).trans (hl2.trans (below_drewN _ _ _)))
      have C14 : Hid (∀ m, Calls Try.prog 14 #[(.pointer none), .int .i64 nm, .int .i64 af] (w2.drewN m) fun e w' => e = .returned (.int .i64 1) ∧ w' = w2.drewN m) := fun m => (set_no (.pointer none) nm af _ (NB m)).mono fun _ _ ⟨a, b⟩ => ⟨a, b.symm⟩
      have C16 : Hid (∀ m, Calls Try.prog 16 #[(.pointer none), .int .i64 nm] (w2.drewN m) fun e w' => e = .returned (.bool false) ∧ w' = w2.drewN m) := fun m => (stop_no (.pointer none) nm _ (NB m)).mono fun _ _ ⟨a, b⟩ => ⟨a, b.symm⟩
      have C18 : Hid (∀ m, Calls Try.prog 18 #[(.pointer none)] (w2.drewN m) fun e w' => e = .returned (.int .i64 0) ∧ w' = w2.drewN m) := fun m => (now_no (.pointer none) _ (NB m)).mono fun _ _ ⟨a, b⟩ => ⟨a, b.symm⟩
      have C19 : Hid (∀ m, Calls Try.prog 19 #[(.pointer none), .int .i64 nm] (w2.drewN m) fun e w' => e = .returned (.int .i64 0) ∧ w' = w2.drewN m) := fun m => (left_no (.pointer none) nm _ (NB m)).mono fun _ _ ⟨a, b⟩ => ⟨a, b.symm⟩
      have C12 : Hid (∀ m, Calls Try.prog 12 #[(.pointer none)] (w2.drewN m) fun e w' => e = .returned (.slice none 0 0) ∧ w' = w2.drewN m) := fun m => (tick_no (.pointer none) _ (NB m)).mono fun _ _ ⟨a, b⟩ => ⟨a, b.symm⟩
      have C21 : Hid (∀ m, Calls Try.prog 21 #[(.pointer none)] (w2.drewN m) fun e w' => e = .returned (.slice none 0 0) ∧ w' = w2.drewN m) := fun m => (names_no (.pointer none) _ (NB m)).mono fun _ _ ⟨a, b⟩ => ⟨a, b.symm⟩
      have y1 : w2.cell? ⟨w.heap.size, 1, none⟩ = some (.int .i64 nm) := by rw [hw2]; exact x1
      have y2 : w2.cell? ⟨w.heap.size, 2, none⟩ = some (.int .i64 af) := by rw [hw2]; exact x2
      rw [← hw2]
      clear hw2 hl2 NB x1 x2
      go_wp2
      go_quiet (first | (go_at_call 14; exact Calls.quiet_of_same (C14.out _)) | (go_at_call 16; exact Calls.quiet_of_same (C16.out _)) | (go_at_call 18; exact Calls.quiet_of_same (C18.out _)) | (go_at_call 19; exact Calls.quiet_of_same (C19.out _)) | (go_at_call 12; exact Calls.quiet_of_same (C12.out _)) | (go_at_call 21; exact Calls.quiet_of_same (C21.out _)))
      go_wp2
      go_roundw
      case rel =>
        obtain ⟨q, hq⟩ := HE2.out
        exact ⟨1, q + nq, by first | rfl | go_num, by omega, by rw [hq, World.drewN_drewN]⟩
      case measure => simp [intOf]
    · skip
      obtain ⟨w2, hw2⟩ : ∃ w2, w2 = w1.drewN n := ⟨_, rfl⟩
      have hl2 : Below w1.heap.size w1 w2 := by rw [hw2]; exact below_drewN _ _ _
      have HE2 : Hid (∃ q, w2 = w1.drewN q) := ⟨n, hw2⟩
      have NB : ∀ m, NoClock (w2.drewN m) (.pointer (some ⟨w.heap.size + 1, 0, none⟩)) := fun m => (N1.out 0).later ((show Below w1.heap.size (w1.drewN 0) w1 from ⟨rfl, rfl, rfl, Nat.le_refl _, fun _ _ => rfl⟩).trans (hl2.trans (below_drewN _ _ _)))
      have C14 : Hid (∀ m, Calls Try.prog 14 #[(.pointer (some ⟨w.heap.size + 1, 0, none⟩)), .int .i64 nm, .int .i64 af] (w2.drewN m) fun e w' => e = .returned (.int .i64 1) ∧ w' = w2.drewN m) := fun m => (set_no (.pointer (some ⟨w.heap.size + 1, 0, none⟩)) nm af _ (NB m)).mono fun _ _ ⟨a, b⟩ => ⟨a, b.symm⟩
      have C16 : Hid (∀ m, Calls Try.prog 16 #[(.pointer (some ⟨w.heap.size + 1, 0, none⟩)), .int .i64 nm] (w2.drewN m) fun e w' => e = .returned (.bool false) ∧ w' = w2.drewN m) := fun m => (stop_no (.pointer (some ⟨w.heap.size + 1, 0, none⟩)) nm _ (NB m)).mono fun _ _ ⟨a, b⟩ => ⟨a, b.symm⟩
      have C18 : Hid (∀ m, Calls Try.prog 18 #[(.pointer (some ⟨w.heap.size + 1, 0, none⟩))] (w2.drewN m) fun e w' => e = .returned (.int .i64 0) ∧ w' = w2.drewN m) := fun m => (now_no (.pointer (some ⟨w.heap.size + 1, 0, none⟩)) _ (NB m)).mono fun _ _ ⟨a, b⟩ => ⟨a, b.symm⟩
      have C19 : Hid (∀ m, Calls Try.prog 19 #[(.pointer (some ⟨w.heap.size + 1, 0, none⟩)), .int .i64 nm] (w2.drewN m) fun e w' => e = .returned (.int .i64 0) ∧ w' = w2.drewN m) := fun m => (left_no (.pointer (some ⟨w.heap.size + 1, 0, none⟩)) nm _ (NB m)).mono fun _ _ ⟨a, b⟩ => ⟨a, b.symm⟩
      have C12 : Hid (∀ m, Calls Try.prog 12 #[(.pointer (some ⟨w.heap.size + 1, 0, none⟩))] (w2.drewN m) fun e w' => e = .returned (.slice none 0 0) ∧ w' = w2.drewN m) := fun m => (tick_no (.pointer (some ⟨w.heap.size + 1, 0, none⟩)) _ (NB m)).mono fun _ _ ⟨a, b⟩ => ⟨a, b.symm⟩
      have C21 : Hid (∀ m, Calls Try.prog 21 #[(.pointer (some ⟨w.heap.size + 1, 0, none⟩))] (w2.drewN m) fun e w' => e = .returned (.slice none 0 0) ∧ w' = w2.drewN m) := fun m => (names_no (.pointer (some ⟨w.heap.size + 1, 0, none⟩)) _ (NB m)).mono fun _ _ ⟨a, b⟩ => ⟨a, b.symm⟩
      have y1 : w2.cell? ⟨w.heap.size, 1, none⟩ = some (.int .i64 nm) := by rw [hw2]; exact x1
      have y2 : w2.cell? ⟨w.heap.size, 2, none⟩ = some (.int .i64 af) := by rw [hw2]; exact x2
      rw [← hw2]
      clear hw2 hl2 NB x1 x2
      go_wp2
      go_quiet (first | (go_at_call 14; exact Calls.quiet_of_same (C14.out _)) | (go_at_call 16; exact Calls.quiet_of_same (C16.out _)) | (go_at_call 18; exact Calls.quiet_of_same (C18.out _)) | (go_at_call 19; exact Calls.quiet_of_same (C19.out _)) | (go_at_call 12; exact Calls.quiet_of_same (C12.out _)) | (go_at_call 21; exact Calls.quiet_of_same (C21.out _)))
      go_wp2
      go_roundw
      case rel =>
        obtain ⟨q, hq⟩ := HE2.out
        exact ⟨2, q + nq, by first | rfl | go_num, by omega, by rw [hq, World.drewN_drewN]⟩
      case measure => simp [intOf]
    · go_wp2_with (fail)
      refine (lives_any _).mono ?_
      rintro e w2 ⟨rfl, hb2⟩
      have HB := hide (L1.out.trans (((below_drewN w1.heap.size w1 n).trans hb2).mono L1.out.size))
      clear hb2
      go_wp2
      go_ret
      exact ⟨rfl, HB.out⟩
end Go.Proofs.Ythimdmgimlhbaaa
