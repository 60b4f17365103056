/- The small functions of package table: made, isClient, wrong, of, started, finished, forgotten. -/
import Derived.Test.YtmakibpbodfchaaTabs
import Derived.Test.YtmakibpbodfchaaOrder
import Derived.RegionTactic
import Derived.BigRegion
namespace Go.Proofs.Ytmakibpbodfchaa
open Go.RowKit

theorem made_yes {g : Nat} {T : Tab} (w : World) (h : TabAt w g T) : Calls Try.prog 28 #[.pointer (some ⟨g, 0, none⟩)] w fun e w' => e = .returned (.bool true) ∧ w = w' := by
  have hm := h.made
  have H := hide h
  clear h
  go_enter Try.func28, Try.ntmps28
  go_wp2
  go_ret
  exact ⟨rfl, rfl⟩
theorem made_no {p : Value} (w : World) (h : NoTab w p) : Calls Try.prog 28 #[p] w fun e w' => e = .returned (.bool false) ∧ w = w' := by
  rcases h with rfl | ⟨g, rfl, h⟩
  · go_enter Try.func28, Try.ntmps28
    go_wp2
    go_ret
    exact ⟨rfl, rfl⟩
  · have hm : w.cell? ⟨g, 0, none⟩ = some (.bool false) := by
      rw [cell_of_row w g 0 _ _ _ h]
      rfl
    clear h
    go_enter Try.func28, Try.ntmps28
    go_wp2
    go_ret
    exact ⟨rfl, rfl⟩
theorem isclient_any (c : Int) (w : World) : Calls Try.prog 30 #[.int .i64 c] w fun e w' => e = .returned (.bool (isC c)) ∧ w = w' := by
  by_cases h1 : 1 ≤ c
  · by_cases h2 : c ≤ 4
    · have H := hide (isC_mk h1 h2)
      go_enter Try.func30, Try.ntmps30
      go_wp2
      go_ret
      exact ⟨ret_bool H.out.symm, rfl⟩
    · have H := hide (isC_no (c := c) (fun h => h2 h.2))
      have hd : decide (c ≤ 4) = false := by simpa using h2
      go_enter Try.func30, Try.ntmps30
      go_wp2
      go_ret
      exact ⟨ret_bool H.out.symm, rfl⟩
  · have H := hide (isC_no (c := c) (fun h => h1 h.1))
    have hd : decide (1 ≤ c) = false := by simpa using h1
    go_enter Try.func30, Try.ntmps30
    go_wp2
    go_ret
    exact ⟨ret_bool H.out.symm, rfl⟩

/-- What is wrong with a call. -/
def wrongC (c r : Int) : Int := if okC c r then 0 else 2
theorem wrong_yes {g : Nat} {T : Tab} (c r : Int) (w : World) (h : TabAt w g T) : Calls Try.prog 23 #[.pointer (some ⟨g, 0, none⟩), .int .i64 c, .int .i64 r] w fun e w' => e = .returned (.int .i64 (wrongC c r)) ∧ w = w' := by
  have C := hide (made_yes w h)
  have C2 := hide (isclient_any c w)
  clear h
  by_cases h1 : isC c = true
  · rw [h1] at C2
    by_cases h2 : 1 ≤ r
    · have H : Hid (wrongC c r = 0) := by show wrongC c r = 0; unfold wrongC; rw [okC_mk h1 h2]; rfl
      clear h1
      go_enter Try.func23, Try.ntmps23
      go_wp2_with (first | (go_at_call 28; refine C.out.mono ?_; rintro e w1 ⟨rfl, rfl⟩) | (go_at_call 30; refine C2.out.mono ?_; rintro e w1 ⟨rfl, rfl⟩))
      go_ret
      exact ⟨ret_int H.out.symm, rfl⟩
    · have H : Hid (wrongC c r = 2) := by show wrongC c r = 2; unfold wrongC; rw [okC_no (.inr h2)]; rfl
      have hd : decide (r < 1) = true := by simp; omega
      clear h1 h2
      go_enter Try.func23, Try.ntmps23
      go_wp2_with (first | (go_at_call 28; refine C.out.mono ?_; rintro e w1 ⟨rfl, rfl⟩) | (go_at_call 30; refine C2.out.mono ?_; rintro e w1 ⟨rfl, rfl⟩))
      go_ret
      exact ⟨ret_int H.out.symm, rfl⟩
  · have h1 : isC c = false := by simpa using h1
    rw [h1] at C2
    have H : Hid (wrongC c r = 2) := by show wrongC c r = 2; unfold wrongC; rw [okC_no (.inl h1)]; rfl
    clear h1
    go_enter Try.func23, Try.ntmps23
    go_wp2_with (first | (go_at_call 28; refine C.out.mono ?_; rintro e w1 ⟨rfl, rfl⟩) | (go_at_call 30; refine C2.out.mono ?_; rintro e w1 ⟨rfl, rfl⟩))
    go_ret
    exact ⟨ret_int H.out.symm, rfl⟩
theorem wrong_no {p : Value} (c r : Int) (w : World) (h : NoTab w p) : Calls Try.prog 23 #[p, .int .i64 c, .int .i64 r] w fun e w' => e = .returned (.int .i64 1) ∧ w = w' := by
  have C := hide (made_no w h)
  clear h
  go_enter Try.func23, Try.ntmps23
  go_wp2_with (go_at_call 28; refine C.out.mono ?_; rintro e w1 ⟨rfl, rfl⟩)
  go_ret
  exact ⟨rfl, rfl⟩

/-- A memory that is handed back. -/
def Gives (v : Value) (w : World) (e : Ending) (w' : World) : Prop := e = .returned v ∧ Below w.heap.size w w'

set_option maxHeartbeats 1000000 in
theorem of_none {p : Value} (c : Int) (w : World) (h : NoTab w p) : Calls Try.prog 24 #[p, .int .i64 c] w (Gives Mry.zero.val w) := by
  have C := hide (fun w' (hb : Below w.heap.size w w') => made_no w' (h.later hb))
  clear h
  go_enter Try.func24, Try.ntmps24
  go_wp2_with (fail)
  refine (C.out _ ((Below.refl _ _).alloc (Nat.le_refl _) _)).mono ?_
  rintro e w1 ⟨rfl, rfl⟩
  go_wp2_with (refine wpList_store_box (by rfl) 49 _ _ (by rfl) w.heap.size 0 Mry.zero.cells.toArray (by rfl) (by rfl) 49 _ (heap_alloc_new w _) (by kernel_rfl) (by exact Nat.le_of_ble_eq_true rfl) (by exact Mry.one _) ?_; intro w2 hb2 hg2)
  refine bodyPost_ret (results_cell_row Try.results24 _ _ w.heap.size 49 _ (0, 0) _ (by rfl) hb2 Try.underlying49 (by rfl) (by kernel_rfl)) (by rfl) ?_
  exact ⟨rfl, ((Below.refl _ _).alloc (Nat.le_refl _) _).grown hg2 (by simp) (fun k hk => by have := Option.some.inj hk; omega)⟩

set_option maxHeartbeats 1000000 in
theorem of_any {g : Nat} {T : Tab} (c : Int) (w : World) (h : TabAt w g T) : Calls Try.prog 24 #[.pointer (some ⟨g, 0, none⟩), .int .i64 c] w (Gives (T.of c).val w) := by
  have C := hide (fun w' (hb : Below w.heap.size w w') => made_yes w' (h.later hb))
  have C2 := hide (fun w' => isclient_any c w')
  have H := hide h
  have hlt := h.lt
  clear h
  by_cases h1 : isC c = true
  · simp only [h1] at C2
    have HP := hide (tab_part T h1)
    have h3 : 1 ≤ c := by rcases isC_cases h1 with rfl | rfl | rfl | rfl <;> omega
    have h4 : c ≤ 4 := by rcases isC_cases h1 with rfl | rfl | rfl | rfl <;> omega
    clear h1
    go_enter Try.func24, Try.ntmps24
    go_wp2_with (fail)
    refine (C.out _ ((Below.refl _ _).alloc (Nat.le_refl _) _)).mono ?_
    rintro e w1 ⟨rfl, rfl⟩
    go_wp2_with (first
      | (go_at_call 30; refine (C2.out _).mono ?_; rintro e w1 ⟨rfl, rfl⟩)
      | (refine wpList_load_box (by rfl) 49 _ (by rfl) g (offC c) (by rfl) 52 _ (H.out.later ((Below.refl _ _).alloc (Nat.le_refl _) _)) 6 _ Try.underlying49 (by rfl) (by kernel_rfl) (T.of c).cells (by exact HP.out) (by rfl) ?_)
      | (refine wpList_store_box (by rfl) 49 _ _ (by rfl) w.heap.size 0 (T.of c).cells.toArray (by rfl) (by rfl) 49 _ (heap_alloc_new w _) (by kernel_rfl) (by exact Nat.le_of_ble_eq_true rfl) (by exact Mry.one _) ?_; intro w2 hb2 hg2))
    refine bodyPost_ret (results_cell_row Try.results24 _ _ w.heap.size 49 _ (0, 0) _ (by rfl) hb2 Try.underlying49 (by rfl) (by kernel_rfl)) (by rfl) ?_
    exact ⟨rfl, ((Below.refl _ _).alloc (Nat.le_refl _) _).grown hg2 (by simp) (fun k hk => by have := Option.some.inj hk; omega)⟩
  · have h1 : isC c = false := by simpa using h1
    simp only [h1] at C2
    have HZ : Hid (T.of c = Mry.zero) := by show _ = _; unfold Tab.of; rw [h1]; rfl
    clear h1
    go_enter Try.func24, Try.ntmps24
    go_wp2_with (fail)
    refine (C.out _ ((Below.refl _ _).alloc (Nat.le_refl _) _)).mono ?_
    rintro e w1 ⟨rfl, rfl⟩
    go_wp2_with (first
      | (go_at_call 30; refine (C2.out _).mono ?_; rintro e w1 ⟨rfl, rfl⟩)
      | (refine wpList_store_box (by rfl) 49 _ _ (by rfl) w.heap.size 0 Mry.zero.cells.toArray (by rfl) (by rfl) 49 _ (heap_alloc_new w _) (by kernel_rfl) (by exact Nat.le_of_ble_eq_true rfl) (by exact Mry.one _) ?_; intro w2 hb2 hg2))
    refine bodyPost_ret (results_cell_row Try.results24 _ _ w.heap.size 49 _ (0, 0) _ (by rfl) hb2 Try.underlying49 (by rfl) (by kernel_rfl)) (by rfl) ?_
    refine ⟨?_, ((Below.refl _ _).alloc (Nat.le_refl _) _).grown hg2 (by simp) (fun k hk => by have := Option.some.inj hk; omega)⟩
    rw [HZ.out]
    rfl


/-- The block made behind another one. -/
theorem heap_second (w : World) (A B : Obj) : ((w.alloc A).alloc B).heap[w.heap.size + 1]? = some B := by
  have h := heap_alloc_new (w.alloc A) B
  rwa [show (w.alloc A).heap.size = w.heap.size + 1 from by simp] at h
theorem heap_third (w : World) (A B C : Obj) : (((w.alloc A).alloc B).alloc C).heap[w.heap.size + 1 + 1]? = some C := by
  have h := heap_alloc_new ((w.alloc A).alloc B) C
  rwa [show ((w.alloc A).alloc B).heap.size = w.heap.size + 1 + 1 from by simp] at h

set_option maxHeartbeats 1000000 in
theorem started_any (m : Mry) (r : Int) (w : World) : Calls Try.prog 25 #[m.val, .int .i64 r] w (Gives (m.started r).val w) := by
  unfold Mry.val Mry.cells Mry.started
  simp only
  go_enter Try.func25, Try.ntmps25
  go_wp2
  refine bodyPost_ret (results_cell_row Try.results25 _ _ (w.heap.size + 1) 49 _ (0, 0) _ (by rfl) (heap_second _ _ _) Try.underlying49 (by rfl) (by kernel_rfl)) (by rfl) ?_
  exact ⟨rfl, ((Below.refl _ _).alloc (Nat.le_refl _) _).alloc (by simp) _⟩

set_option maxHeartbeats 1000000 in
theorem forgotten_any (m : Mry) (w : World) : Calls Try.prog 29 #[m.val] w (Gives m.forgotten.val w) := by
  unfold Mry.val Mry.cells Mry.forgotten
  simp only
  go_enter Try.func29, Try.ntmps29
  go_wp2
  refine bodyPost_ret (results_cell_row Try.results29 _ _ (w.heap.size + 1) 49 _ (0, 0) _ (by rfl) (heap_second _ _ _) Try.underlying49 (by rfl) (by kernel_rfl)) (by rfl) ?_
  exact ⟨rfl, ((Below.refl _ _).alloc (Nat.le_refl _) _).alloc (by simp) _⟩

set_option maxHeartbeats 1000000 in
theorem finished_any (m : Mry) (r : Int) (x : Rep) (w : World) : Calls Try.prog 27 #[m.val, .int .i64 r, x.val] w (Gives (m.finished r x).val w) := by
  have C := hide (fun w' => started_any m r w')
  unfold Mry.val Mry.cells Mry.started at C
  unfold Mry.val Mry.cells Mry.finished Rep.val Rep.cells
  simp only at C ⊢
  go_enter Try.func27, Try.ntmps27
  go_wp2_with (fail)
  refine (C.out _).mono ?_
  rintro e w1 ⟨rfl, hb⟩
  have B0 := (hb.block w.heap.size (by simp; omega)).trans ((heap_alloc_old _ _ (by simp; omega)).trans ((heap_alloc_old _ _ (by simp)).trans (heap_alloc_new _ _)))
  have B1 := (hb.block (w.heap.size + 1) (by simp)).trans ((heap_alloc_old _ _ (by simp)).trans (heap_second _ _ _))
  have B2 := (hb.block (w.heap.size + 1 + 1) (by simp)).trans (heap_third _ _ _ _)
  have HB : Hid (Below w.heap.size w w1) := ((((Below.refl _ _).alloc (Nat.le_refl _) _).alloc (by simp) _).alloc (by simp; omega) _).trans (hb.mono (by simp; omega))
  have hs : w.heap.size + 1 + 1 < w1.heap.size := lt_of_block B2
  have H0 := hide B0
  have H1 := hide B1
  have H2 := hide B2
  clear hb B0 B1 B2
  go_wp2_with (refine wpList_store_box (by rfl) 49 _ _ (by rfl) w.heap.size 0 (Mry.cells ⟨max m.last r, m.done, m.rep⟩).toArray (by rfl) (by rfl) 49 _ H0.out (by kernel_rfl) (by exact Nat.le_of_ble_eq_true rfl) (by exact Mry.one _) ?_; intro w2 hb2 hg2)
  have B1 := (hg2.block (w.heap.size + 1) (by omega) (by simp)).trans H1.out
  have H2' := hide ((hg2.block (w.heap.size + 1 + 1) (by omega) (by simp; omega)).trans H2.out)
  have HB2 : Hid (Below w.heap.size w w2) := HB.out.grown hg2 (by omega) (fun k hk => by have := Option.some.inj hk; omega)
  have hs2 := hg2.size
  have HX : Hid (BlockAt 49 w2 w.heap.size (Mry.cells ⟨max m.last r, m.done, m.rep⟩)) := hb2
  have f0 := frozen_of_row w2 w.heap.size 0 _ _ hb2
  have f1 := frozen_of_row w2 w.heap.size 1 _ _ hb2
  have f2 := frozen_of_row w2 w.heap.size 2 _ _ hb2
  have f3 := frozen_of_row w2 w.heap.size 3 _ _ hb2
  have f4 := frozen_of_row w2 w.heap.size 4 _ _ hb2
  have f5 := frozen_of_row w2 w.heap.size 5 _ _ hb2
  have c0 := cell_of_row w2 w.heap.size 0 _ _ _ hb2
  have c1 := cell_of_row w2 w.heap.size 1 _ _ _ hb2
  have c2 := cell_of_row w2 w.heap.size 2 _ _ _ hb2
  have c3 := cell_of_row w2 w.heap.size 3 _ _ _ hb2
  have c4 := cell_of_row w2 w.heap.size 4 _ _ _ hb2
  have c5 := cell_of_row w2 w.heap.size 5 _ _ _ hb2
  have d0 := cell_of_row w2 (w.heap.size + 1) 0 _ _ _ B1
  have d1 := cell_of_row w2 (w.heap.size + 1) 1 _ _ _ B1
  have d2 := cell_of_row w2 (w.heap.size + 1) 2 _ _ _ B1
  have d3 := cell_of_row w2 (w.heap.size + 1) 3 _ _ _ B1
  simp only [putAt, Mry.cells, List.getElem?_toArray, List.getElem?_cons_zero, List.getElem?_cons_succ, Array.getElem?_setIfInBounds, List.size_toArray, List.length_cons, List.length_nil] at c0 c1 c2 c3 c4 c5 d0 d1 d2 d3
  clear B1 hb2 hg2
  go_wp2
  go_region
  obtain ⟨w3, hw3⟩ : ∃ w3, w3 = (((((w2.setCell ⟨w.heap.size, 1, none⟩ (.int .i64 r)).setCell ⟨w.heap.size, 2, none⟩ (.int .i64 x.err)).setCell ⟨w.heap.size, 3, none⟩ (.int .i64 x.saga)).setCell ⟨w.heap.size, 4, none⟩ (.int .i64 x.st)).setCell ⟨w.heap.size, 5, none⟩ (.int .i64 x.step)).drew := ⟨_, rfl⟩
  have X3 : Hid (w3.heap[w.heap.size]? = some (.cells (Mry.cells ⟨max m.last r, r, x⟩).toArray 49 (0, 0))) := by
    rw [hw3]
    exact ((((HX.out.set 1 _).set 2 _).set 3 _).set 4 _).set 5 _
  have G3 : w2.grownBy w3 (some w.heap.size) := by
    rw [hw3]
    have g := fun (w : World) (o : Nat) (v : Value) (b : Nat) => grown_set w b o v
    exact (grown_trans (grown_trans (grown_trans (grown_trans (g _ _ _ _) (g _ _ _ _)) (g _ _ _ _)) (g _ _ _ _)) (g _ _ _ _)).trans (grown_drewN _ _ 1)
  have H3' := hide ((G3.block (w.heap.size + 1 + 1) (by omega) (by simp; omega)).trans H2'.out)
  have HB3 : Hid (Below w.heap.size w w3) := HB2.out.grown G3 (by omega) (fun k hk => by have := Option.some.inj hk; omega)
  have hs3 := G3.size
  rw [← hw3]
  clear hw3 G3 f0 f1 f2 f3 f4 f5 c0 c1 c2 c3 c4 c5 d0 d1 d2 d3 HX
  go_wp2_with (first
    | (refine wpList_load_box (by rfl) 49 _ (by rfl) w.heap.size 0 (by rfl) 49 _ X3.out 6 _ Try.underlying49 (by rfl) (by kernel_rfl) (Mry.cells ⟨max m.last r, r, x⟩) (by rfl) (by rfl) ?_)
    | (refine wpList_store_box (by rfl) 49 _ _ (by rfl) (w.heap.size + 1 + 1) 0 (Mry.cells ⟨max m.last r, r, x⟩).toArray (by rfl) (by rfl) 49 _ H3'.out (by kernel_rfl) (by exact Nat.le_of_ble_eq_true rfl) (by exact Mry.one _) ?_; intro w4 hb4 hg4))
  refine bodyPost_ret (results_cell_row Try.results27 _ _ (w.heap.size + 1 + 1) 49 _ (0, 0) _ (by rfl) hb4 Try.underlying49 (by rfl) (by kernel_rfl)) (by rfl) ?_
  exact ⟨rfl, HB3.out.grown hg4 (by omega) (fun k hk => by have := Option.some.inj hk; omega)⟩
end Go.Proofs.Ytmakibpbodfchaa
