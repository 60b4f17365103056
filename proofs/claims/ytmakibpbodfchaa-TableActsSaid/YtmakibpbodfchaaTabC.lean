/- Package table's calls: Make, Last, Done, Copy, Start, Finish, Ask. -/
import Derived.Test.YtmakibpbodfchaaTabM
import Derived.Test.YtmakibpbodfchaaOrderS
import Derived.Deep.QuietTactic
import Derived.BigQuiet
import Derived.IntWalk
namespace Go.Proofs.Ytmakibpbodfchaa
open Go.RowKit

theorem bne_of {a b : Int} (h : a ≠ b) : (a != b) = true := by simpa using h
theorem beq_of {a b : Int} (h : a ≠ b) : (a == b) = false := by simpa using h

/-- A new table. -/
def NewTab (T : Tab) (w : World) (e : Ending) (w' : World) : Prop := ∃ g, e = .returned (.pointer (some ⟨g, 0, none⟩)) ∧ w.heap.size ≤ g ∧ TabAt w' g T ∧ Below w.heap.size w w'
theorem make_any (w : World) : Calls Try.prog 9 #[] w (NewTab .zero w) := by
  go_enter Try.func9, Try.ntmps9
  go_wp2
  go_ret
  exact ⟨_, rfl, Nat.le_refl _, heap_alloc_new w _, (Below.refl _ _).alloc (Nat.le_refl _) _⟩

theorem field_last (m : Mry) (w : World) : (Instr.field 49 m.val 0).run Try.prog w = .ok (.int .i64 m.last) w := by kernel_rfl
theorem field_done (m : Mry) (w : World) : (Instr.field 49 m.val 1).run Try.prog w = .ok (.int .i64 m.done) w := by kernel_rfl
theorem last_any {p : Value} {m : Mry} (c : Int) (w : World) (h : Calls Try.prog 24 #[p, .int .i64 c] w (Gives m.val w)) :
    Calls Try.prog 18 #[p, .int .i64 c] w (Gives (.int .i64 m.last) w) := by
  have hfl := field_last m
  have C := hide h
  clear h
  go_enter Try.func18, Try.ntmps18
  go_wp2_with (fail)
  refine C.out.mono ?_
  rintro e w1 ⟨rfl, hb⟩
  have HB := hide hb
  clear hb
  go_wp2
  go_ret
  exact ⟨rfl, HB.out⟩
theorem done_any {p : Value} {m : Mry} (c : Int) (w : World) (h : Calls Try.prog 24 #[p, .int .i64 c] w (Gives m.val w)) :
    Calls Try.prog 20 #[p, .int .i64 c] w (Gives (.int .i64 m.done) w) := by
  have hfl := field_done m
  have C := hide h
  clear h
  go_enter Try.func20, Try.ntmps20
  go_wp2_with (fail)
  refine C.out.mono ?_
  rintro e w1 ⟨rfl, hb⟩
  have HB := hide hb
  clear hb
  go_wp2
  go_ret
  exact ⟨rfl, HB.out⟩

theorem copy_no {p : Value} (w : World) (h : NoTab w p) : Calls Try.prog 22 #[p] w fun e w' => e = .returned p ∧ w = w' := by
  have C := hide (made_no w h)
  clear h
  go_enter Try.func22, Try.ntmps22
  go_wp2_with (fail)
  refine C.out.mono ?_
  rintro e w1 ⟨rfl, rfl⟩
  go_wp2
  go_ret
  exact ⟨rfl, rfl⟩
theorem Tab.one (T : Tab) : ∀ u ∈ T.cells, u.oneCell' = true := by
  intro u hu
  unfold Tab.cells at hu
  rcases List.mem_cons.1 hu with rfl | hu
  · rfl
  · simp only [List.mem_append] at hu
    rcases hu with ((hu | hu) | hu) | hu <;> exact Mry.one _ u hu
theorem tab_whole (T : Tab) : (T.cells.toArray.toList.drop 0).take 25 = T.cells := by simp [Tab.cells, Mry.cells]
theorem put_zeros (T : Tab) : putAt zeroTab.toArray 0 T.cells = T.cells.toArray := by simp [zeroTab, Tab.cells, Mry.cells, putAt]
set_option maxHeartbeats 1000000 in
set_option maxRecDepth 100000 in
theorem copy_any {g : Nat} {T : Tab} (w : World) (h : TabAt w g T) : Calls Try.prog 22 #[.pointer (some ⟨g, 0, none⟩)] w (NewTab T w) := by
  have C := hide (made_yes w h)
  have H := hide h
  clear h
  go_enter Try.func22, Try.ntmps22
  go_wp2_with (fail)
  refine C.out.mono ?_
  rintro e w1 ⟨rfl, rfl⟩
  go_wp2_with (first
    | (refine wpList_load_box (by rfl) 52 _ (by rfl) g 0 (by rfl) 52 _ H.out 25 _ Try.underlying52 (by rfl) (by kernel_rfl) T.cells (by exact tab_whole T) (by rfl) ?_)
    | (refine wpList_store_box (by rfl) 52 _ _ (by rfl) w.heap.size 0 T.cells.toArray (by rfl) (by rfl) 52 zeroTab.toArray (heap_alloc_new w _) (by kernel_rfl) (by exact Nat.le_of_ble_eq_true rfl) (by exact T.one) ?_; intro w2 hb2 hg2))
  go_ret
  have hb3 : w2.heap[w.heap.size]? = some (.cells (putAt zeroTab.toArray 0 T.cells) 52 (0, 0)) := hb2
  rw [put_zeros] at hb3
  exact ⟨_, rfl, Nat.le_refl _, hb3, ((Below.refl _ _).alloc (Nat.le_refl _) _).grown hg2 (by simp) (fun k hk => by have := Option.some.inj hk; omega)⟩

/-- What a call says and leaves. -/
def Does (x : Int × Tab) (g : Nat) (w : World) (e : Ending) (w' : World) : Prop := e = .returned (.int .i64 x.1) ∧ TabAt w' g x.2 ∧ w.grownBy w' (some g)
theorem wrong_is {c r : Int} (h : okC c r = true) : wrongC c r = 0 := by unfold wrongC; rw [h]; rfl
theorem wrong_is2 {c r : Int} (h : okC c r = false) : wrongC c r = 2 := by unfold wrongC; rw [h]; rfl

theorem start_no {p : Value} (c r : Int) (w : World) (h : NoTab w p) : Calls Try.prog 10 #[p, .int .i64 c, .int .i64 r] w fun e w' => e = .returned (.int .i64 1) ∧ w = w' := by
  have C := hide (wrong_no c r w h)
  clear h
  go_enter Try.func10, Try.ntmps10
  go_wp2_with (fail)
  refine C.out.mono ?_
  rintro e w1 ⟨rfl, rfl⟩
  go_wp2
  go_ret
  exact ⟨rfl, rfl⟩
set_option maxHeartbeats 2000000 in
set_option maxRecDepth 100000 in
theorem start_any {g : Nat} {T : Tab} (c r : Int) (w : World) (h : TabAt w g T) : Calls Try.prog 10 #[.pointer (some ⟨g, 0, none⟩), .int .i64 c, .int .i64 r] w (Does (startT T c r) g w) := by
  have C := wrong_yes c r w h
  have C2 := hide (of_any c w h)
  have H0 := hide h
  clear h
  by_cases hk : okC c r = true
  · rw [wrong_is hk] at C
    have HC := hide (okC_and hk).1
    have hc1 : 1 ≤ c := by rcases isC_cases HC.out with rfl | rfl | rfl | rfl <;> omega
    have hc4 : c ≤ 4 := by rcases isC_cases HC.out with rfl | rfl | rfl | rfl <;> omega
    obtain ⟨m, hm⟩ : ∃ m, m = T.of c := ⟨_, rfl⟩
    rw [← hm] at C2
    have HM := hide hm
    clear hm
    by_cases hl : r ≤ m.last
    · have HR : Hid (startT T c r = (10, T)) := by show _ = _; unfold startT; rw [if_pos hk, ← HM.out, if_pos hl]
      have q1 : m.started r = m := by unfold Mry.started; rw [show max m.last r = m.last from by omega]
      have C3 := hide (fun w' => started_any m r w')
      rw [q1] at C3
      have q2 := fun w => eql_mry m m w
      simp only [decide_true] at q2
      have C1 := hide C
      clear C hk hl q1
      go_enter Try.func10, Try.ntmps10
      go_wp2_with (fail)
      refine C1.out.mono ?_
      rintro e w1 ⟨rfl, rfl⟩
      go_wp2_with (fail)
      refine C2.out.mono ?_
      rintro e w1 ⟨rfl, hb1⟩
      have HB1 := hide hb1
      clear hb1
      go_wp2_with (first
        | (refine wpList_store_mry (m := m) (by rfl) _ _ (by rfl) (by rfl) (MryAt.new w1) (by rfl) ?_; intro w2 hx2 hg2; have HX2 := hide hx2; have HG2 := hide hg2; clear hx2 hg2)
        | (refine wpList_load_mry (by rfl) _ (by rfl) (by rfl) HX2.out ?_)
        | (go_at_call 25; refine (C3.out _).mono ?_; rintro e w3 ⟨rfl, hb3⟩; have HX3 := hide (HX2.out.later hb3); have HB3 := hide hb3; clear hb3)
        | (refine wpList_store_mry (m := m) (by rfl) _ _ (by rfl) (by rfl) (MryAt.new w3) (by rfl) ?_; intro w4 hx4 hg4; have HX4 := hide hx4; have HX5 := hide ((HX3.out.later ((Below.refl _ _).alloc (Nat.le_refl _) _)).other hg4 (by have := HX3.out.lt; simp; omega)); have HB4 : Hid (Below w3.heap.size w3 w4) := ((Below.refl w3.heap.size w3).alloc (Nat.le_refl _) _).grown hg4 (by simp) (fun k hk => by have := Option.some.inj hk; omega); clear hx4 hg4)
        | (refine wpList_load_mry (by rfl) _ (by rfl) (by rfl) HX4.out ?_)
        | (refine wpList_load_mry (by rfl) _ (by rfl) (by rfl) HX5.out ?_))
      have HB2 : Hid (Below w.heap.size w w2) := (HB1.out.alloc HB1.out.size _).grown HG2.out (Nat.le_trans HB1.out.size (by simp)) (fun k hk => by have := Option.some.inj hk; have := HB1.out.size; omega)
      have HBE : Hid (Below w.heap.size w w4) := (HB2.out.trans (HB3.out.mono HB2.out.size)).trans (HB4.out.mono (Nat.le_trans HB2.out.size HB3.out.size))
      go_wp2
      go_ret
      unfold Does
      rw [HR.out]
      exact ⟨rfl, H0.out.later HBE.out, grown_later HBE.out _⟩
    · have HR : Hid (startT T c r = (0, T.put c (m.started r))) := by show _ = _; unfold startT; rw [if_pos hk, ← HM.out, if_neg hl]
      have q1 : ¬ m.started r = m := by
        rw [mry_iff]
        unfold Mry.started
        simp only
        omega
      have C3 := hide (fun w' => started_any m r w')
      have q2 := fun w => eql_mry (m.started r) m w
      simp only [q1, decide_false] at q2
      have C1 := hide C
      clear C hk hl q1
      go_enter Try.func10, Try.ntmps10
      go_wp2_with (fail)
      refine C1.out.mono ?_
      rintro e w1 ⟨rfl, rfl⟩
      go_wp2_with (fail)
      refine C2.out.mono ?_
      rintro e w1 ⟨rfl, hb1⟩
      have HB1 := hide hb1
      clear hb1
      go_wp2_with (first
        | (refine wpList_store_mry (m := m) (by rfl) _ _ (by rfl) (by rfl) (MryAt.new w1) (by rfl) ?_; intro w2 hx2 hg2; have HX2 := hide hx2; have HG2 := hide hg2; clear hx2 hg2)
        | (refine wpList_load_mry (by rfl) _ (by rfl) (by rfl) HX2.out ?_)
        | (go_at_call 25; refine (C3.out _).mono ?_; rintro e w3 ⟨rfl, hb3⟩; have HX3 := hide (HX2.out.later hb3); have HB3 := hide hb3; clear hb3)
        | (refine wpList_store_mry (m := m.started r) (by rfl) _ _ (by rfl) (by rfl) (MryAt.new w3) (by rfl) ?_; intro w4 hx4 hg4; have HX4 := hide hx4; have HX5 := hide ((HX3.out.later ((Below.refl _ _).alloc (Nat.le_refl _) _)).other hg4 (by have := HX3.out.lt; simp; omega)); have HB4 : Hid (Below w3.heap.size w3 w4) := ((Below.refl w3.heap.size w3).alloc (Nat.le_refl _) _).grown hg4 (by simp) (fun k hk => by have := Option.some.inj hk; omega); clear hx4 hg4)
        | (refine wpList_load_mry (by rfl) _ (by rfl) (by rfl) HX4.out ?_)
        | (refine wpList_load_mry (by rfl) _ (by rfl) (by rfl) HX5.out ?_))
      have HB2 : Hid (Below w.heap.size w w2) := (HB1.out.alloc HB1.out.size _).grown HG2.out (Nat.le_trans HB1.out.size (by simp)) (fun k hk => by have := Option.some.inj hk; have := HB1.out.size; omega)
      have HBE : Hid (Below w.heap.size w w4) := (HB2.out.trans (HB3.out.mono HB2.out.size)).trans (HB4.out.mono (Nat.le_trans HB2.out.size HB3.out.size))
      have HT4 := hide ((H0.out.later HBE.out).drewN 1)
      have hw1 : IntKind.i64.wrap (c - 1) = c - 1 := IntWalk.i64_in _ (by omega)
      have hc5 : c - 1 < 4 := by omega
      refine wp_region_S (fun j => j == 7) (by kernel_rfl) ?_
      refine wpAnyS_take (i := 0) (d := some 26) (v := ?vas0) rfl rfl (by kernel_rfl) (by kernel_rfl) (by kernel_rfl) (by kernel_rfl) (by kernel_rfl) (fun _ _ _ h => h) (by rfl) ?yas0 ?_
      case yas0 => (intro w' hw'; go_simp; try (with_reducible rfl))
      simp only [Act.put]; try simp only [List.setIfInBounds_toArray]; try simp only [List.set_cons_zero, List.set_cons_succ]
      refine wpAnyS_take (i := 1) (d := some 27) (v := ?vas1) rfl rfl (by kernel_rfl) (by kernel_rfl) (by kernel_rfl) (by kernel_rfl) (by kernel_rfl) (fun _ _ _ h => h) (by rfl) ?yas1 ?_
      case yas1 => (intro w' hw'; go_simp; try (with_reducible rfl))
      simp only [Act.put]; try simp only [List.setIfInBounds_toArray]; try simp only [List.set_cons_zero, List.set_cons_succ]
      refine wpAnyS_take (i := 2) (d := some 28) (v := .int .i64 (c - 1)) rfl rfl (by kernel_rfl) (by kernel_rfl) (by kernel_rfl) (by kernel_rfl) (by kernel_rfl) (fun _ _ _ h => h) (by rfl) ?yas2 ?_
      case yas2 => (intro w' hw'; go_simp; try (with_reducible rfl))
      simp only [Act.put]; try simp only [List.setIfInBounds_toArray]; try simp only [List.set_cons_zero, List.set_cons_succ]
      refine wpAnyS_take (i := 3) (d := some 29) (v := (m.started r).val) rfl rfl (by kernel_rfl) (by kernel_rfl) (by kernel_rfl) (by kernel_rfl) (by kernel_rfl) (fun _ _ _ h => h) (by rfl) ?yas3 ?_
      case yas3 => (intro w' hw'; exact exec_load_mry _ (by rfl) (by rfl) (HX4.out.later ((Below.refl _ _).drew.trans hw')))
      simp only [Act.put]; try simp only [List.setIfInBounds_toArray]; try simp only [List.set_cons_zero, List.set_cons_succ]
      refine wpAnyS_take (i := 4) (d := some 30) (v := ?vas4) rfl rfl (by kernel_rfl) (by kernel_rfl) (by kernel_rfl) (by kernel_rfl) (by kernel_rfl) (fun _ _ _ h => h) (by rfl) ?yas4 ?_
      case yas4 => (intro w' hw'; go_simp; try (with_reducible rfl))
      simp only [Act.put]; try simp only [List.setIfInBounds_toArray]; try simp only [List.set_cons_zero, List.set_cons_succ]
      refine wpAnyS_take (i := 5) (d := some 31) (v := ?vas5) rfl rfl (by kernel_rfl) (by kernel_rfl) (by kernel_rfl) (by kernel_rfl) (by kernel_rfl) (fun _ _ _ h => h) (by rfl) ?yas5 ?_
      case yas5 => (intro w' hw'; go_simp; try (with_reducible rfl))
      simp only [Act.put]; try simp only [List.setIfInBounds_toArray]; try simp only [List.set_cons_zero, List.set_cons_succ]
      refine wpAnyS_take (i := 6) (d := some 32) (v := .pointer (some ⟨g, 1 + (c.toNat - 1) * 6, none⟩)) rfl rfl (by kernel_rfl) (by kernel_rfl) (by kernel_rfl) (by kernel_rfl) (by kernel_rfl) (fun _ _ _ h => h) (by rfl) ?yas6 ?_
      case yas6 => (intro w' hw'; go_simp; try (with_reducible rfl))
      simp only [Act.put]; try simp only [List.setIfInBounds_toArray]; try simp only [List.set_cons_zero, List.set_cons_succ]
      refine wpAnyS_write (i := 7) rfl rfl (by kernel_rfl) (by rfl) fun K hK => ?_
      refine wp_store_tab (T := T) (m := m.started r) (c := c) _ _ (by rfl) HC.out (by rfl) HT4.out (by rfl) ?_
      intro w6 ht6 hg6
      have HT6 := hide ht6
      have HG6 := hide hg6
      clear ht6 hg6
      refine hK.out _ _ ?_
      clear hK K
      try simp only [Act.put]
      refine wpAnyS_done (by kernel_rfl) ?_ _
      go_wp2
      go_ret
      unfold Does
      rw [HR.out]
      exact ⟨rfl, HT6.out, (grown_later HBE.out _).trans ((grown_drewN _ _ 1).trans HG6.out)⟩
  · have hk : okC c r = false := by simpa using hk
    rw [wrong_is2 hk] at C
    have HR : Hid (startT T c r = (2, T)) := by show _ = _; unfold startT; rw [hk]; rfl
    have C1 := hide C
    clear C hk
    go_enter Try.func10, Try.ntmps10
    go_wp2_with (fail)
    refine (C1.out).mono ?_
    rintro e w1 ⟨rfl, rfl⟩
    go_wp2
    go_ret
    unfold Does
    rw [HR.out]
    exact ⟨rfl, H0.out, grown_later (Below.refl _ _) _⟩

theorem finish_no {p : Value} (c r : Int) (x : Rep) (w : World) (h : NoTab w p) : Calls Try.prog 12 #[p, .int .i64 c, .int .i64 r, x.val] w fun e w' => e = .returned (.int .i64 1) ∧ Below w.heap.size w w' := by
  have C := hide (wrong_no c r (w.alloc (.cells x.cells.toArray 29 (0, 0))) (h.later ((Below.refl _ _).alloc (Nat.le_refl _) _)))
  clear h
  unfold Rep.val
  go_enter Try.func12, Try.ntmps12
  go_wp2_with (fail)
  refine C.out.mono ?_
  rintro e w1 ⟨rfl, rfl⟩
  go_wp2
  go_ret
  exact ⟨rfl, (Below.refl _ _).alloc (Nat.le_refl _) _⟩
set_option maxHeartbeats 2000000 in
set_option maxRecDepth 100000 in
theorem finish_any {g : Nat} {T : Tab} (c r : Int) (x : Rep) (w : World) (h : TabAt w g T) : Calls Try.prog 12 #[.pointer (some ⟨g, 0, none⟩), .int .i64 c, .int .i64 r, x.val] w (Does (finishT T c r x) g w) := by
  obtain ⟨w0, hw0⟩ : ∃ w0, w0 = (w.alloc (.cells x.cells.toArray 29 (0, 0))) := ⟨_, rfl⟩
  have B0 : Hid (Below w.heap.size w w0) := by rw [hw0]; exact (Below.refl _ _).alloc (Nat.le_refl _) _
  have X0 : Hid (RepAt w0 w.heap.size x) := by rw [hw0]; exact RepAt.boxed w x
  have C := wrong_yes c r w0 (h.later B0.out)
  have C2 := hide (of_any c w0 (h.later B0.out))
  have H0 := hide h
  have HW0 := hide hw0
  clear h hw0
  by_cases hk : okC c r = true
  · rw [wrong_is hk] at C
    have HC := hide (okC_and hk).1
    have hc1 : 1 ≤ c := by rcases isC_cases HC.out with rfl | rfl | rfl | rfl <;> omega
    have hc4 : c ≤ 4 := by rcases isC_cases HC.out with rfl | rfl | rfl | rfl <;> omega
    obtain ⟨m, hm⟩ : ∃ m, m = T.of c := ⟨_, rfl⟩
    rw [← hm] at C2
    have HM := hide hm
    clear hm
    by_cases hl : r < m.done
    · have HR : Hid (finishT T c r x = (10, T)) := by show _ = _; unfold finishT; rw [if_pos hk, ← HM.out, if_pos hl]
      have C1 := hide C
      clear C hk
      go_enter Try.func12, Try.ntmps12
      go_wp2_with (fail)
      rw [← HW0.out]
      refine C1.out.mono ?_
      rintro e w1 ⟨rfl, rfl⟩
      go_wp2_with (fail)
      refine C2.out.mono ?_
      rintro e w1 ⟨rfl, hb1⟩
      have HB1 := hide hb1
      clear hb1
      go_wp2_with (refine wpList_store_mry (m := m) (by rfl) _ _ (by rfl) (by rfl) (MryAt.new w1) (by rfl) ?_; intro w2 hx2 hg2; have HX2 := hide hx2; have HG2 := hide hg2; have k1 := hx2.cell1; clear hx2 hg2)
      have HB2 : Hid (Below w0.heap.size w0 w2) := (HB1.out.alloc HB1.out.size _).grown HG2.out (Nat.le_trans HB1.out.size (by simp)) (fun k hk => by have := Option.some.inj hk; have := HB1.out.size; omega)
      go_wp2
      go_ret
      unfold Does
      rw [HR.out]
      have HBE := B0.out.trans (HB2.out.mono B0.out.size)
      exact ⟨rfl, H0.out.later HBE, grown_later HBE _⟩
    by_cases he : r = m.done
    · have HR : Hid (finishT T c r x = (9, T)) := by show _ = _; unfold finishT; rw [if_pos hk, ← HM.out, if_neg hl, if_pos he]
      have C1 := hide C
      have hl2 : decide (r < m.done) = false := by simpa using hl
      have he2 : (r == m.done) = true := by simpa using he
      clear C hk hl he
      go_enter Try.func12, Try.ntmps12
      go_wp2_with (fail)
      rw [← HW0.out]
      refine C1.out.mono ?_
      rintro e w1 ⟨rfl, rfl⟩
      go_wp2_with (fail)
      refine C2.out.mono ?_
      rintro e w1 ⟨rfl, hb1⟩
      have HB1 := hide hb1
      clear hb1
      go_wp2_with (refine wpList_store_mry (m := m) (by rfl) _ _ (by rfl) (by rfl) (MryAt.new w1) (by rfl) ?_; intro w2 hx2 hg2; have HX2 := hide hx2; have HG2 := hide hg2; have k1 := hx2.cell1; clear hx2 hg2)
      have HB2 : Hid (Below w0.heap.size w0 w2) := (HB1.out.alloc HB1.out.size _).grown HG2.out (Nat.le_trans HB1.out.size (by simp)) (fun k hk => by have := Option.some.inj hk; have := HB1.out.size; omega)
      go_wp2
      go_ret
      unfold Does
      rw [HR.out]
      have HBE := B0.out.trans (HB2.out.mono B0.out.size)
      exact ⟨rfl, H0.out.later HBE, grown_later HBE _⟩
    · have HR : Hid (finishT T c r x = (0, T.put c (m.finished r x))) := by show _ = _; unfold finishT; rw [if_pos hk, ← HM.out, if_neg hl, if_neg he]
      have C1 := hide C
      have hl2 : decide (r < m.done) = false := by simpa using hl
      have he2 : (r == m.done) = false := by simpa using he
      clear C hk hl he
      go_enter Try.func12, Try.ntmps12
      go_wp2_with (fail)
      rw [← HW0.out]
      refine C1.out.mono ?_
      rintro e w1 ⟨rfl, rfl⟩
      go_wp2_with (fail)
      refine C2.out.mono ?_
      rintro e w1 ⟨rfl, hb1⟩
      have HB1 := hide hb1
      clear hb1
      go_wp2_with (refine wpList_store_mry (m := m) (by rfl) _ _ (by rfl) (by rfl) (MryAt.new w1) (by rfl) ?_; intro w2 hx2 hg2; have HX2 := hide hx2; have HG2 := hide hg2; have k1 := hx2.cell1; clear hx2 hg2)
      have HB2 : Hid (Below w0.heap.size w0 w2) := (HB1.out.alloc HB1.out.size _).grown HG2.out (Nat.le_trans HB1.out.size (by simp)) (fun k hk => by have := Option.some.inj hk; have := HB1.out.size; omega)
      go_wp2
      have HT2 := hide ((H0.out.later B0.out).later HB2.out)
      have HXR := hide (X0.out.later HB2.out)
      have hw1 : IntKind.i64.wrap (c - 1) = c - 1 := IntWalk.i64_in _ (by omega)
      have hc5 : c - 1 < 4 := by omega
      refine wp_region_S (fun j => j == 10) (by kernel_rfl) ?_
      refine wpAnyS_take (i := 0) (d := some 31) (v := ?vaf0) rfl rfl (by kernel_rfl) (by kernel_rfl) (by kernel_rfl) (by kernel_rfl) (by kernel_rfl) (fun _ _ _ h => h) (by rfl) ?yaf0 ?_
      case yaf0 => (intro w' hw'; go_simp; try (with_reducible rfl))
      simp only [Act.put]; try simp only [List.setIfInBounds_toArray]; try simp only [List.set_cons_zero, List.set_cons_succ]
      refine wpAnyS_take (i := 1) (d := some 32) (v := ?vaf1) rfl rfl (by kernel_rfl) (by kernel_rfl) (by kernel_rfl) (by kernel_rfl) (by kernel_rfl) (fun _ _ _ h => h) (by rfl) ?yaf1 ?_
      case yaf1 => (intro w' hw'; go_simp; try (with_reducible rfl))
      simp only [Act.put]; try simp only [List.setIfInBounds_toArray]; try simp only [List.set_cons_zero, List.set_cons_succ]
      refine wpAnyS_take (i := 2) (d := some 33) (v := .int .i64 (c - 1)) rfl rfl (by kernel_rfl) (by kernel_rfl) (by kernel_rfl) (by kernel_rfl) (by kernel_rfl) (fun _ _ _ h => h) (by rfl) ?yaf2 ?_
      case yaf2 => (intro w' hw'; go_simp; try (with_reducible rfl))
      simp only [Act.put]; try simp only [List.setIfInBounds_toArray]; try simp only [List.set_cons_zero, List.set_cons_succ]
      refine wpAnyS_take (i := 3) (d := some 34) (v := m.val) rfl rfl (by kernel_rfl) (by kernel_rfl) (by kernel_rfl) (by kernel_rfl) (by kernel_rfl) (fun _ _ _ h => h) (by rfl) ?yaf3 ?_
      case yaf3 => (intro w' hw'; exact exec_load_mry _ (by rfl) (by rfl) (HX2.out.later ((Below.refl _ _).drew.trans hw')))
      simp only [Act.put]; try simp only [List.setIfInBounds_toArray]; try simp only [List.set_cons_zero, List.set_cons_succ]
      refine wpAnyS_take (i := 4) (d := some 35) (v := ?vaf4) rfl rfl (by kernel_rfl) (by kernel_rfl) (by kernel_rfl) (by kernel_rfl) (by kernel_rfl) (fun _ _ _ h => h) (by rfl) ?yaf4 ?_
      case yaf4 => (intro w' hw'; go_simp; try (with_reducible rfl))
      simp only [Act.put]; try simp only [List.setIfInBounds_toArray]; try simp only [List.set_cons_zero, List.set_cons_succ]
      refine wpAnyS_take (i := 5) (d := some 36) (v := x.val) rfl rfl (by kernel_rfl) (by kernel_rfl) (by kernel_rfl) (by kernel_rfl) (by kernel_rfl) (fun _ _ _ h => h) (by rfl) ?yaf5 ?_
      case yaf5 => (intro w' hw'; exact exec_load_rep _ (by rfl) (by rfl) (HXR.out.later ((Below.refl _ _).drew.trans hw')))
      simp only [Act.put]; try simp only [List.setIfInBounds_toArray]; try simp only [List.set_cons_zero, List.set_cons_succ]
      refine wpAnyS_take (i := 7) (d := some 38) (v := ?vaf7) rfl rfl (by kernel_rfl) (by kernel_rfl) (by kernel_rfl) (by kernel_rfl) (by kernel_rfl) (fun _ _ _ h => h) (by rfl) ?yaf7 ?_
      case yaf7 => (intro w' hw'; go_simp; try (with_reducible rfl))
      simp only [Act.put]; try simp only [List.setIfInBounds_toArray]; try simp only [List.set_cons_zero, List.set_cons_succ]
      refine wpAnyS_take (i := 8) (d := some 39) (v := ?vaf8) rfl rfl (by kernel_rfl) (by kernel_rfl) (by kernel_rfl) (by kernel_rfl) (by kernel_rfl) (fun _ _ _ h => h) (by rfl) ?yaf8 ?_
      case yaf8 => (intro w' hw'; go_simp; try (with_reducible rfl))
      simp only [Act.put]; try simp only [List.setIfInBounds_toArray]; try simp only [List.set_cons_zero, List.set_cons_succ]
      refine wpAnyS_only (i := 6) rfl (by kernel_rfl) (by rfl) fun K hK => ?_
      go_simp
      refine (finished_any m r x _).mono ?_
      rintro e w3 ⟨rfl, hb3⟩
      have HB3 : Hid (Below w2.heap.size w2 w3) := (Below.refl _ _).drew.trans hb3
      have HT3 := hide (HT2.out.later HB3.out)
      refine hK.out _ _ hb3 ?_
      clear hb3
      clear hK K
      try (simp only [Act.put]; try simp only [List.setIfInBounds_toArray]; try simp only [List.set_cons_zero, List.set_cons_succ])
      refine wpAnyS_take (i := 9) (d := some 40) (v := .pointer (some ⟨g, 1 + (c.toNat - 1) * 6, none⟩)) rfl rfl (by kernel_rfl) (by kernel_rfl) (by kernel_rfl) (by kernel_rfl) (by kernel_rfl) (fun _ _ _ h => h) (by rfl) ?yaf9 ?_
      case yaf9 => (intro w' hw'; go_simp; try (with_reducible rfl))
      simp only [Act.put]; try simp only [List.setIfInBounds_toArray]; try simp only [List.set_cons_zero, List.set_cons_succ]
      refine wpAnyS_write (i := 10) rfl rfl (by kernel_rfl) (by rfl) fun K hK => ?_
      refine wp_store_tab (T := T) (m := m.finished r x) (c := c) _ _ (by rfl) HC.out (by rfl) HT3.out (by rfl) ?_
      intro w6 ht6 hg6
      have HT6 := hide ht6
      have HG6 := hide hg6
      clear ht6 hg6
      refine hK.out _ _ ?_
      clear hK K
      try simp only [Act.put]
      refine wpAnyS_done (by kernel_rfl) ?_ _
      go_wp2
      go_ret
      unfold Does
      rw [HR.out]
      have HBE := B0.out.trans (HB2.out.mono B0.out.size)
      exact ⟨rfl, HT6.out, (grown_later (HBE.trans (HB3.out.mono HBE.size)) _).trans HG6.out⟩
  · have hk : okC c r = false := by simpa using hk
    rw [wrong_is2 hk] at C
    have HR : Hid (finishT T c r x = (2, T)) := by show _ = _; unfold finishT; rw [hk]; rfl
    have C1 := hide C
    clear C hk
    go_enter Try.func12, Try.ntmps12
    go_wp2_with (fail)
    rw [← HW0.out]
    refine (C1.out).mono ?_
    rintro e w1 ⟨rfl, rfl⟩
    go_wp2
    go_ret
    unfold Does
    rw [HR.out]
    exact ⟨rfl, H0.out.later B0.out, grown_later B0.out _⟩

/-- What Ask tells: what the request is, and the reply. -/
def Asks (x : Int × Rep) (w : World) (e : Ending) (w' : World) : Prop := e = .returned (.tuple #[.int .i64 x.1, x.2.val]) ∧ Below w.heap.size w w'
theorem asks_zero {p : Value} {err : Int} (x : Int × Rep) (c r : Int) (w : World) (he : err ≠ 0) (hx : x = (4, .zero)) (C : ∀ w', Below w.heap.size w w' → Calls Try.prog 23 #[p, .int .i64 c, .int .i64 r] w' fun e w'' => e = .returned (.int .i64 err) ∧ w' = w'') :
    Calls Try.prog 16 #[p, .int .i64 c, .int .i64 r] w (Asks x w) := by
  subst hx
  have hne := bne_of he
  have C1 := hide C
  clear C he
  go_enter Try.func16, Try.ntmps16
  go_wp2_with (fail)
  refine (C1.out _ ((Below.refl _ _).alloc (Nat.le_refl _) _)).mono ?_
  rintro e w1 ⟨rfl, rfl⟩
  go_wp2_with (refine wpList_store_rep (m := .zero) (by rfl) _ _ (by rfl) (by rfl) (RepAt.new w) (by rfl) ?_; intro w2 hx2 hg2)
  refine bodyPost_ret (results_12 Try.results16 _ _ w.heap.size 29 _ _ (by rfl) hx2 Try.underlying29 (by rfl) (by kernel_rfl) _ (by rfl)) (by rfl) ?_
  exact ⟨rfl, ((Below.refl _ _).alloc (Nat.le_refl _) _).grown hg2 (by simp) (fun k hk => by have := Option.some.inj hk; omega)⟩
theorem ask_no {p : Value} (c r : Int) (w : World) (h : NoTab w p) : Calls Try.prog 16 #[p, .int .i64 c, .int .i64 r] w (Asks (4, .zero) w) :=
  asks_zero _ c r w (by decide) rfl (fun w' hb => wrong_no c r w' (h.later hb))
/-- The reply within what is remembered. -/
theorem mry_reply {w : World} {g : Nat} {m : Mry} (h : MryAt w g m) : w.rangeAt g 2 m.rep.cells := by
  intro j v hj
  rw [cell_of_row w g (2 + j) _ _ _ h]
  have hl := (List.getElem?_eq_some_iff.1 hj).1
  have h4 : j < 4 := hl
  have : j = 0 ∨ j = 1 ∨ j = 2 ∨ j = 3 := by omega
  rcases this with rfl | rfl | rfl | rfl <;> exact hj
set_option maxHeartbeats 2000000 in
set_option maxRecDepth 100000 in
theorem ask_any {g : Nat} {T : Tab} (c r : Int) (w : World) (h : TabAt w g T) : Calls Try.prog 16 #[.pointer (some ⟨g, 0, none⟩), .int .i64 c, .int .i64 r] w (Asks (askT T c r) w) := by
  by_cases hk : okC c r = true
  · obtain ⟨w0, hw0⟩ : ∃ w0, w0 = w.alloc (.cells Rep.zero.cells.toArray 29 (0, 0)) := ⟨_, rfl⟩
    have B0 : Hid (Below w.heap.size w w0) := by rw [hw0]; exact (Below.refl _ _).alloc (Nat.le_refl _) _
    have X0 : Hid (RepAt w0 w.heap.size .zero) := by rw [hw0]; exact RepAt.new w
    have C := wrong_yes c r w0 (h.later B0.out)
    have C2 := hide (of_any c w0 (h.later B0.out))
    have HW0 := hide hw0
    clear h hw0
    rw [wrong_is hk] at C
    have C1 := hide C
    clear C
    obtain ⟨m, hm⟩ : ∃ m, m = T.of c := ⟨_, rfl⟩
    have HR : askT T c r = askM m r := by unfold askT; rw [if_pos hk, hm]
    rw [HR]
    rw [← hm] at C2
    clear hm hk HR
    by_cases hd : r = m.done
    · have HR : Hid (askM m r = (3, m.rep)) := by show _ = _; unfold askM; rw [if_pos hd]
      have hd2 : (r == m.done) = true := by simpa using hd
      clear hd
      go_enter Try.func16, Try.ntmps16
      go_wp2_with (fail)
      rw [show (#[.int .i64 0, .int .i64 0, .int .i64 0, .int .i64 0] : Array Value) = Rep.zero.cells.toArray from rfl, ← HW0.out]
      refine C1.out.mono ?_
      rintro e w1 ⟨rfl, rfl⟩
      go_wp2_with (fail)
      refine C2.out.mono ?_
      rintro e w1 ⟨rfl, hb1⟩
      have HB1 := hide hb1
      clear hb1
      go_wp2_with (first
        | (refine wpList_store_mry (m := m) (by rfl) _ _ (by rfl) (by rfl) (MryAt.new w1) (by rfl) ?_; intro w2 hx2 hg2; have HX2 := hide hx2; have HG2 := hide hg2; have k1 := hx2.cell1; have k0 := hx2.cell0; clear hx2 hg2; have HB2 : Hid (Below w0.heap.size w0 w2) := (HB1.out.alloc HB1.out.size _).grown HG2.out (Nat.le_trans HB1.out.size (by simp)) (fun k hk => by have := Option.some.inj hk; have := HB1.out.size; omega); have HX0 := hide (X0.out.later HB2.out))
        | (refine wpList_store_rep (m := .zero) (by rfl) _ _ (by rfl) (by rfl) HX0.out (by rfl) ?_; intro w3 hx3 hg3))
      go_wp2
      have HX0d := hide (X0.out.later (HB2.out.trans (Below.refl _ _).drew))
      refine wp_region_S (fun j => j == 3) (by kernel_rfl) ?_
      refine wpAnyS_take (i := 0) (d := some 23) (v := .pointer (some ⟨w1.heap.size, 2, none⟩)) rfl rfl (by kernel_rfl) (by kernel_rfl) (by kernel_rfl) (by kernel_rfl) (by kernel_rfl) (fun _ _ _ h => h) (by rfl) ?yak0 ?_
      case yak0 => (intro w' hw'; go_simp; try (with_reducible rfl))
      simp only [Act.put]; try simp only [List.setIfInBounds_toArray]; try simp only [List.set_cons_zero, List.set_cons_succ]
      refine wpAnyS_take (i := 1) (d := some 24) (v := m.rep.val) rfl rfl (by kernel_rfl) (by kernel_rfl) (by kernel_rfl) (by kernel_rfl) (by kernel_rfl) (fun _ _ _ h => h) (by rfl) ?yak1 ?_
      case yak1 => (intro w' hw'; exact exec_load_range 29 _ (by rfl) w1.heap.size 2 (by rfl) m.rep.cells (mry_reply (HX2.out.later ((Below.refl _ _).drew.trans hw'))) _ Try.underlying29 (by rfl) (by kernel_rfl))
      simp only [Act.put]; try simp only [List.setIfInBounds_toArray]; try simp only [List.set_cons_zero, List.set_cons_succ]
      refine wpAnyS_take (i := 2) (d := some 6) (v := ?vak2) rfl rfl (by kernel_rfl) (by kernel_rfl) (by kernel_rfl) (by kernel_rfl) (by kernel_rfl) (fun _ _ _ h => h) (by rfl) ?yak2 ?_
      case yak2 => (intro w' hw'; go_simp; try (with_reducible rfl))
      simp only [Act.put]; try simp only [List.setIfInBounds_toArray]; try simp only [List.set_cons_zero, List.set_cons_succ]
      refine wpAnyS_write (i := 3) rfl rfl (by kernel_rfl) (by rfl) fun K hK => ?_
      refine wp_store_rep (m := m.rep) _ _ (by rfl) (by rfl) HX0d.out (by rfl) ?_
      intro w3 hx3 hg3
      have HX3 := hide hx3
      have HG3 := hide hg3
      clear hx3 hg3
      refine hK.out _ _ ?_
      clear hK K
      try simp only [Act.put]
      refine wpAnyS_done (by kernel_rfl) ?_ _
      go_wp2
      have hx3 := HX3.out
      have hg3 : w2.grownBy w3 (some w.heap.size) := (grown_drewN _ _ 1).trans HG3.out
      refine bodyPost_ret (results_12 Try.results16 _ _ w.heap.size 29 _ _ (by rfl) hx3 Try.underlying29 (by rfl) (by kernel_rfl) _ (by rfl)) (by rfl) ?_
      have HBE := B0.out.trans (HB2.out.mono B0.out.size)
      unfold Asks
      rw [HR.out]
      exact ⟨rfl, HBE.grown hg3 HBE.size (fun k hk => by have := Option.some.inj hk; omega)⟩
    by_cases hl : r = m.last
    · have HR : Hid (askM m r = (2, .zero)) := by show _ = _; unfold askM; rw [if_neg hd, if_pos hl]
      have hd2 : (r == m.done) = false := by simpa using hd
      have hl2 : (r == m.last) = true := by simpa using hl
      clear hd hl
      go_enter Try.func16, Try.ntmps16
      go_wp2_with (fail)
      rw [show (#[.int .i64 0, .int .i64 0, .int .i64 0, .int .i64 0] : Array Value) = Rep.zero.cells.toArray from rfl, ← HW0.out]
      refine C1.out.mono ?_
      rintro e w1 ⟨rfl, rfl⟩
      go_wp2_with (fail)
      refine C2.out.mono ?_
      rintro e w1 ⟨rfl, hb1⟩
      have HB1 := hide hb1
      clear hb1
      go_wp2_with (first
        | (refine wpList_store_mry (m := m) (by rfl) _ _ (by rfl) (by rfl) (MryAt.new w1) (by rfl) ?_; intro w2 hx2 hg2; have HX2 := hide hx2; have HG2 := hide hg2; have k1 := hx2.cell1; have k0 := hx2.cell0; clear hx2 hg2; have HB2 : Hid (Below w0.heap.size w0 w2) := (HB1.out.alloc HB1.out.size _).grown HG2.out (Nat.le_trans HB1.out.size (by simp)) (fun k hk => by have := Option.some.inj hk; have := HB1.out.size; omega); have HX0 := hide (X0.out.later HB2.out))
        | (refine wpList_store_rep (m := .zero) (by rfl) _ _ (by rfl) (by rfl) HX0.out (by rfl) ?_; intro w3 hx3 hg3))
      refine bodyPost_ret (results_12 Try.results16 _ _ w.heap.size 29 _ _ (by rfl) hx3 Try.underlying29 (by rfl) (by kernel_rfl) _ (by rfl)) (by rfl) ?_
      have HBE := B0.out.trans (HB2.out.mono B0.out.size)
      unfold Asks
      rw [HR.out]
      exact ⟨rfl, HBE.grown hg3 HBE.size (fun k hk => by have := Option.some.inj hk; omega)⟩
    have hd2 : (r == m.done) = false := by simpa using hd
    have hl2 : (r == m.last) = false := by simpa using hl
    by_cases hn : m.last < r
    · have HR : Hid (askM m r = (1, .zero)) := by show _ = _; unfold askM; rw [if_neg hd, if_neg hl, if_pos hn]
      have q1 : ¬ m.started r = m := by
        rw [mry_iff]
        unfold Mry.started
        simp only
        omega
      have eql_q := fun w => neq_mry (m.started r) m w
      simp only [q1, decide_false, Bool.not_false] at eql_q
      clear hd hl hn q1
      go_enter Try.func16, Try.ntmps16
      go_wp2_with (fail)
      rw [show (#[.int .i64 0, .int .i64 0, .int .i64 0, .int .i64 0] : Array Value) = Rep.zero.cells.toArray from rfl, ← HW0.out]
      refine C1.out.mono ?_
      rintro e w1 ⟨rfl, rfl⟩
      go_wp2_with (fail)
      refine C2.out.mono ?_
      rintro e w1 ⟨rfl, hb1⟩
      have HB1 := hide hb1
      clear hb1
      go_wp2_with (first
        | (refine wpList_store_mry (m := m) (by rfl) _ _ (by rfl) (by rfl) (MryAt.new w1) (by rfl) ?_; intro w2 hx2 hg2; have HX2 := hide hx2; have HG2 := hide hg2; have k1 := hx2.cell1; have k0 := hx2.cell0; clear hx2 hg2; have HB2 : Hid (Below w0.heap.size w0 w2) := (HB1.out.alloc HB1.out.size _).grown HG2.out (Nat.le_trans HB1.out.size (by simp)) (fun k hk => by have := Option.some.inj hk; have := HB1.out.size; omega); have HX0 := hide (X0.out.later HB2.out))
        | (refine wpList_store_rep (m := .zero) (by rfl) _ _ (by rfl) (by rfl) HX0.out (by rfl) ?_; intro w3 hx3 hg3))
      go_wp2
      refine wp_region_L (by kernel_rfl) ?_
      refine wpAnyL_take (i := 0) (d := some 32) (v := m.val) rfl rfl (by kernel_rfl) (by kernel_rfl) (by kernel_rfl) (fun _ _ _ h => h) (by rfl) ?yaqtrue0 ?_
      case yaqtrue0 => (intro w' hw'; exact exec_load_mry _ (by rfl) (by rfl) (HX2.out.later ((Below.refl _ _).drew.trans hw')))
      simp only [Act.put]; try simp only [List.setIfInBounds_toArray]; try simp only [List.set_cons_zero, List.set_cons_succ]
      refine wpAnyL_take (i := 1) (d := some 33) (v := ?vaqtrue1) rfl rfl (by kernel_rfl) (by kernel_rfl) (by kernel_rfl) (fun _ _ _ h => h) (by rfl) ?yaqtrue1 ?_
      case yaqtrue1 => (intro w' hw'; go_simp; try (with_reducible rfl))
      simp only [Act.put]; try simp only [List.setIfInBounds_toArray]; try simp only [List.set_cons_zero, List.set_cons_succ]
      refine wpAnyL_take (i := 3) (d := some 35) (v := m.val) rfl rfl (by kernel_rfl) (by kernel_rfl) (by kernel_rfl) (fun _ _ _ h => h) (by rfl) ?yaqtrue3 ?_
      case yaqtrue3 => (intro w' hw'; exact exec_load_mry _ (by rfl) (by rfl) (HX2.out.later ((Below.refl _ _).drew.trans hw')))
      simp only [Act.put]; try simp only [List.setIfInBounds_toArray]; try simp only [List.set_cons_zero, List.set_cons_succ]
      refine wpAnyL_only (i := 2) rfl (by kernel_rfl) (by rfl) fun K hK => ?_
      go_simp
      refine (started_any m r _).mono ?_
      rintro e w4 ⟨rfl, hb4⟩
      have HB4 : Hid (Below w2.heap.size w2 w4) := (Below.refl _ _).drew.trans hb4
      refine hK.out _ _ hb4 ?_
      clear hb4
      clear hK K
      try (simp only [Act.put]; try simp only [List.setIfInBounds_toArray]; try simp only [List.set_cons_zero, List.set_cons_succ])
      refine wpAnyL_take (i := 4) (d := some 36) (v := .bool true) rfl rfl (by kernel_rfl) (by kernel_rfl) (by kernel_rfl) (fun _ _ _ h => h) (by rfl) ?yaqtrue4 ?_
      case yaqtrue4 => (intro w' hw'; have q4 := eql_q w'; go_simp; try (with_reducible rfl))
      simp only [Act.put]; try simp only [List.setIfInBounds_toArray]; try simp only [List.set_cons_zero, List.set_cons_succ]
      refine wpAnyL_take (i := 5) (d := some 31) (v := ?vaqtrue5) rfl rfl (by kernel_rfl) (by kernel_rfl) (by kernel_rfl) (fun _ _ _ h => h) (by rfl) ?yaqtrue5 ?_
      case yaqtrue5 => (intro w' hw'; go_simp; try (with_reducible rfl))
      simp only [Act.put]; try simp only [List.setIfInBounds_toArray]; try simp only [List.set_cons_zero, List.set_cons_succ]
      refine wpAnyL_done (by kernel_rfl) ?_ _
      go_wp2_with (refine wpList_store_rep (m := .zero) (by rfl) _ _ (by rfl) (by rfl) (HX0.out.later HB4.out) (by rfl) ?_; intro w3 hx3 hg3)
      refine bodyPost_ret (results_12 Try.results16 _ _ w.heap.size 29 _ _ (by rfl) hx3 Try.underlying29 (by rfl) (by kernel_rfl) _ (by rfl)) (by rfl) ?_
      have HBE := B0.out.trans ((HB2.out.trans (HB4.out.mono HB2.out.size)).mono B0.out.size)
      unfold Asks
      rw [HR.out]
      exact ⟨rfl, HBE.grown hg3 HBE.size (fun k hk => by have := Option.some.inj hk; omega)⟩
    · have HR : Hid (askM m r = (4, .zero)) := by show _ = _; unfold askM; rw [if_neg hd, if_neg hl, if_neg hn]
      have q1 : m.started r = m := by unfold Mry.started; rw [show max m.last r = m.last from by omega]
      have eql_q := fun w => neq_mry m m w
      simp only [decide_true, Bool.not_true] at eql_q
      have CS := hide (started_any m r)
      rw [q1] at CS
      clear hd hl hn q1
      go_enter Try.func16, Try.ntmps16
      go_wp2_with (fail)
      rw [show (#[.int .i64 0, .int .i64 0, .int .i64 0, .int .i64 0] : Array Value) = Rep.zero.cells.toArray from rfl, ← HW0.out]
      refine C1.out.mono ?_
      rintro e w1 ⟨rfl, rfl⟩
      go_wp2_with (fail)
      refine C2.out.mono ?_
      rintro e w1 ⟨rfl, hb1⟩
      have HB1 := hide hb1
      clear hb1
      go_wp2_with (first
        | (refine wpList_store_mry (m := m) (by rfl) _ _ (by rfl) (by rfl) (MryAt.new w1) (by rfl) ?_; intro w2 hx2 hg2; have HX2 := hide hx2; have HG2 := hide hg2; have k1 := hx2.cell1; have k0 := hx2.cell0; clear hx2 hg2; have HB2 : Hid (Below w0.heap.size w0 w2) := (HB1.out.alloc HB1.out.size _).grown HG2.out (Nat.le_trans HB1.out.size (by simp)) (fun k hk => by have := Option.some.inj hk; have := HB1.out.size; omega); have HX0 := hide (X0.out.later HB2.out))
        | (refine wpList_store_rep (m := .zero) (by rfl) _ _ (by rfl) (by rfl) HX0.out (by rfl) ?_; intro w3 hx3 hg3))
      go_wp2
      refine wp_region_L (by kernel_rfl) ?_
      refine wpAnyL_take (i := 0) (d := some 32) (v := m.val) rfl rfl (by kernel_rfl) (by kernel_rfl) (by kernel_rfl) (fun _ _ _ h => h) (by rfl) ?yaqfalse0 ?_
      case yaqfalse0 => (intro w' hw'; exact exec_load_mry _ (by rfl) (by rfl) (HX2.out.later ((Below.refl _ _).drew.trans hw')))
      simp only [Act.put]; try simp only [List.setIfInBounds_toArray]; try simp only [List.set_cons_zero, List.set_cons_succ]
      refine wpAnyL_take (i := 1) (d := some 33) (v := ?vaqfalse1) rfl rfl (by kernel_rfl) (by kernel_rfl) (by kernel_rfl) (fun _ _ _ h => h) (by rfl) ?yaqfalse1 ?_
      case yaqfalse1 => (intro w' hw'; go_simp; try (with_reducible rfl))
      simp only [Act.put]; try simp only [List.setIfInBounds_toArray]; try simp only [List.set_cons_zero, List.set_cons_succ]
      refine wpAnyL_take (i := 3) (d := some 35) (v := m.val) rfl rfl (by kernel_rfl) (by kernel_rfl) (by kernel_rfl) (fun _ _ _ h => h) (by rfl) ?yaqfalse3 ?_
      case yaqfalse3 => (intro w' hw'; exact exec_load_mry _ (by rfl) (by rfl) (HX2.out.later ((Below.refl _ _).drew.trans hw')))
      simp only [Act.put]; try simp only [List.setIfInBounds_toArray]; try simp only [List.set_cons_zero, List.set_cons_succ]
      refine wpAnyL_only (i := 2) rfl (by kernel_rfl) (by rfl) fun K hK => ?_
      go_simp
      refine (CS.out _).mono ?_
      rintro e w4 ⟨rfl, hb4⟩
      have HB4 : Hid (Below w2.heap.size w2 w4) := (Below.refl _ _).drew.trans hb4
      refine hK.out _ _ hb4 ?_
      clear hb4
      clear hK K
      try (simp only [Act.put]; try simp only [List.setIfInBounds_toArray]; try simp only [List.set_cons_zero, List.set_cons_succ])
      refine wpAnyL_take (i := 4) (d := some 36) (v := .bool false) rfl rfl (by kernel_rfl) (by kernel_rfl) (by kernel_rfl) (fun _ _ _ h => h) (by rfl) ?yaqfalse4 ?_
      case yaqfalse4 => (intro w' hw'; have q4 := eql_q w'; go_simp; try (with_reducible rfl))
      simp only [Act.put]; try simp only [List.setIfInBounds_toArray]; try simp only [List.set_cons_zero, List.set_cons_succ]
      refine wpAnyL_take (i := 5) (d := some 31) (v := ?vaqfalse5) rfl rfl (by kernel_rfl) (by kernel_rfl) (by kernel_rfl) (fun _ _ _ h => h) (by rfl) ?yaqfalse5 ?_
      case yaqfalse5 => (intro w' hw'; go_simp; try (with_reducible rfl))
      simp only [Act.put]; try simp only [List.setIfInBounds_toArray]; try simp only [List.set_cons_zero, List.set_cons_succ]
      refine wpAnyL_done (by kernel_rfl) ?_ _
      go_wp2_with (refine wpList_store_rep (m := .zero) (by rfl) _ _ (by rfl) (by rfl) (HX0.out.later HB4.out) (by rfl) ?_; intro w3 hx3 hg3)
      refine bodyPost_ret (results_12 Try.results16 _ _ w.heap.size 29 _ _ (by rfl) hx3 Try.underlying29 (by rfl) (by kernel_rfl) _ (by rfl)) (by rfl) ?_
      have HBE := B0.out.trans ((HB2.out.trans (HB4.out.mono HB2.out.size)).mono B0.out.size)
      unfold Asks
      rw [HR.out]
      exact ⟨rfl, HBE.grown hg3 HBE.size (fun k hk => by have := Option.some.inj hk; omega)⟩
  · have hk : okC c r = false := by simpa using hk
    exact asks_zero _ c r w (err := 2) (by decide) (by unfold askT; rw [hk]; rfl) (fun w' hb => by
      have := wrong_yes c r w' (h.later hb)
      rwa [wrong_is2 hk] at this)

end Go.Proofs.Ytmakibpbodfchaa
