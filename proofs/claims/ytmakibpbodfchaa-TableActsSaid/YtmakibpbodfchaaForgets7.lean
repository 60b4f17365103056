/- The walk over droverlaw07.TableForgets: what was started and not finished is new again, once that is forgotten. -/
import Derived.Test.YtmakibpbodfchaaLives7
import Derived.Test.YtmakibpbodfchaaAct7
import Derived.Test.YtmakibpbodfchaaChain
namespace Go.Proofs.Ytmakibpbodfchaa
open Go.RowKit

theorem put_of (T : Tab) {c : Int} (h : isC c = true) (m : Mry) : (T.put c m).of c = m := by
  unfold Tab.of
  rw [if_pos h]
  rcases isC_cases h with rfl | rfl | rfl | rfl <;> rfl
theorem put_else (T : Tab) {c d : Int} (h : isC c = true) (hd : d ≠ c) (m : Mry) : (T.put c m).of d = T.of d := by
  unfold Tab.of
  rcases hq : isC d with _ | _
  · rfl
  · rcases isC_cases h with rfl | rfl | rfl | rfl <;> rcases isC_cases hq with rfl | rfl | rfl | rfl <;> first | (exact absurd rfl hd) | rfl
theorem forgotten_of (T : Tab) {c : Int} (h : isC c = true) : T.forgotten.of c = (T.of c).forgotten := by
  unfold Tab.of
  rw [if_pos h, if_pos h]
  rcases isC_cases h with rfl | rfl | rfl | rfl <;> rfl
theorem zero_of (c : Int) : Tab.zero.of c = .zero := by
  unfold Tab.of Tab.get
  split
  · split
    · rfl
    · split
      · rfl
      · split <;> rfl
  · rfl
theorem Own.other {w0 w w' : World} {g g2 : Nat} {T : Tab} (h : Own w0 w g2 T) (hg : w.grownBy w' (some g)) (hne : g2 ≠ g) (h0 : w0.heap.size ≤ g) : Own w0 w' g2 T :=
  ⟨h.1, h.2.1.other hg (fun e => hne (Option.some.inj e)), h.2.2.grown hg h.2.2.size (fun k hk => by have := Option.some.inj hk; omega)⟩
theorem own_copy {w0 w : World} {g : Nat} {T : Tab} (h : Own w0 w g T) : Calls Try.prog 22 #[.pointer (some ⟨g, 0, none⟩)] w fun e w' => ∃ g2, e = .returned (.pointer (some ⟨g2, 0, none⟩)) ∧ g2 ≠ g ∧ Own w0 w' g2 T ∧ Own w0 w' g T ∧ Below w.heap.size w w' :=
  (copy_any w h.at_).mono fun _ _ ⟨g2, he, h1, h2, h3⟩ => ⟨g2, he, by have := h.at_.lt; omega, ⟨Nat.le_trans h.2.2.size h1, h2, h.2.2.trans (h3.mono h.2.2.size)⟩, h.later h3, h3⟩

/-- What is asked in the law, of a client that there is. -/
structure Fgt (c d s : Int) (x : Rep) (T1 T2 : Tab) : Prop where
  f0 : (finishT .zero c d x).1 = 0
  t1 : (finishT .zero c d x).2 = T1
  s0 : (startT T1 c s).1 = 0
  t2 : (startT T1 c s).2 = T2
  a1 : askT T2.forgotten c d = (3, x)
  a2 : askT T2.forgotten c s = (1, .zero)
  a3 : askT T2 c s = (2, .zero)
  l : (T2.forgotten.of c).last = d
theorem fgt_mk {c d s : Int} {x : Rep} (hc : isC c = true) (hd : 1 ≤ d) (hs : d < s) : ∃ T1 T2, Fgt c d s x T1 T2 := by
  have k1 : okC c d = true := okC_mk hc hd
  have k2 : okC c s = true := okC_mk hc (by omega)
  have e1 : finishT .zero c d x = (0, Tab.zero.put c ⟨d, d, x⟩) := by
    unfold finishT
    rw [if_pos k1, zero_of]
    rw [if_neg (by show ¬ d < 0; omega), if_neg (by show ¬ d = 0; omega)]
    unfold Mry.finished
    rw [show max Mry.zero.last d = d from by show max 0 d = d; omega]
  have e2 : startT (Tab.zero.put c ⟨d, d, x⟩) c s = (0, (Tab.zero.put c ⟨d, d, x⟩).put c ⟨s, d, x⟩) := by
    unfold startT
    rw [if_pos k2, put_of _ hc]
    rw [if_neg (by show ¬ s ≤ d; omega)]
    unfold Mry.started
    rw [show max d s = s from by omega]
  have o2 : ((Tab.zero.put c ⟨d, d, x⟩).put c ⟨s, d, x⟩).of c = ⟨s, d, x⟩ := put_of _ hc _
  have o3 : ((Tab.zero.put c ⟨d, d, x⟩).put c ⟨s, d, x⟩).forgotten.of c = ⟨d, d, x⟩ := by rw [forgotten_of _ hc, o2]; rfl
  refine ⟨_, _, ⟨by rw [e1], by rw [e1], by rw [e2], by rw [e2], ?_, ?_, ?_, by rw [o3]⟩⟩
  · unfold askT
    rw [if_pos k1, o3]
    unfold askM
    rw [if_pos rfl]
  · unfold askT
    rw [if_pos k2, o3]
    unfold askM
    rw [if_neg (by show ¬ s = d; omega), if_neg (by show ¬ s = d; omega), if_pos (by show d < s; omega)]
  · unfold askT
    rw [if_pos k2, o2]
    unfold askM
    rw [if_neg (by show ¬ s = d; omega), if_pos rfl]

set_option maxHeartbeats 8000000 in
set_option maxRecDepth 100000 in
theorem law_forgets (c d s : Int) (x : Rep) (w : World) (_ : I64 c) (_ : I64 d) (_ : I64 s) (_ : x.wf) : Calls Try.prog 5 #[.int .i64 c, .agg #[.int .i64 d, .int .i64 s], .agg x.cells.toArray] w fun e w' => e = .returned (.bool true) ∧ Below w.heap.size w w' := by
  obtain ⟨w1, hw1⟩ : ∃ w1, w1 = (w.alloc (.cells #[.int .i64 d, .int .i64 s] 46 (0, 0))).alloc (.cells x.cells.toArray 29 (0, 0)) := ⟨_, rfl⟩
  have B1 : Hid (Below w.heap.size w w1) := by
    rw [hw1]
    exact ((Below.refl _ _).alloc (Nat.le_refl _) _).alloc (by simp) _
  have X1 : Hid (RepAt w1 (w.heap.size + 1) x) := by rw [hw1]; exact heap_second _ _ _
  have P1 : w1.heap[w.heap.size]? = some (.cells #[.int .i64 d, .int .i64 s] 46 (0, 0)) := by
    rw [hw1]
    exact (heap_alloc_old _ _ (by simp)).trans (heap_alloc_new _ _)
  have p0 : w1.cell? ⟨w.heap.size, 0, none⟩ = some (.int .i64 d) := by rw [cell_of_row _ _ _ _ _ _ P1]; rfl
  have p1 : w1.cell? ⟨w.heap.size, 1, none⟩ = some (.int .i64 s) := by rw [cell_of_row _ _ _ _ _ _ P1]; rfl
  have HW1 := hide hw1
  clear hw1 P1
  by_cases hgood : (1 ≤ c ∧ c ≤ 4) ∧ 1 ≤ d ∧ d < s
  · obtain ⟨⟨hc1, hc4⟩, hd1, hs1⟩ := hgood
    obtain ⟨T1, T2, hf⟩ := fgt_mk (x := x) (isC_mk hc1 hc4) hd1 hs1
    have HF := hide hf
    clear hf
    have b1 : decide (c < 1) = false := by simp; omega
    have b2 : decide (4 < c) = false := by simp; omega
    have b3 : decide (d < 1) = false := by simp; omega
    have b4 : decide (s ≤ d) = false := by simp; omega
    clear hc1 hc4 hd1 hs1
    have q := fun w' => eql_rep x x w'
    simp only [decide_true] at q
    go_enter Try.func5, Try.ntmps5
    go_wp2_with (fail)
    rw [← HW1.out]
    go_region
    go_wp2_with (fail)
    refine (own_new w _ (B1.out.trans (below_drewN _ _ 1))).mono ?_
    rintro e w2 ⟨g, rfl, o2, hg2, hb2⟩
    have O2 := hide o2
    have X2 := hide (X1.out.later ((below_drewN _ w1 1).trans hb2))
    have HG2 := hide hg2
    clear o2 hg2 hb2 p0 p1
    go_wp2_with (refine wpList_load_rep (by rfl) _ (by rfl) (by rfl) X2.out ?_)
    refine (own_finish O2.out c d x).mono ?_
    rw [HF.out.f0, HF.out.t1]
    rintro e w3 ⟨rfl, o3, hg3⟩
    have HN : Hid (w.heap.size + 1 ≠ g) := by
      have h1 : w1.heap.size ≤ g := HG2.out
      have h2 := X1.out.lt
      show _ ≠ _
      omega
    have O3 := hide o3
    have X3 := hide (X2.out.other hg3 (fun e => HN.out (Option.some.inj e)))
    clear o3 hg3
    go_wp2_with (fail)
    refine (own_start O3.out c s).mono ?_
    rw [HF.out.s0, HF.out.t2]
    rintro e w4 ⟨rfl, o4, hg4⟩
    have O4 := hide o4
    have X4 := hide (X3.out.other hg4 (fun e => HN.out (Option.some.inj e)))
    clear o4 hg4
    go_wp2_with (fail)
    refine (own_copy O4.out).mono ?_
    rintro e w5 ⟨g2, rfl, hne, c5, o5, hb5⟩
    have O5 := hide o5
    have C5 := hide c5
    have HNE := hide hne
    have X5 := hide (X4.out.later hb5)
    clear o5 c5 hne hb5
    go_wp2_with (fail)
    refine (own_forget O5.out).mono ?_
    rintro e w6 ⟨rfl, o6, hg6⟩
    have O6 := hide o6
    have C6 := hide (C5.out.other hg6 HNE.out O5.out.1)
    have X6 := hide (X5.out.other hg6 (fun e => HN.out (Option.some.inj e)))
    clear o6 hg6
    go_wp2_with (fail)
    refine (own_ask O6.out c d).mono ?_
    rw [HF.out.a1]
    rintro e w7 ⟨rfl, o7, hb7⟩
    have O7 := hide o7
    have C7 := hide (C6.out.later hb7)
    have X7 := hide (X6.out.later hb7)
    clear o7 hb7
    go_wp2_with (refine wpList_store_rep (m := x) (by rfl) _ _ (by rfl) (by rfl) (RepAt.new w7) (by rfl) ?_; intro w8 hx hg; have O8 := hide (O7.out.later (below_new hg)); have C8 := hide (C7.out.later (below_new hg)); have X8 := hide (X7.out.later (below_new hg)); have Y8 := hide hx; clear hx hg)
    refine (own_ask O8.out c s).mono ?_
    rw [HF.out.a2]
    rintro e w9 ⟨rfl, o9, hb9⟩
    have O9 := hide o9
    have C9 := hide (C8.out.later hb9)
    have X9 := hide (X8.out.later hb9)
    have Y9 := hide (Y8.out.later hb9)
    clear o9 hb9
    go_wp2_with (refine wpList_store_rep (m := .zero) (by rfl) _ _ (by rfl) (by rfl) (RepAt.new w9) (by rfl) ?_; intro w10 hx hg; have O10 := hide (O9.out.later (below_new hg)); have C10 := hide (C9.out.later (below_new hg)); have X10 := hide (X9.out.later (below_new hg)); have Y10 := hide (Y9.out.later (below_new hg)); clear hx hg)
    refine (own_ask C10.out c s).mono ?_
    rw [HF.out.a3]
    rintro e w11 ⟨rfl, _, hb11⟩
    have O11 := hide (O10.out.later hb11)
    have X11 := hide (X10.out.later hb11)
    have Y11 := hide (Y10.out.later hb11)
    clear hb11
    go_wp2_with (first
      | (refine wpList_store_rep (m := .zero) (by rfl) _ _ (by rfl) (by rfl) (RepAt.new w11) (by rfl) ?_; intro w12 hx hg; have O12 := hide (O11.out.later (below_new hg)); have X12 := hide (X11.out.later (below_new hg)); have Y12 := hide (Y11.out.later (below_new hg)); clear hx hg)
      | (refine wpList_val rfl (by rfl) (exec_load_rep _ (by rfl) (by rfl) Y12.out) ?_)
      | (refine wpList_val rfl (by rfl) (exec_load_rep _ (by rfl) (by rfl) X12.out) ?_))
    refine (own_last O12.out c).mono ?_
    rw [HF.out.l]
    rintro e w13 ⟨rfl, o13, _⟩
    have O13 := hide o13
    clear o13
    go_wp2_with (fail)
    refine (lives_any _).mono ?_
    rintro e w14 ⟨rfl, hb14⟩
    have O14 := hide (O13.out.later hb14)
    clear hb14
    go_wp2
    go_ret
    exact ⟨rfl, O14.out.2.2⟩
  · have hb : c < 1 ∨ (1 ≤ c ∧ 4 < c) ∨ (1 ≤ c ∧ c ≤ 4 ∧ d < 1) ∨ (1 ≤ c ∧ c ≤ 4 ∧ 1 ≤ d ∧ s ≤ d) := by omega
    clear hgood
    rcases hb with b1 | ⟨b1, b2⟩ | ⟨b1, b2, b3⟩ | ⟨b1, b2, b3, b4⟩
    all_goals
      go_enter Try.func5, Try.ntmps5
      go_wp2_with (fail)
      rw [← HW1.out]
      go_region
      go_wp2_with (fail)
      refine (own_new w _ (B1.out.trans (below_drewN _ _ 1))).mono ?_
      rintro e w2 ⟨g, rfl, o2, hg2, hb2⟩
      have O2 := hide o2
      clear o2 hg2 hb2 p0 p1
      go_wp2_with (fail)
      refine (lives_any _).mono ?_
      rintro e w14 ⟨rfl, hb14⟩
      have O14 := hide (O2.out.later hb14)
      clear hb14
      go_wp2
      go_ret
      exact ⟨rfl, O14.out.2.2⟩
end Go.Proofs.Ytmakibpbodfchaa
