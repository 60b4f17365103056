/- The walk over droverlaw10.VrMeets: merged incarnations are as great as both. -/
import Derived.Test.YtflphpjfmbkeiaaLives10
import Derived.Test.YtflphpjfmbkeiaaStale
import Derived.Test.YtflphpjfmbkeiaaChain
import Derived.Deep.QuietTactic
import Derived.BigQuiet
namespace Go.Proofs.Ytflphpjfmbkeiaa
open Go.RowKit

/-- Who is stale by one list is by the merged one. -/
theorem stale_merge {a b : List Int} {m : MsgD} (h : staleB a m = true) : staleB (mergeL a b) m = true := by
  by_cases ho : m.src < 1 ∨ (a.length : Int) < m.src ∨ (m.incs.length : Int) < m.src
  · exact stale_out (by rw [mergeL_len]; exact ho)
  · obtain ⟨p, hp⟩ : ∃ p : Nat, m.src = (p : Int) + 1 := ⟨(m.src - 1).toNat, by omega⟩
    rw [stale_in hp (by omega) (by omega)] at h
    rw [stale_in hp (by rw [mergeL_len]; omega) (by omega), mergeL_get _ _ (by omega)]
    simp only [decide_eq_true_eq] at h ⊢
    omega

set_option maxHeartbeats 8000000 in
set_option maxRecDepth 100000 in
theorem law_meets (u : Value) (a : List Int) (v : Value) (b : List Int) (m : MsgD) (s o i : Value) (w : World) (ha : SlI (· < w.heap.size) w u a) (_fa : Fit a) (hb : SlI (· < w.heap.size) w v b) (_fb : Fit b) (hL : Lists (· < w.heap.size) w m s o i) (hwf : m.wf) :
    Calls Try.prog 5 #[u, v, .agg (m.cells s o i).toArray] w fun e w' => e = .returned (.bool true) ∧ Below w.heap.size w w' := by
  have LV := hide lives_any
  obtain ⟨W1, hW1⟩ : ∃ W1, W1 = w.alloc (.cells (m.cells s o i).toArray 40 (0, 0)) := ⟨_, rfl⟩
  have HB1 : Hid (Later w W1) := by rw [hW1]; exact (Below.refl _ _).alloc (Nat.le_refl _) _
  have HX : Hid (∀ w', Later W1 w' → w'.heap[w.heap.size]? = some (.cells (m.cells s o i).toArray 40 (0, 0))) := fun w' h => by
    rw [hW1] at h
    exact (Below.block h w.heap.size (by simp)).trans (heap_alloc_new _ _)
  have HE := hide hW1
  obtain ⟨A, ca, rfl, h1, h2⟩ := ha.shape
  obtain ⟨A2, cb, rfl, h3, h4⟩ := hb.shape
  obtain ⟨_, _, k3⟩ := hL.cell
  obtain ⟨A3, ci, rfl, h5, h6, _⟩ := FlatAt.shape hL.2.2
  obtain ⟨k1, k2, _⟩ := hL.cell
  have K1 := hide k1
  have K2 := hide k2
  have HA : Hid (∀ w', Later W1 w' → SlI (· < w.heap.size) w' (.slice A a.length ca) a) := fun w' h => ha.kept (Kept.of_below (HB1.out.trans h) _)
  have HBB : Hid (∀ w', Later W1 w' → SlI (· < w.heap.size) w' (.slice A2 b.length cb) b) := fun w' h => hb.kept (Kept.of_below (HB1.out.trans h) _)
  have HI : Hid (∀ w', Later W1 w' → IncsAt (· < w.heap.size) w' (.slice A3 m.incs.length ci) m.incs) := fun w' h => hL.2.2.kept (Kept.of_below (HB1.out.trans h) _)
  have HSRC := hide hwf.2.1
  have FA := hide _fa
  have FB := hide _fb
  obtain ⟨n, hn⟩ : ∃ n, a.length = n := ⟨_, rfl⟩
  obtain ⟨n2, hn2⟩ : ∃ n, b.length = n := ⟨_, rfl⟩
  obtain ⟨n3, hn3⟩ : ∃ n, m.incs.length = n := ⟨_, rfl⟩
  have l1 : n ≤ maxLen := by omega
  have l2 : n2 ≤ maxLen := by omega
  have l3 : n3 ≤ maxLen := by omega
  unfold maxLen at l1 l2 l3
  rw [hn] at HA ⊢
  rw [hn2] at HBB ⊢
  rw [hn3] at HI HX hW1 HE ⊢
  have c33 : (w.alloc (.cells (m.cells s o (.slice A3 n3 ci)).toArray 40 (0, 0))).cell? ⟨w.heap.size, 33, none⟩ = some (.slice A3 n3 ci) := box_cell (heap_alloc_new _ _) 33 _ (by rfl)
  have HN := hide hn
  have HN2 := hide hn2
  have HN3 := hide hn3
  clear ha hb hL hwf h1 h2 h3 h4 h5 h6 k1 k2 k3 hn hn2 hn3 _fa _fb hW1
  unfold MsgD.cells at c33 ⊢
  by_cases hgo : n = n2 ∧ n ≤ 100 ∧ n3 ≤ 200
  · obtain ⟨rfl, hn100, hn200⟩ := hgo
    have C1 := hide (merge_any (HA.out W1 (Below.refl _ _)) (HBB.out W1 (Below.refl _ _)) (by have := HN.out; omega))
    rw [HE.out] at C1
    have hnn : ((n : Int) != (n : Int)) = false := by simp
    go_enter Try.func5, Try.ntmps5
    go_wp2_with (fail)
    refine C1.out.mono ?_
    rintro e w1 ⟨X, nx, cx, rfl, hown, hh, _, hbl⟩
    rw [← HE.out] at hbl
    obtain rfl : nx = n := by have h := hh.1; rw [mergeL_len] at h; have := HN.out; omega
    have L1 : Hid (Later W1 w1) := hbl
    have HXI := hide hh
    have HXO := hide (SlI.of_own hown (merge_fit FA.out FB.out _))
    have C2 := hide (merge_any (HA.out w1 L1.out) (HBB.out w1 L1.out) (by have := HN.out; omega))
    clear hown hh hbl C1 c33
    go_wp2_with (fail)
    refine C2.out.mono ?_
    rintro e w2 ⟨Y, ny, cy, rfl, hown, hh, _, hbl⟩
    have L2 : Hid (Later W1 w2) := L1.out.trans hbl
    have LX2 : Hid (Later w1 w2) := hbl
    have C3 := hide (merge_any (SlI.of_own hown (merge_fit FA.out FB.out _)) (HBB.out w2 L2.out) (by rw [mergeL_len]; have := HN.out; omega))
    clear hown hh hbl C2
    go_wp2_with (fail)
    refine C3.out.mono ?_
    rintro e w3 ⟨Z, nz, cz, rfl, hown, hh, _, hbl⟩
    have L3 : Hid (Later W1 w3) := L2.out.trans hbl
    have hz : mergeL (mergeL a b) b = mergeL a b := merge_twice a b
    rw [hz] at hh
    obtain rfl : nz = nx := by have h := hh.1; rw [mergeL_len] at h; have := HN.out; omega
    have C4 := hide (refints_any X Z nz cx nz cz _ _ _ _ w3 (HXI.out.below (LX2.out.trans hbl)) hh (by omega) (by omega))
    rw [eqI_self] at C4
    have LX3 : Hid (Later w1 w3) := LX2.out.trans hbl
    clear hown hh hbl C3 hz
    go_wp2_with (fail)
    refine C4.out.mono ?_
    rintro e w4 ⟨rfl, q, hq⟩
    have L4 : Hid (Later W1 w4) := by rw [hq]; exact L3.out.trans (below_drewN _ _ _)
    have LX4 : Hid (Later w1 w4) := by rw [hq]; exact LX3.out.trans (below_drewN _ _ _)
    clear hq C4
    go_wp2
    go_loopw [46] (fun j wr => ∃ k : Nat, k ≤ nz ∧ j = .int .i64 (k : Int) ∧ Later w4 wr) (fun j _ => nz - (Go.RowKit.intOf j).toNat)
    case atStart => exact ⟨0, by omega, rfl, Below.refl _ _⟩
    case round =>
      obtain ⟨k, hk, rfl, hl⟩ := hrel
      have L5 : Hid (Later W1 wr) := L4.out.trans hl
      have LX5 : Hid (Later w1 wr) := LX4.out.trans hl
      have L45 := hide hl
      clear hl
      by_cases hkn : k < nz
      · obtain ⟨bx, ox, rfl, _, hcx⟩ := (HXI.out.below LX5.out).at_ hkn
        obtain ⟨b1, o1, rfl, _, hca⟩ := (HA.out wr L5.out).cell (i := k) hkn
        obtain ⟨b2, o2, rfl, _, hcb⟩ := (HBB.out wr L5.out).cell (i := k) hkn
        rw [mergeL_get a b (by have := HN.out; omega)] at hcx
        obtain ⟨y, hy⟩ : ∃ y, a.getD k 0 = y := ⟨_, rfl⟩
        obtain ⟨z, hz⟩ : ∃ z, b.getD k 0 = z := ⟨_, rfl⟩
        rw [hy] at hca
        rw [hz] at hcb
        rw [hy, hz] at hcx
        clear hy hz
        by_cases hyz : z ≤ y
        · rw [show max y z = y from by omega] at hcx
          have d1 : decide (y < y) = false := by simp
          have d2 : decide (y < z) = false := by simp; omega
          have d3 : (y != y) = false := by simp
          clear hyz
          go_wp2
          go_quiet (fail)
          go_wp2
          go_roundw
          case rel => exact ⟨k + 1, by omega, by go_num, L45.out.trans (below_drewN _ _ _)⟩
          case measure => simp [Go.RowKit.intOf]; omega
        · rw [show max y z = z from by omega] at hcx
          have d1 : decide (z < y) = false := by simp; omega
          have d2 : decide (z < z) = false := by simp
          have d3 : (z != y) = true := by simp; omega
          have d4 : (z != z) = false := by simp
          clear hyz
          go_wp2
          go_quiet (fail)
          go_wp2
          go_roundw
          case rel => exact ⟨k + 1, by omega, by go_num, L45.out.trans (below_drewN _ _ _)⟩
          case measure => simp [Go.RowKit.intOf]; omega
      · have S1 := hide (stale_any (m := m) (s := s) (o := o) (HA.out wr L5.out) (HI.out wr L5.out) HSRC.out)
        have HXW := hide (HX.out wr L5.out)
        obtain ⟨t, ht⟩ : ∃ t, staleB a m = t := ⟨_, rfl⟩
        rw [ht] at S1
        have HT := hide ht
        clear ht
        go_wp2_with (refine wpList_load_box (by rfl) 40 _ (by rfl) w.heap.size 0 (by rfl) 40 _ (HXW.out) 34 _ Try.underlying40 (by rfl) (by kernel_rfl) (m.cells s o (.slice A3 n3 ci)) (by rfl) (by rfl) ?_)
        refine S1.out.mono ?_
        rintro e w5 ⟨rfl, hl⟩
        have L6 : Hid (Later W1 w5) := L5.out.trans hl
        have LX6 : Hid (Later w1 w5) := LX5.out.trans hl
        clear hl S1
        cases t with
        | false =>
          go_wp2_with (fail)
          refine (LV.out _).mono ?_
          rintro e w6 ⟨rfl, hl⟩
          have L7 : Hid (Below w.heap.size w w6) := HB1.out.trans (L6.out.trans hl)
          clear hl
          go_wp2
          go_ret
          exact ⟨rfl, L7.out⟩
        | true =>
          have HXW2 := hide (HX.out w5 L6.out)
          have S2 := hide (stale_any (m := m) (s := s) (o := o) (SlI.kept HXO.out (Kept.of_below LX6.out _)) (HI.out w5 L6.out) HSRC.out)
          rw [stale_merge HT.out] at S2
          go_wp2_with (refine wpList_val rfl (by rfl) (exec_load_box 40 _ (by rfl) w.heap.size 0 (by rfl) 40 _ (HXW2.out) 34 _ Try.underlying40 (by rfl) (by kernel_rfl) (m.cells s o (.slice A3 n3 ci)) (by rfl) (by rfl)) ?_)
          refine S2.out.mono ?_
          rintro e w6 ⟨rfl, hl⟩
          have L7 : Hid (Later W1 w6) := L6.out.trans hl
          clear hl S2
          go_wp2_with (fail)
          refine (LV.out _).mono ?_
          rintro e w7 ⟨rfl, hl⟩
          have L8 : Hid (Below w.heap.size w w7) := HB1.out.trans (L7.out.trans hl)
          clear hl
          go_wp2
          go_ret
          exact ⟨rfl, L8.out⟩
  · have HBW : Hid (Below w.heap.size w (w.alloc (.cells (m.cells s o (.slice A3 n3 ci)).toArray 40 (0, 0)))) := (Below.refl _ _).alloc (Nat.le_refl _) _
    unfold MsgD.cells at HBW
    by_cases g1 : n = n2
    · subst g1
      have hnn : ((n : Int) != (n : Int)) = false := by simp
      by_cases g2 : n ≤ 100
      · have g3 : ¬ n3 ≤ 200 := fun h => hgo ⟨rfl, g2, h⟩
        clear hgo
        go_enter Try.func5, Try.ntmps5
        go_wp2_with (fail)
        refine (LV.out _).mono ?_
        rintro e w6 ⟨rfl, hl⟩
        have L7 : Hid (Below w.heap.size w w6) := HBW.out.trans (Below.mono hl HBW.out.size)
        clear hl
        go_wp2
        go_ret
        exact ⟨rfl, L7.out⟩
      · clear hgo
        go_enter Try.func5, Try.ntmps5
        go_wp2_with (fail)
        refine (LV.out _).mono ?_
        rintro e w6 ⟨rfl, hl⟩
        have L7 : Hid (Below w.heap.size w w6) := HBW.out.trans (Below.mono hl HBW.out.size)
        clear hl
        go_wp2
        go_ret
        exact ⟨rfl, L7.out⟩
    · have hnn : ((n : Int) != (n2 : Int)) = true := by simp; omega
      clear hgo g1
      go_enter Try.func5, Try.ntmps5
      go_wp2_with (fail)
      refine (LV.out _).mono ?_
      rintro e w6 ⟨rfl, hl⟩
      have L7 : Hid (Below w.heap.size w w6) := HBW.out.trans (Below.mono hl HBW.out.size)
      clear hl
      go_wp2
      go_ret
      exact ⟨rfl, L7.out⟩
end Go.Proofs.Ytflphpjfmbkeiaa
