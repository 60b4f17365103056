/- The walk over droverlaw05.ClockAgain: set again, the elder time is forgotten; stopped, it is never over. -/
import Derived.Test.YthimdmgimlhbaaaLives5
import Derived.LoopTactic
namespace Go.Proofs.Ythimdmgimlhbaaa
open Go.RowKit Go.Maps

/-- Where the loop stands ahead of tick k: the timer of name 3 at m, if it was not stopped and is not over. -/
def againL (st : Bool) (m k : Nat) : List (Int × Int) := if st = true ∨ m < k then [] else [((m : Int), 3)]
def againAt (st : Bool) (m k : Nat) : Nat := if st = true ∨ k ≤ m then 0 else m
theorem again_step (st : Bool) (m k : Nat) (hm : 1 ≤ m) :
    restT (againL st m k) (k : Int) = againL st m (k + 1) ∧
    ((namesT (dueT (againL st m k) (k : Int)) = [] ∧ againAt st m (k + 1) = againAt st m k) ∨ (namesT (dueT (againL st m k) (k : Int)) = [3] ∧ againAt st m k = 0 ∧ againAt st m (k + 1) = k)) := by
  unfold againL againAt
  by_cases hs : st = true
  · simp [hs, restT, dueT, namesT]
  · by_cases h1 : m < k
    · have h2 : m < k + 1 := by omega
      have h3 : ¬ k ≤ m := by omega
      have h4 : ¬ k + 1 ≤ m := by omega
      simp [hs, h1, h2, h3, h4, restT, dueT, namesT]
    · by_cases h2 : k = m
      · subst h2
        simp [hs, restT, dueT, namesT]
        try omega
      · have h3 : ¬ m < k + 1 := by omega
        have h4 : k ≤ m := by omega
        have h5 : k + 1 ≤ m := by omega
        have h6 : ¬ (m : Int) ≤ (k : Int) := by omega
        simp [hs, h1, h3, h4, h5, h6, restT, dueT, namesT]
theorem again_late (st : Bool) (m k : Nat) : ∀ p ∈ againL st m k, (k : Int) - 1 < p.1 := by
  unfold againL
  intro p hp
  split at hp
  · cases hp
  · obtain rfl : p = ((m : Int), 3) := by simpa using hp
    simp only
    omega

theorem againAt_le (st : Bool) (m k : Nat) : againAt st m k ≤ m := by
  unfold againAt
  split <;> omega

set_option maxHeartbeats 4000000 in
set_option maxRecDepth 100000 in
theorem law_again (a b : Nat) (st : Bool) (w : World) (ha : a < 18446744073709551616) (hb : b < 18446744073709551616) :
    Calls Try.prog 5 #[.int .u64 (a : Int), .int .u64 (b : Int), .bool st] w fun e w' => e = .returned (.bool true) ∧ Below w.heap.size w w' := by
  obtain ⟨q, hq⟩ : ∃ q, q = a % 30 := ⟨_, rfl⟩
  obtain ⟨r, hr⟩ : ∃ r, r = b % 30 := ⟨_, rfl⟩
  have hq30 : q < 30 := by omega
  have hr30 : r < 30 := by omega
  have e1 : (a : Int) % 30 = (q : Int) := by omega
  have e2 : (b : Int) % 30 = (r : Int) := by omega
  obtain ⟨m, hm⟩ : ∃ m, m = r + 1 := ⟨_, rfl⟩
  have e3 : (1 : Int) + (r : Int) = (m : Int) := by omega
  have hm1 : 1 ≤ m := by omega
  have hm30 : m ≤ 30 := by omega
  have C := hide (clk_new w)
  clear hq hr hm
  go_enter Try.func5, Try.ntmps5
  go_wp2_with (fail)
  refine C.out.mono ?_
  rintro e w1 ⟨c, S1, rfl, hb1, h1⟩
  have HB1 := hide hb1
  have H1 := hide h1
  clear hb1 h1 C
  go_wp2_with (fail)
  refine (clk_set 3 (1 + (q : Int)) H1.out (by decide) (by decide) (by omega) (by omega) (.inr (by decide)) (by decide)).mono ?_
  rintro e w2 ⟨S2, rfl, h2, t2, _⟩
  have HB2 := hide (HB1.out.trans (H1.out.below t2))
  have H2 := hide h2
  clear h2 t2 H1
  go_wp2_with (fail)
  refine (clk_set 3 (m : Int) H2.out (by decide) (by decide) (by omega) (by omega) (.inr (by simp [insT, delT])) (by decide)).mono ?_
  rintro e w3 ⟨S3, rfl, h3, t3, _⟩
  have HB3 := hide (HB2.out.trans (H2.out.below t3))
  have hL : insT (0 + (m : Int), 3) (delT (insT (0 + (1 + (q : Int)), 3) (delT [] 3)) 3) = [((m : Int), 3)] := by simp [insT, delT]
  rw [hL] at h3
  have H3 := hide h3
  clear h3 t3 H2 hL
  have HB3' := hide HB3.out.size
  cases st
  · have HL : Hid (Clk w.heap.size S3 w3 c (((1 : Nat) : Int) - 1) (againL false m 1) 2) := by
      have h0 : againL false m 1 = [((m : Int), 3)] := by
        unfold againL
        rw [if_neg (by simp; omega)]
      show Clk _ _ _ _ _ _ _
      rw [h0]
      exact H3.out
    have HAT : Hid (againAt false m 1 = 0) := by
      show _ = _
      unfold againAt
      rw [if_pos (.inr hm1)]
    have HBL := HB3
    obtain ⟨S, hS⟩ : ∃ S, S = S3 := ⟨_, rfl⟩
    rw [← hS] at HL
    clear H3 HB3 hS
    go_wp2
    go_loopw [10, 11] (fun x v wr => ∃ k : Nat, v = .int .i64 (k : Int) ∧ x = .int .i64 (againAt false m k : Nat) ∧ 1 ≤ k ∧ k ≤ 41 ∧ Clk w.heap.size S wr c ((k : Int) - 1) (againL false m k) 2 ∧ Below w.heap.size w wr) (fun _ v _ => 41 - (intOf v).toNat)
    case atStart => exact ⟨1, rfl, by rw [HAT.out]; rfl, by omega, by omega, HL.out, HBL.out⟩
    case round =>
      obtain ⟨k, rfl, rfl, hk1, hk41, hc, hb⟩ := hrel
      have HC := hide hc
      have HB := hide hb
      obtain ⟨hst1, hst2⟩ := again_step false m k hm1
      have HST1 := hide hst1
      have hAk := againAt_le false m k
      obtain ⟨x0, hx0⟩ : ∃ x, x = againAt false m k := ⟨_, rfl⟩
      obtain ⟨x1, hx1⟩ : ∃ x, x = againAt false m (k + 1) := ⟨_, rfl⟩
      rw [← hx0, ← hx1] at hst2
      have HX0 := hide hx0
      have HX1 := hide hx1
      obtain ⟨ns, hns⟩ : ∃ ns, ns = namesT (dueT (againL false m k) (k : Int)) := ⟨_, rfl⟩
      rw [← hns] at hst2
      have HNS := hide hns
      have HS2 := hide hst2
      rw [← hx0]
      clear hc hb hst1 hst2 hx0 hx1 hns
      by_cases hk : k ≤ 40
      · have hkk : (k : Int) - 1 + 1 = (k : Int) := by omega
        have CT := clk_tick HC.out (again_late false m k) (by omega)
        unfold ClkTick at CT
        rw [hkk, HST1.out, ← HNS.out] at CT
        have HCT := hide CT
        clear CT hkk
        go_wp2_with (fail)
        refine HCT.out.mono ?_
        rintro e w5 ⟨A, n, cp, rfl, ho, hi, hn, hc5, ht5⟩
        have hlen : n = ns.length := hi.1.symm
        have HB5 := hide (HB.out.trans (HC.out.below ht5))
        have HC5 := hide hc5
        have HI := hide hi
        clear ho hi hc5 ht5 HCT
        rcases HS2.out with ⟨hn0, hxx⟩ | ⟨hn1, hx00, hx11⟩
        · have hn00 : n = 0 := by rw [hlen, hn0]; rfl
          subst hn00
          have HXX := hide hxx
          clear hlen hn0 hxx
          go_wp2
          go_loop [10, 52] (fun y i => y = .int .i64 (x0 : Int) ∧ i = .int .i64 0) (fun _ _ => 0)
          case atStart => exact ⟨rfl, rfl⟩
          case round =>
            obtain ⟨rfl, rfl⟩ := hrel
            go_wp2
            go_roundw
            case rel => exact ⟨k + 1, by go_num, by rw [← HX1.out, HXX.out], by omega, by omega, by rw [show ((k + 1 : Nat) : Int) - 1 = (k : Int) from by omega]; exact HC5.out, HB5.out⟩
            case measure => simp [intOf]; omega
        · have hn11 : n = 1 := by rw [hlen, hn1]; rfl
          subst hn11
          obtain ⟨g, off, rfl, _, hcell⟩ := HI.out.at_ (i := 0) (by omega)
          rw [hn1] at hcell
          simp only [Nat.add_zero, List.getD_cons_zero] at hcell
          subst hx00
          have HX11 := hide hx11
          clear hlen hn1 hx11
          go_wp2
          go_loop [10, 52] (fun y i => ∃ j : Nat, j ≤ 1 ∧ i = .int .i64 (j : Int) ∧ (j = 0 ∧ y = .int .i64 0 ∨ j = 1 ∧ y = .int .i64 (k : Int))) (fun _ i => 1 - (intOf i).toNat)
          case atStart => exact ⟨0, by omega, rfl, .inl ⟨rfl, rfl⟩⟩
          case round =>
            obtain ⟨j, hj, rfl, ⟨rfl, rfl⟩ | ⟨rfl, rfl⟩⟩ := hrel
            · go_wp2
              go_round
              case rel => exact ⟨1, by omega, by first | rfl | go_num, .inr ⟨rfl, rfl⟩⟩
              case measure => simp [intOf]
            · go_wp2
              go_roundw
              case rel => exact ⟨k + 1, by go_num, by rw [← HX1.out, HX11.out], by omega, by omega, by rw [show ((k + 1 : Nat) : Int) - 1 = (k : Int) from by omega]; exact HC5.out, HB5.out⟩
              case measure => simp [intOf]; omega
      · have hk41' : k = 41 := by omega
        have HF : Hid (x0 = m) := by
          show _ = _
          rw [HX0.out]
          unfold againAt
          simp
          try omega
        have hxm : m = x0 := HF.out.symm
        clear HF HX0 HX1 HNS HS2
        subst hxm
        have ht1 : (((m : Nat) : Int) == 0) = false := by rw [beq_eq_false_iff_ne]; omega
        clear hk41'
        go_wp2_with (fail)
        refine (lives_any _).mono ?_
        rintro e w6 ⟨rfl, hb6⟩
        have HB6 := hide (HB.out.trans (hb6.mono HB.out.size))
        clear hb6
        go_wp2
        go_ret
        exact ⟨rfl, HB6.out⟩
  · go_wp2_with (fail)
    refine (clk_stop 3 H3.out (by decide) (by decide)).mono ?_
    rintro e w4 ⟨rfl, h4, t4⟩
    have HB4 := hide (HB3.out.trans (H3.out.below t4))
    have hd4 : delT [((m : Int), 3)] 3 = [] := by simp [delT]
    rw [hd4] at h4
    have H4 := hide h4
    have hf4 : (findT [((m : Int), 3)] 3).isSome = true := by simp [findT]
    clear h4 t4 H3 hd4
    go_wp2_with (fail)
    refine (clk_stop 3 H4.out (by decide) (by decide)).mono ?_
    rintro e w5 ⟨rfl, h5, t5⟩
    have HBL := hide (HB4.out.trans (H4.out.below t5))
    have HL : Hid (Clk w.heap.size S3 w5 c (((1 : Nat) : Int) - 1) (againL true m 1) 2) := h5
    have HAT : Hid (againAt true m 1 = 0) := rfl
    have hf5 : (findT [] 3).isSome = false := rfl
    obtain ⟨S, hS⟩ : ∃ S, S = S3 := ⟨_, rfl⟩
    rw [← hS] at HL
    clear h5 t5 H4 HB3 HB4 hS
    go_wp2
    go_loopw [10, 11] (fun x v wr => ∃ k : Nat, v = .int .i64 (k : Int) ∧ x = .int .i64 (againAt true m k : Nat) ∧ 1 ≤ k ∧ k ≤ 41 ∧ Clk w.heap.size S wr c ((k : Int) - 1) (againL true m k) 2 ∧ Below w.heap.size w wr) (fun _ v _ => 41 - (intOf v).toNat)
    case atStart => exact ⟨1, rfl, by rw [HAT.out]; rfl, by omega, by omega, HL.out, HBL.out⟩
    case round =>
      obtain ⟨k, rfl, rfl, hk1, hk41, hc, hb⟩ := hrel
      have HC := hide hc
      have HB := hide hb
      obtain ⟨hst1, hst2⟩ := again_step true m k hm1
      have HST1 := hide hst1
      have hAk := againAt_le true m k
      obtain ⟨x0, hx0⟩ : ∃ x, x = againAt true m k := ⟨_, rfl⟩
      obtain ⟨x1, hx1⟩ : ∃ x, x = againAt true m (k + 1) := ⟨_, rfl⟩
      rw [← hx0, ← hx1] at hst2
      have HX0 := hide hx0
      have HX1 := hide hx1
      obtain ⟨ns, hns⟩ : ∃ ns, ns = namesT (dueT (againL true m k) (k : Int)) := ⟨_, rfl⟩
      rw [← hns] at hst2
      have HNS := hide hns
      have HS2 := hide hst2
      rw [← hx0]
      clear hc hb hst1 hst2 hx0 hx1 hns
      by_cases hk : k ≤ 40
      · have hkk : (k : Int) - 1 + 1 = (k : Int) := by omega
        have CT := clk_tick HC.out (again_late true m k) (by omega)
        unfold ClkTick at CT
        rw [hkk, HST1.out, ← HNS.out] at CT
        have HCT := hide CT
        clear CT hkk
        go_wp2_with (fail)
        refine HCT.out.mono ?_
        rintro e w5 ⟨A, n, cp, rfl, ho, hi, hn, hc5, ht5⟩
        have hlen : n = ns.length := hi.1.symm
        have HB5 := hide (HB.out.trans (HC.out.below ht5))
        have HC5 := hide hc5
        have HI := hide hi
        clear ho hi hc5 ht5 HCT
        rcases HS2.out with ⟨hn0, hxx⟩ | ⟨hn1, hx00, hx11⟩
        · have hn00 : n = 0 := by rw [hlen, hn0]; rfl
          subst hn00
          have HXX := hide hxx
          clear hlen hn0 hxx
          go_wp2
          go_loop [10, 52] (fun y i => y = .int .i64 (x0 : Int) ∧ i = .int .i64 0) (fun _ _ => 0)
          case atStart => exact ⟨rfl, rfl⟩
          case round =>
            obtain ⟨rfl, rfl⟩ := hrel
            go_wp2
            go_roundw
            case rel => exact ⟨k + 1, by go_num, by rw [← HX1.out, HXX.out], by omega, by omega, by rw [show ((k + 1 : Nat) : Int) - 1 = (k : Int) from by omega]; exact HC5.out, HB5.out⟩
            case measure => simp [intOf]; omega
        · have hn11 : n = 1 := by rw [hlen, hn1]; rfl
          subst hn11
          obtain ⟨g, off, rfl, _, hcell⟩ := HI.out.at_ (i := 0) (by omega)
          rw [hn1] at hcell
          simp only [Nat.add_zero, List.getD_cons_zero] at hcell
          subst hx00
          have HX11 := hide hx11
          clear hlen hn1 hx11
          go_wp2
          go_loop [10, 52] (fun y i => ∃ j : Nat, j ≤ 1 ∧ i = .int .i64 (j : Int) ∧ (j = 0 ∧ y = .int .i64 0 ∨ j = 1 ∧ y = .int .i64 (k : Int))) (fun _ i => 1 - (intOf i).toNat)
          case atStart => exact ⟨0, by omega, rfl, .inl ⟨rfl, rfl⟩⟩
          case round =>
            obtain ⟨j, hj, rfl, ⟨rfl, rfl⟩ | ⟨rfl, rfl⟩⟩ := hrel
            · go_wp2
              go_round
              case rel => exact ⟨1, by omega, by first | rfl | go_num, .inr ⟨rfl, rfl⟩⟩
              case measure => simp [intOf]
            · go_wp2
              go_roundw
              case rel => exact ⟨k + 1, by go_num, by rw [← HX1.out, HX11.out], by omega, by omega, by rw [show ((k + 1 : Nat) : Int) - 1 = (k : Int) from by omega]; exact HC5.out, HB5.out⟩
              case measure => simp [intOf]; omega
      · have hk41' : k = 41 := by omega
        have HF : Hid (x0 = 0) := by
          show _ = _
          rw [HX0.out]
          unfold againAt
          simp
          try omega
        have hxm : 0 = x0 := HF.out.symm
        clear HF HX0 HX1 HNS HS2
        subst hxm
        have ht1 : (((m : Nat) : Int) == 0) = false := by rw [beq_eq_false_iff_ne]; omega
        clear hk41'
        go_wp2_with (fail)
        refine (lives_any _).mono ?_
        rintro e w6 ⟨rfl, hb6⟩
        have HB6 := hide (HB.out.trans (hb6.mono HB.out.size))
        clear hb6
        go_wp2
        go_ret
        exact ⟨rfl, HB6.out⟩
end Go.Proofs.Ythimdmgimlhbaaa
