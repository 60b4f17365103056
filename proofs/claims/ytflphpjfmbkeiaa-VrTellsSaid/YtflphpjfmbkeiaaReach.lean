/- The walk over Reached of package vr. -/
import Derived.Test.YtflphpjfmbkeiaaSortD
import Derived.Test.YtflphpjfmbkeiaaCloneI
import Derived.Lib.MinMax
namespace Go.Proofs.Ytflphpjfmbkeiaa
open Go.RowKit

set_option maxHeartbeats 2000000 in
set_option maxRecDepth 100000 in
theorem reached_any {F : Nat → Prop} {w : World} {v : Value} {l : List Int} (hl : SlI F w v l) (hn : l.length ≤ 1000000) (last n : Int) :
    Calls Try.prog 18 #[v, .int .i64 last, .int .i64 n] w fun e w' => e = .returned (.int .i64 (reachI l last n)) ∧ Later w w' := by
  have CQ := hide (quorum_any n)
  have C := hide (clone_ints F v l.length _ w hl.1 hn)
  obtain ⟨A, c, rfl, h1, h2⟩ := hl.shape
  obtain ⟨m, hm⟩ : ∃ m, l.length = m := ⟨_, rfl⟩
  have HM := hide hm
  rw [hm] at C hn ⊢
  clear hl h1 h2 hm
  rcases quor_cases n with hq | hq | hq
  · have H : Hid (reachI l last n = 0) := by show _ = _; rw [reachI, if_pos (.inl hq)]
    rw [hq] at CQ
    clear hq
    go_enter Try.func18, Try.ntmps18
    go_wp2_with (go_at_call 29; refine (CQ.out _).mono ?_; rintro e w1 ⟨rfl, rfl⟩)
    go_ret
    exact ⟨ret_int H.out.symm, Below.refl _ _⟩
  · by_cases hlt : m < 2
    · have H : Hid (reachI l last n = 0) := by show _ = _; rw [reachI, if_pos (.inr (by rw [hq, HM.out]; omega))]
      rw [hq] at CQ
      clear hq
      go_enter Try.func18, Try.ntmps18
      go_wp2_with (go_at_call 29; refine (CQ.out _).mono ?_; rintro e w1 ⟨rfl, rfl⟩)
      go_ret
      exact ⟨ret_int H.out.symm, Below.refl _ _⟩
    · have H : Hid (reachI l last n = max 0 (min last ((falling l).getD 1 0))) := by
        show _ = _
        rw [reachI, if_neg (by rw [hq, HM.out]; omega), hq]
        rfl
      rw [hq] at CQ
      have hmq : decide (m < 2) = false := by simpa using hlt
      clear hq
      go_enter Try.func18, Try.ntmps18
      go_wp2_with (go_at_call 29; refine (CQ.out _).mono ?_; rintro e w1 ⟨rfl, rfl⟩)
      refine C.out.mono ?_
      rintro e w1 ⟨r, rfl, hown, hbl⟩
      obtain ⟨g, cc, rfl, hg, hlt2, hnc, hcm⟩ := iown_at hown (by omega)
      have S := hide (sortd_any hown (by omega) hbl.size)
      have HB := hide hbl
      clear hown hbl C
      go_wp2_with (fail)
      refine S.out.mono ?_
      rintro e w2 ⟨rfl, hcell, hb2⟩
      have hk := hcell 1 (by omega)
      obtain ⟨x, hx⟩ : ∃ x, (falling l).getD 1 0 = x := ⟨_, rfl⟩
      rw [hx] at hk H
      have HB2 : Hid (Later w w2) := HB.out.trans hb2
      clear hcell hb2 S hx
      go_wp2
      go_ret
      exact ⟨ret_int H.out.symm, HB2.out⟩
  · by_cases hlt : m < 3
    · have H : Hid (reachI l last n = 0) := by show _ = _; rw [reachI, if_pos (.inr (by rw [hq, HM.out]; omega))]
      rw [hq] at CQ
      clear hq
      go_enter Try.func18, Try.ntmps18
      go_wp2_with (go_at_call 29; refine (CQ.out _).mono ?_; rintro e w1 ⟨rfl, rfl⟩)
      go_ret
      exact ⟨ret_int H.out.symm, Below.refl _ _⟩
    · have H : Hid (reachI l last n = max 0 (min last ((falling l).getD 2 0))) := by
        show _ = _
        rw [reachI, if_neg (by rw [hq, HM.out]; omega), hq]
        rfl
      rw [hq] at CQ
      have hmq : decide (m < 3) = false := by simpa using hlt
      clear hq
      go_enter Try.func18, Try.ntmps18
      go_wp2_with (go_at_call 29; refine (CQ.out _).mono ?_; rintro e w1 ⟨rfl, rfl⟩)
      refine C.out.mono ?_
      rintro e w1 ⟨r, rfl, hown, hbl⟩
      obtain ⟨g, cc, rfl, hg, hlt2, hnc, hcm⟩ := iown_at hown (by omega)
      have S := hide (sortd_any hown (by omega) hbl.size)
      have HB := hide hbl
      clear hown hbl C
      go_wp2_with (fail)
      refine S.out.mono ?_
      rintro e w2 ⟨rfl, hcell, hb2⟩
      have hk := hcell 2 (by omega)
      obtain ⟨x, hx⟩ : ∃ x, (falling l).getD 2 0 = x := ⟨_, rfl⟩
      rw [hx] at hk H
      have HB2 : Hid (Later w w2) := HB.out.trans hb2
      clear hcell hb2 S hx
      go_wp2
      go_ret
      exact ⟨ret_int H.out.symm, HB2.out⟩
end Go.Proofs.Ytflphpjfmbkeiaa
