/- The next view that a node leads: Next, the code's and the document's; the document's examples. -/
import Derived.Test.YtnmkndnaomgmhaaLead
namespace Go.Proofs.Ytnmkndnaomgmhaa
open Go.RowKit

def nextI (v x n : Int) : Int := if (decide (0 ≤ v) && decide (v ≤ 1099511627776)) && okNode x n then v + 1 + (x - 1 - (v + 1)) % n else -1
theorem lead_at {M n : Int} (h : okN n = true) (hM : 0 ≤ M) : leadI M n = 1 + M % n := by simp [leadI, h, hM]
/-- The view that is told: the first one above v that x leads. -/
theorem next_spec {V : Nat} {x n : Int} (h : okNode x n = true) : ∃ N : Nat, (N : Int) = (V : Int) + 1 + (x - 1 - ((V : Int) + 1)) % n ∧ V < N ∧ (N : Int) ≤ V + n ∧ leadI N n = x ∧ ∀ M : Nat, V < M → M < N → leadI M n ≠ x := by
  obtain ⟨hn, h1, h2⟩ := okNode_iff.1 h
  have h0 : okN n = true := okN_iff.2 hn
  have hnn : 0 ≤ (x - 1 - ((V : Int) + 1)) % n := Int.emod_nonneg _ (by omega)
  have hlt : (x - 1 - ((V : Int) + 1)) % n < n := Int.emod_lt_of_pos _ (by omega)
  obtain ⟨N, hN⟩ := Int.eq_ofNat_of_zero_le (show 0 ≤ (V : Int) + 1 + (x - 1 - ((V : Int) + 1)) % n by omega)
  refine ⟨N, hN.symm, by omega, by omega, ?_, fun M h3 h4 => ?_⟩
  · rw [lead_at h0 (by omega)]
    rcases okN_mk h0 with rfl | rfl | rfl | rfl <;> omega
  · rw [lead_at h0 (by omega)]
    rcases okN_mk h0 with rfl | rfl | rfl | rfl <;> omega
theorem next_yes {V : Nat} {x n : Int} (h : okNode x n = true) (hV : V ≤ 1099511627776) : nextI V x n = (V : Int) + 1 + (x - 1 - ((V : Int) + 1)) % n := by
  have h2 : (V : Int) ≤ 1099511627776 := by omega
  simp [nextI, h, h2]
theorem next_no {v x n : Int} (h : ¬ ((0 ≤ v ∧ v ≤ 1099511627776) ∧ okNode x n = true)) : nextI v x n = -1 := by
  unfold nextI
  rw [if_neg]
  simpa using h

set_option maxHeartbeats 1000000 in
theorem next_any (v x n : Int) : Tells 15 #[.int .i64 v, .int .i64 x, .int .i64 n] (.int .i64 (nextI v x n)) := by
  intro w
  have C := hide (isnode_any x n)
  have CL := hide (fun v => leader_any v n)
  by_cases h1 : 0 ≤ v
  · by_cases h2 : v ≤ 1099511627776
    · by_cases h3 : okNode x n = true
      · obtain ⟨V, rfl⟩ := Int.eq_ofNat_of_zero_le h1
        obtain ⟨N, hN, l1, l2, l3, l4⟩ := next_spec (V := V) h3
        have H : Hid (nextI V x n = N) := by show _ = _; rw [next_yes h3 (by omega), hN]
        have L3 := hide l3
        have L4 := hide l4
        have hn5 : n ≤ 5 := (okNode_iff.1 h3).1.2
        have hd : decide (1099511627776 < (V : Int)) = false := by simp; omega
        rw [h3] at C
        clear h3 hN l3 l4 h1
        go_enter Try.func15, Try.ntmps15
        go_wp2_with (go_at_call 35; refine (C.out _).mono ?_; rintro e w1 ⟨rfl, rfl⟩)
        clear hd
        go_loopw [7] (fun m wr => ∃ M : Nat, m = .int .i64 (M : Int) ∧ V < M ∧ M ≤ N ∧ w = wr) (fun m _ => N - (Go.RowKit.intOf m).toNat)
        case atStart => exact ⟨V + 1, by go_num, by omega, by omega, by first | rfl | trivial⟩
        case round =>
          obtain ⟨M, rfl, hm1, hm2, rfl⟩ := hrel
          by_cases hM : M = N
          · subst hM
            have e1 := L3.out
            have et : (x != x) = false := by simp
            go_wp2_with (go_at_call 9; refine (CL.out _ _).mono ?_; rw [L3.out]; rintro e w1 ⟨rfl, rfl⟩)
            go_ret
            exact ⟨ret_int H.out.symm, rfl⟩
          · have hne := L4.out M hm1 (by omega)
            obtain ⟨y, hy⟩ : ∃ y, leadI M n = y := ⟨_, rfl⟩
            have HY := hide hy
            rw [hy] at hne
            have et : (y != x) = true := by simpa using hne
            clear hy hne
            go_wp2_with (go_at_call 9; refine (CL.out _ _).mono ?_; rw [HY.out]; rintro e w1 ⟨rfl, rfl⟩)
            go_roundw
            case rel => exact ⟨M + 1, by go_num, by omega, by omega, by first | rfl | trivial⟩
            case measure => simp [Go.RowKit.intOf]; omega
      · have h3 : okNode x n = false := by simpa using h3
        have H : Hid (nextI v x n = -1) := next_no (by simp [h3])
        have hd : decide (1099511627776 < v) = false := by simp; omega
        have hd0 : decide (v < 0) = false := by simp; omega
        rw [h3] at C
        clear h3
        go_enter Try.func15, Try.ntmps15
        go_wp2_with (go_at_call 35; refine (C.out _).mono ?_; rintro e w1 ⟨rfl, rfl⟩)
        go_ret
        exact ⟨ret_int H.out.symm, rfl⟩
    · have H : Hid (nextI v x n = -1) := next_no (fun h => h2 h.1.2)
      have hd : decide (1099511627776 < v) = true := by simp; omega
      have hd0 : decide (v < 0) = false := by simp; omega
      go_enter Try.func15, Try.ntmps15
      go_wp2
      go_ret
      exact ⟨ret_int H.out.symm, rfl⟩
  · have H : Hid (nextI v x n = -1) := next_no (fun h => h1 h.1.1)
    have hd : decide (v < 0) = true := by simp; omega
    go_enter Try.func15, Try.ntmps15
    go_wp2
    go_ret
    exact ⟨ret_int H.out.symm, rfl⟩
set_option maxHeartbeats 1000000 in
theorem refnext_any (v x n : Int) : Tells 16 #[.int .i64 v, .int .i64 x, .int .i64 n] (.int .i64 (nextI v x n)) := by
  intro w
  have C := hide (is_any n)
  have CL := hide (fun v => refleader_any v n)
  by_cases h1 : 0 ≤ v
  · by_cases h2 : v ≤ 1099511627776
    · have hd0 : decide (v < 0) = false := by simp; omega
      have hd1 : decide (1099511627776 < v) = false := by simp; omega
      by_cases h0 : okN n = true
      · by_cases h3 : 1 ≤ x
        · have hd3 : decide (x < 1) = false := by simp; omega
          by_cases h4 : x ≤ n
          · have hd4 : decide (n < x) = false := by simp; omega
            have h5 : okNode x n = true := okNode_iff.2 ⟨okN_iff.1 h0, h3, h4⟩
            obtain ⟨V, rfl⟩ := Int.eq_ofNat_of_zero_le h1
            obtain ⟨N, hN, l1, l2, l3, l4⟩ := next_spec (V := V) h5
            have H : Hid (nextI V x n = N) := by show _ = _; rw [next_yes h5 (by omega), hN]
            have L3 := hide l3
            have L4 := hide l4
            have hn5 : n ≤ 5 := (okN_iff.1 h0).2
            rw [h0] at C
            clear h0 h5 hN l3 l4 h1
            go_enter Try.func16, Try.ntmps16
            go_wp2_with (go_at_call 34; refine (C.out _).mono ?_; rintro e w1 ⟨rfl, rfl⟩)
            clear hd0 hd1 hd3 hd4
            go_loopw [0] (fun m wr => ∃ M : Nat, m = .int .i64 (M : Int) ∧ V ≤ M ∧ M < N ∧ w = wr) (fun m _ => N - (Go.RowKit.intOf m).toNat)
            case atStart => exact ⟨V, rfl, by omega, by omega, by first | rfl | trivial⟩
            case round =>
              obtain ⟨M, rfl, hm1, hm2, rfl⟩ := hrel
              by_cases hM : M + 1 = N
              · have et : leadI ((M : Int) + 1) n = x := by have := L3.out; rw [← hM] at this; exact this
                have HY := hide et
                have e2 : (x == x) = true := by simp
                have e3 : ((M : Int) + 1) = (N : Int) := by omega
                have HE3 := hide e3
                clear et e3
                go_wp2_with (go_at_call 10; refine (CL.out _ _).mono ?_; rw [HY.out]; rintro e w1 ⟨rfl, rfl⟩)
                go_ret
                exact ⟨ret_int (by rw [H.out, HE3.out]), rfl⟩
              · have hne := L4.out (M + 1) (by omega) (by omega)
                obtain ⟨y, hy⟩ : ∃ y, leadI ((M : Int) + 1) n = y := ⟨_, rfl⟩
                have HY := hide hy
                have hne2 : y ≠ x := by rw [← hy]; exact hne
                have et : (y == x) = false := by simpa using hne2
                clear hy hne hne2
                go_wp2_with (go_at_call 10; refine (CL.out _ _).mono ?_; rw [HY.out]; rintro e w1 ⟨rfl, rfl⟩)
                go_roundw
                case rel => exact ⟨M + 1, by go_num, by omega, by omega, by first | rfl | trivial⟩
                case measure => simp [Go.RowKit.intOf]; omega
          · have H : Hid (nextI v x n = -1) := next_no (fun h => h4 (okNode_iff.1 h.2).2.2)
            have hd4 : decide (n < x) = true := by simp; omega
            rw [h0] at C
            clear h0
            go_enter Try.func16, Try.ntmps16
            go_wp2_with (go_at_call 34; refine (C.out _).mono ?_; rintro e w1 ⟨rfl, rfl⟩)
            go_ret
            exact ⟨ret_int H.out.symm, rfl⟩
        · have H : Hid (nextI v x n = -1) := next_no (fun h => h3 (okNode_iff.1 h.2).2.1)
          have hd3 : decide (x < 1) = true := by simp; omega
          rw [h0] at C
          clear h0
          go_enter Try.func16, Try.ntmps16
          go_wp2_with (go_at_call 34; refine (C.out _).mono ?_; rintro e w1 ⟨rfl, rfl⟩)
          go_ret
          exact ⟨ret_int H.out.symm, rfl⟩
      · have H : Hid (nextI v x n = -1) := next_no (fun h => h0 (okN_iff.2 (okNode_iff.1 h.2).1))
        have h0 : okN n = false := by simpa using h0
        rw [h0] at C
        clear h0
        go_enter Try.func16, Try.ntmps16
        go_wp2_with (go_at_call 34; refine (C.out _).mono ?_; rintro e w1 ⟨rfl, rfl⟩)
        go_ret
        exact ⟨ret_int H.out.symm, rfl⟩
    · have H : Hid (nextI v x n = -1) := next_no (fun h => h2 h.1.2)
      have hd : decide (1099511627776 < v) = true := by simp; omega
      have hd0 : decide (v < 0) = false := by simp; omega
      go_enter Try.func16, Try.ntmps16
      go_wp2
      go_ret
      exact ⟨ret_int H.out.symm, rfl⟩
  · have H : Hid (nextI v x n = -1) := next_no (fun h => h1 h.1.1)
    have hd : decide (v < 0) = true := by simp; omega
    go_enter Try.func16, Try.ntmps16
    go_wp2
    go_ret
    exact ⟨ret_int H.out.symm, rfl⟩

/-- The document's examples. -/
theorem lives_any : Tells 17 #[] (.bool true) := by
  intro w
  have C1 := hide (leader_any 4 3)
  have C2 := hide (quorum_any 4)
  have C3 := hide (faults_any 4)
  have C4 := hide (next_any 4 1 3)
  rw [show leadI 4 3 = 2 from by decide] at C1
  rw [show quorI 4 = 3 from by decide] at C2
  rw [show faulI 4 = 1 from by decide] at C3
  rw [show nextI 4 1 3 = 6 from by decide] at C4
  go_enter Try.func17, Try.ntmps17
  go_wp2_with (first
    | (go_at_call 9; refine (C1.out _).mono ?_; rintro e w1 ⟨rfl, rfl⟩)
    | (go_at_call 11; refine (C2.out _).mono ?_; rintro e w1 ⟨rfl, rfl⟩)
    | (go_at_call 13; refine (C3.out _).mono ?_; rintro e w1 ⟨rfl, rfl⟩)
    | (go_at_call 15; refine (C4.out _).mono ?_; rintro e w1 ⟨rfl, rfl⟩))
  go_ret
  exact ⟨rfl, rfl⟩
theorem law_leads (v x n : Int) (w : World) (_ : -9223372036854775808 ≤ v) (_ : v < 9223372036854775808) (_ : -9223372036854775808 ≤ x) (_ : x < 9223372036854775808) (_ : -9223372036854775808 ≤ n) (_ : n < 9223372036854775808) : Calls Try.prog 3 #[.int .i64 v, .int .i64 x, .int .i64 n] w fun e w' => e = .returned (.bool true) ∧ Below w.heap.size w w' := by
  have C1 := hide (leader_any v n)
  have C2 := hide (quorum_any n)
  have C3 := hide (faults_any n)
  have C4 := hide (next_any v x n)
  have D1 := hide (refleader_any v n)
  have D2 := hide (refquorum_any n)
  have D3 := hide (reffaults_any n)
  have D4 := hide (refnext_any v x n)
  have L := hide lives_any
  obtain ⟨y1, hy1⟩ : ∃ y, leadI v n = y := ⟨_, rfl⟩
  obtain ⟨y2, hy2⟩ : ∃ y, quorI n = y := ⟨_, rfl⟩
  obtain ⟨y3, hy3⟩ : ∃ y, faulI n = y := ⟨_, rfl⟩
  obtain ⟨y4, hy4⟩ : ∃ y, nextI v x n = y := ⟨_, rfl⟩
  rw [hy1] at C1 D1
  rw [hy2] at C2 D2
  rw [hy3] at C3 D3
  rw [hy4] at C4 D4
  clear hy1 hy2 hy3 hy4
  go_enter Try.func3, Try.ntmps3
  go_wp2_with (first
    | (go_at_call 9; refine (C1.out _).mono ?_; rintro e w1 ⟨rfl, rfl⟩)
    | (go_at_call 11; refine (C2.out _).mono ?_; rintro e w1 ⟨rfl, rfl⟩)
    | (go_at_call 13; refine (C3.out _).mono ?_; rintro e w1 ⟨rfl, rfl⟩)
    | (go_at_call 15; refine (C4.out _).mono ?_; rintro e w1 ⟨rfl, rfl⟩)
    | (go_at_call 10; refine (D1.out _).mono ?_; rintro e w1 ⟨rfl, rfl⟩)
    | (go_at_call 12; refine (D2.out _).mono ?_; rintro e w1 ⟨rfl, rfl⟩)
    | (go_at_call 14; refine (D3.out _).mono ?_; rintro e w1 ⟨rfl, rfl⟩)
    | (go_at_call 16; refine (D4.out _).mono ?_; rintro e w1 ⟨rfl, rfl⟩)
    | (go_at_call 17; refine (L.out _).mono ?_; rintro e w1 ⟨rfl, rfl⟩))
  go_ret
  exact ⟨rfl, Below.refl _ _⟩
end Go.Proofs.Ytnmkndnaomgmhaa
