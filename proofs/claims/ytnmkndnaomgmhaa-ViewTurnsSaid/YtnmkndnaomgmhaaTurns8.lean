/- The walk over droverlaw08.ViewTurns: each leads once in as many views as there are nodes. -/
import Derived.Test.YtnmkndnaomgmhaaNext
namespace Go.Proofs.Ytnmkndnaomgmhaa
open Go.RowKit

/-- How many of the i views from W on x leads. -/
def seenUp (W : Nat) (x n : Int) : Nat → Nat
  | 0 => 0
  | i + 1 => seenUp W x n i + if leadI ((W : Int) + (i : Int)) n = x then 1 else 0
theorem seen_yes {W i : Nat} {x n : Int} (h : leadI ((W : Int) + (i : Int)) n = x) : seenUp W x n (i + 1) = seenUp W x n i + 1 := by simp [seenUp, h]
theorem seen_no {W i : Nat} {x n : Int} (h : ¬ leadI ((W : Int) + (i : Int)) n = x) : seenUp W x n (i + 1) = seenUp W x n i := by simp [seenUp, h]
theorem seen_le (W : Nat) (x n : Int) (i : Nat) : seenUp W x n i ≤ i := by
  induction i with
  | zero => exact Nat.le_refl _
  | succ i ih =>
    by_cases h : leadI ((W : Int) + (i : Int)) n = x
    · rw [seen_yes h]; omega
    · rw [seen_no h]; omega
theorem seen_one {W : Nat} {x n : Int} (h : okNode x n = true) : seenUp W x n n.toNat = 1 := by
  obtain ⟨hn, h1, h2⟩ := okNode_iff.1 h
  have h0 : okN n = true := okN_iff.2 hn
  have hl : ∀ i : Nat, leadI ((W : Int) + (i : Int)) n = 1 + ((W : Int) + (i : Int)) % n := fun i => lead_at h0 (by omega)
  rcases okN_mk h0 with rfl | rfl | rfl | rfl
  · show seenUp W x 2 2 = 1
    simp only [seenUp, hl]
    split <;> split <;> omega
  · show seenUp W x 3 3 = 1
    simp only [seenUp, hl]
    split <;> split <;> split <;> omega
  · show seenUp W x 4 4 = 1
    simp only [seenUp, hl]
    split <;> split <;> split <;> split <;> omega
  · show seenUp W x 5 5 = 1
    simp only [seenUp, hl]
    split <;> split <;> split <;> split <;> split <;> omega

set_option maxHeartbeats 4000000 in
theorem law_turns (v n node : Nat) (w : World) (_ : v < 18446744073709551616) (hn : n < 18446744073709551616) (hnode : node < 18446744073709551616) : Calls Try.prog 7 #[.int .u64 v, .int .u64 n, .int .u64 node] w fun e w' => e = .returned (.bool true) ∧ Below w.heap.size w w' := by
  have LV := hide lives_any
  have CL := hide (fun v n => leader_any v n)
  have CN := hide (fun v x n => next_any v x n)
  obtain ⟨q, hq⟩ : ∃ q, q = n % 4 := ⟨_, rfl⟩
  have e1 : (n : Int) % 4 = (q : Int) := by omega
  have hq4 : q < 4 := by omega
  obtain ⟨W, hW⟩ : ∃ W, W = v % 1099511627776 := ⟨_, rfl⟩
  have e2 : (v : Int) % 1099511627776 = (W : Int) := by omega
  have hW2 : W < 1099511627776 := by omega
  obtain ⟨r, hr⟩ : ∃ r, r = node % (2 + q) := ⟨_, rfl⟩
  have e3 : (node : Int) % (2 + (q : Int)) = (r : Int) := by rw [hr, Int.natCast_emod]; rfl
  have hr2 : r < 2 + q := by rw [hr]; exact Nat.mod_lt _ (by omega)
  have hok : okNode (1 + (r : Int)) (2 + (q : Int)) = true := okNode_iff.2 ⟨by omega, by omega, by omega⟩
  have S1 := hide (seen_one (W := W) hok)
  obtain ⟨N, hN, l1, l2, l3, l4⟩ := next_spec (V := W) hok
  have HX : Hid (nextI W (1 + (r : Int)) (2 + (q : Int)) = N) := by show _ = _; rw [next_yes hok (by omega), hN]
  have L3 := hide l3
  have L4 := hide l4
  clear hN l3 l4 hok hr hW hq
  go_enter Try.func7, Try.ntmps7
  go_wp2
  simp only [e1, e2, e3]
  go_loopw [10, 11] (fun s j wr => ∃ c i : Nat, s = .int .i64 (c : Int) ∧ j = .int .i64 (i : Int) ∧ i ≤ 2 + q ∧ c ≤ i ∧ c = seenUp W (1 + (r : Int)) (2 + (q : Int)) i ∧ w = wr) (fun _ j _ => 2 + q - (Go.RowKit.intOf j).toNat)
  case atStart => exact ⟨0, 0, rfl, rfl, by omega, by omega, rfl, by first | rfl | trivial⟩
  case round =>
    obtain ⟨c, i, rfl, rfl, hi, hci, hc, rfl⟩ := hrel
    have HC := hide hc
    clear hc
    by_cases hik : i < 2 + q
    · obtain ⟨y, hy⟩ : ∃ y, leadI ((W : Int) + (i : Int)) (2 + (q : Int)) = y := ⟨_, rfl⟩
      by_cases hyx : y = 1 + (r : Int)
      · have HS := hide (seen_yes (hy.trans hyx))
        have HY := hide hy
        have et : (y == 1 + (r : Int)) = true := by simpa using hyx
        clear hy hyx
        go_wp2_with (go_at_call 9; refine (CL.out _ _ _).mono ?_; rw [HY.out]; rintro e w1 ⟨rfl, rfl⟩)
        go_roundw
        case rel => exact ⟨c + 1, i + 1, by go_num, by go_num, by omega, by omega, by rw [HS.out, ← HC.out], by first | rfl | trivial⟩
        case measure => simp [Go.RowKit.intOf]; omega
      · have HS := hide (seen_no (W := W) (i := i) (x := 1 + (r : Int)) (n := 2 + (q : Int)) (by rw [hy]; exact hyx))
        have HY := hide hy
        have et : (y == 1 + (r : Int)) = false := by simpa using hyx
        clear hy hyx
        go_wp2_with (go_at_call 9; refine (CL.out _ _ _).mono ?_; rw [HY.out]; rintro e w1 ⟨rfl, rfl⟩)
        go_roundw
        case rel => exact ⟨c, i + 1, by go_num, by go_num, by omega, by omega, by rw [HS.out, ← HC.out], by first | rfl | trivial⟩
        case measure => simp [Go.RowKit.intOf]; omega
    · obtain rfl : i = 2 + q := by omega
      have hc1 : c = 1 := by
        have h1 := S1.out
        rw [show (2 + (q : Int)).toNat = 2 + q from by omega] at h1
        rw [HC.out, h1]
      subst hc1
      have f1 : decide (N ≤ W) = false := by simp; omega
      have f2 : decide ((W : Int) + (2 + (q : Int)) < (N : Int)) = false := by simp; omega
      have en : ((1 + (r : Int)) != 1 + (r : Int)) = false := by simp
      go_wp2_with (first
        | (go_at_call 15; refine (CN.out _ _ _ _).mono ?_; rw [HX.out]; rintro e w1 ⟨rfl, rfl⟩)
        | (go_at_call 9; refine (CL.out _ _ _).mono ?_; rw [L3.out]; rintro e w1 ⟨rfl, rfl⟩))
      clear f1 f2
      go_loopw [13] (fun j wr => ∃ y : Nat, j = .int .i64 (y : Int) ∧ W < y ∧ y ≤ N ∧ w = wr) (fun j _ => N - (Go.RowKit.intOf j).toNat)
      case atStart => exact ⟨W + 1, by go_num, by omega, by omega, by first | rfl | trivial⟩
      case round =>
        obtain ⟨y, rfl, hy1, hy2, rfl⟩ := hrel
        by_cases hyN : y < N
        · have hne := L4.out y hy1 hyN
          obtain ⟨z, hz⟩ : ∃ z, leadI (y : Int) (2 + (q : Int)) = z := ⟨_, rfl⟩
          have et : (z == 1 + (r : Int)) = false := by rw [← hz]; simpa using hne
          have HZ := hide hz
          clear hz hne
          go_wp2_with (go_at_call 9; refine (CL.out _ _ _).mono ?_; rw [HZ.out]; rintro e w1 ⟨rfl, rfl⟩)
          go_roundw
          case rel => exact ⟨y + 1, by go_num, by omega, by omega, by first | rfl | trivial⟩
          case measure => simp [Go.RowKit.intOf]; omega
        · go_wp2_with (go_at_call 17; refine (LV.out _).mono ?_; rintro e w1 ⟨rfl, rfl⟩)
          go_ret
          exact ⟨rfl, Below.refl _ _⟩
end Go.Proofs.Ytnmkndnaomgmhaa
