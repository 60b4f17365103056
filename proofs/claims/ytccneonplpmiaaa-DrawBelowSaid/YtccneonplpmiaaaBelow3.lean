/- The walk over droverlaw03.DrawBelow: what is drawn below a number is from 0 on and below it; below none nothing is drawn. -/
import Derived.Test.YtccneonplpmiaaaLives3
namespace Go.Proofs.Ytccneonplpmiaaa
open Go.RowKit

set_option maxHeartbeats 1000000 in
set_option maxRecDepth 100000 in
theorem law_below (S : Nat) (n : Int) (V : Nat) (w : World) (hS : S < 18446744073709551616) (hn1 : -9223372036854775808 ≤ n) (hn2 : n < 9223372036854775808) (hV : V < 18446744073709551616) :
    Calls Try.prog 8 #[.int .u64 S, .int .i64 n, .int .u64 V] w fun e w' => e = .returned (.bool true) ∧ Below w.heap.size w w' := by
  have hk := keyOf_lt hS
  have C1 := hide (new_any S w hS)
  have HS := hide hS
  clear hS
  obtain ⟨k, hke⟩ : ∃ k, k = keyOf S := ⟨_, rfl⟩
  rw [← hke] at hk
  have HK := hide hke
  clear hke
  by_cases hn : 1 ≤ n
  · go_enter Try.func8, Try.ntmps8
    go_wp2_with (fail)
    refine C1.out.mono ?_
    rintro e w1 ⟨g, rfl, hg, hd, hl⟩
    rw [← HK.out] at hd
    have HG := hide hg
    have HD := hide hd
    have HL := hide (show Below w.heap.size w w1 from hl)
    clear hg hd hl
    go_wp2
    go_loopw [8] (fun i wr => ∃ c : Nat, c ≤ V % 100 ∧ i = .int .i64 ((c + 1 : Nat) : Int) ∧ DrawAt 43 wr g k c ∧ Below w.heap.size w wr) (fun i _ => 101 - (intOf i).toNat)
    case atStart => exact ⟨0, by omega, rfl, HD.out, HL.out⟩
    case round =>
      obtain ⟨c, hc, rfl, hd, hb⟩ := hrel
      have hc' : c ≤ 99 := by omega
      obtain ⟨i, hi⟩ : ∃ i, i = c + 1 := ⟨_, rfl⟩
      by_cases hlt : c < V % 100
      · have C2 := hide (below_yes g k c n wr hd hk (by omega) hn hn2)
        obtain ⟨x, hx⟩ : ∃ x, x = ((raw k c : Nat) : Int) % n := ⟨_, rfl⟩
        have x1 : 0 ≤ x := by rw [hx]; exact Int.emod_nonneg _ (by omega)
        have x2 : x < n := by rw [hx]; exact Int.emod_lt_of_pos _ (by omega)
        rw [← hx] at C2
        rw [← hi]
        have hle : decide ((i : Int) ≤ (V : Int) % 100) = true := by simp only [decide_eq_true_eq]; omega
        have HI := hide hi
        have HB := hide hb
        have Hlt := hide hlt
        have hi2 : i ≤ 100 := by omega
        clear hx hi hb hd hlt
        go_wp2_with (fail)
        refine C2.out.mono ?_
        rintro e w2 ⟨rfl, h1, h2⟩
        rw [← HI.out] at h1
        have C3 := hide (count_any g k i w2 h1)
        have HD2 := hide h1
        have HW := hide h2
        clear h1 h2
        go_wp2_with (fail)
        refine C3.out.mono ?_
        rintro e w3 ⟨rfl, rfl⟩
        go_wp2
        go_roundw
        case rel => exact ⟨i, by have := HI.out; have := Hlt.out; omega, by go_num, HD2.out, Below.trans HB.out (below_grown HW.out HG.out HB.out.size)⟩
        case measure => simp [intOf]; omega
      · rw [← hi]
        have hle : decide ((i : Int) ≤ (V : Int) % 100) = false := by simp only [decide_eq_false_iff_not]; omega
        have HB := hide hb
        clear hi hb hd hlt
        go_wp2_with (fail)
        refine (lives_any _).mono ?_
        rintro e w2 ⟨rfl, b⟩
        go_wp2
        go_ret
        exact ⟨rfl, Below.trans HB.out (b.mono HB.out.size)⟩
  · go_enter Try.func8, Try.ntmps8
    go_wp2_with (fail)
    refine C1.out.mono ?_
    rintro e w1 ⟨g, rfl, hg, hd, hl⟩
    rw [← HK.out] at hd
    have HG := hide hg
    have HD := hide hd
    have HL := hide (show Below w.heap.size w w1 from hl)
    clear hg hd hl
    go_wp2
    go_loop [8] (fun i => ∃ c : Nat, c ≤ V % 100 ∧ i = .int .i64 ((c + 1 : Nat) : Int)) (fun i => 101 - (intOf i).toNat)
    case atStart => exact ⟨0, by omega, rfl⟩
    case round =>
      obtain ⟨c, hc, rfl⟩ := hrel
      obtain ⟨i, hi⟩ : ∃ i, i = c + 1 := ⟨_, rfl⟩
      have hi2 : i ≤ 100 := by omega
      by_cases hlt : c < V % 100
      · have C2 := hide (below_no g n w1 (by omega))
        rw [← hi]
        have hle : decide ((i : Int) ≤ (V : Int) % 100) = true := by simp only [decide_eq_true_eq]; omega
        have HI := hide hi
        have Hlt := hide hlt
        have C3 := hide (count_any g k 0 w1 HD.out)
        clear hi hlt
        go_wp2_with (fail)
        refine C2.out.mono ?_
        rintro e w2 ⟨rfl, rfl⟩
        go_wp2_with (fail)
        refine C3.out.mono ?_
        rintro e w3 ⟨rfl, rfl⟩
        go_wp2
        go_round
        case rel => exact ⟨i, by have := HI.out; have := Hlt.out; omega, by go_num⟩
        case measure => simp [intOf]; omega
      · rw [← hi]
        have hle : decide ((i : Int) ≤ (V : Int) % 100) = false := by simp only [decide_eq_false_iff_not]; omega
        clear hi hlt
        go_wp2_with (fail)
        refine (lives_any _).mono ?_
        rintro e w2 ⟨rfl, b⟩
        go_wp2
        go_ret
        exact ⟨rfl, Below.trans HL.out (b.mono HL.out.size)⟩
end Go.Proofs.Ytccneonplpmiaaa
