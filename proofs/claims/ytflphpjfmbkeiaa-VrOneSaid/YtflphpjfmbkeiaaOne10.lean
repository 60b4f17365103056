/- The walk over droverlaw10.VrOne: of nodes that are all Normal in one view just one leads. -/
import Derived.Test.YtflphpjfmbkeiaaLives10
namespace Go.Proofs.Ytflphpjfmbkeiaa
open Go.RowKit

set_option maxHeartbeats 4000000 in
theorem law_one (n v : Nat) (ph : Int) (w : World) (hn : n < 18446744073709551616) (hv : v < 18446744073709551616) (_hp : I64 ph) : Calls Try.prog 7 #[.int .u64 n, .int .u64 v, .int .i64 ph] w fun e w' => e = .returned (.bool true) ∧ Below w.heap.size w w' := by
  have LV := hide lives_any
  obtain ⟨q, hq⟩ : ∃ q, q = n % 4 := ⟨_, rfl⟩
  have e1 : (n : Int) % 4 = (q : Int) := by omega
  have hq4 : q < 4 := by omega
  obtain ⟨V, hV⟩ : ∃ V, V = v % 1099511627776 := ⟨_, rfl⟩
  have e2 : (v : Int) % 1099511627776 = (V : Int) := by omega
  have hV2 : V < 1099511627776 := by omega
  obtain ⟨L, hL, hL1, hL2⟩ : ∃ L : Nat, leadI (V : Int) (2 + (q : Int)) = (L : Int) ∧ 1 ≤ L ∧ L ≤ 2 + q := by
    have h0 : okN (2 + (q : Int)) = true := okN_iff.2 ⟨by omega, by omega⟩
    have h1 : leadI (V : Int) (2 + (q : Int)) = 1 + (V : Int) % (2 + (q : Int)) := by simp [leadI, h0]
    have h2 : V % (2 + q) < 2 + q := Nat.mod_lt _ (by omega)
    refine ⟨1 + V % (2 + q), ?_, by omega, by omega⟩
    rw [h1]
    push_cast
    rfl
  have CL : Hid (∀ (id ph : Int) (w : World), Calls Try.prog 23 #[.agg #[.int .i64 id, .int .i64 (2 + (q : Int)), .int .i64 ph, .int .i64 (V : Int), .int .i64 0]] w fun e w' => e = .returned (.bool (decide (ph = 1) && decide (1 ≤ id) && decide (id = (L : Int)))) ∧ Later w w') := fun id ph w => by
    have h := leads_any id (2 + (q : Int)) ph (V : Int) 0 w
    unfold leadsB at h
    rw [hL] at h
    exact h
  clear hq hV hL
  go_enter Try.func7, Try.ntmps7
  go_wp2
  simp only [e1]
  go_loopw [8, 9] (fun s j wr => ∃ c i : Nat, s = .int .i64 (c : Int) ∧ j = .int .i64 ((i : Int) + 1) ∧ i ≤ 2 + q ∧ (c = if L ≤ i then 1 else 0) ∧ Below w.heap.size w wr) (fun _ j _ => 3 + q - (Go.RowKit.intOf j).toNat)
  case atStart => exact ⟨0, 0, rfl, by go_num, by omega, by rw [if_neg (by omega)], Below.refl _ _⟩
  case round =>
    obtain ⟨c, i, rfl, rfl, hi, hc, hb⟩ := hrel
    have HC := hide hc
    have HB := hide hb
    have hc1 : c ≤ 1 := by rw [hc]; split <;> omega
    clear hc hb
    by_cases hik : i < 2 + q
    · have hd1 : (decide ((1 : Int) = 1) && decide (1 ≤ (i : Int) + 1) && decide ((i : Int) + 1 = (L : Int))) = decide (i + 1 = L) := by
        have a : decide (1 ≤ (i : Int) + 1) = true := by simp; omega
        have b : decide ((i : Int) + 1 = (L : Int)) = decide (i + 1 = L) := by
          by_cases h : i + 1 = L
          · have h' : (i : Int) + 1 = (L : Int) := by omega
            simp [h, h']
          · have h' : ¬ (i : Int) + 1 = (L : Int) := by omega
            simp [h, h']
        rw [a, b]
        simp
      have C1 : Hid (∀ w, Calls Try.prog 23 #[.agg #[.int .i64 ((i : Int) + 1), .int .i64 (2 + (q : Int)), .int .i64 1, .int .i64 (V : Int), .int .i64 0]] w fun e w' => e = .returned (.bool (decide (i + 1 = L))) ∧ Later w w') := fun w => by
        have h := CL.out ((i : Int) + 1) 1 w
        rwa [hd1] at h
      clear hd1
      by_cases hp : ph = 1
      · subst hp
        by_cases hL3 : i + 1 = L
        · have hb1 : decide (i + 1 = L) = true := by simpa using hL3
          rw [hb1] at C1
          have H3 := hide hL3
          clear hb1 hL3
          go_wp2_with (fail)
          refine (C1.out _).mono ?_
          rintro e w1 ⟨rfl, hl⟩
          have HB1 : Hid (Below w.heap.size w w1) := HB.out.trans (Below.mono hl HB.out.size)
          clear hl
          go_wp2
          go_roundw
          case rel => exact ⟨c + 1, i + 1, by go_num, by go_num, by omega, by have h := HC.out; have h3 := H3.out; rw [if_neg (by omega)] at h; rw [if_pos (by omega), h], HB1.out⟩
          case measure => simp [Go.RowKit.intOf]; omega
        · have hb1 : decide (i + 1 = L) = false := by simpa using hL3
          rw [hb1] at C1
          have H3 := hide hL3
          clear hb1 hL3
          go_wp2_with (fail)
          refine (C1.out _).mono ?_
          rintro e w1 ⟨rfl, hl⟩
          have HB1 : Hid (Below w.heap.size w w1) := HB.out.trans (Below.mono hl HB.out.size)
          clear hl
          go_wp2
          go_roundw
          case rel => exact ⟨c, i + 1, by go_num, by go_num, by omega, by have h := HC.out; have h3 := H3.out; rw [h]; by_cases hh : L ≤ i <;> (first | rw [if_pos hh, if_pos (by omega)] | rw [if_neg hh, if_neg (by omega)]), HB1.out⟩
          case measure => simp [Go.RowKit.intOf]; omega
      · have hd2 : decide (ph = 1) = false := by simpa using hp
        have hne : (ph != 1) = true := by simpa using hp
        have C2 : Hid (∀ w, Calls Try.prog 23 #[.agg #[.int .i64 ((i : Int) + 1), .int .i64 (2 + (q : Int)), .int .i64 ph, .int .i64 (V : Int), .int .i64 0]] w fun e w' => e = .returned (.bool false) ∧ Later w w') := fun w => by
          have h := CL.out ((i : Int) + 1) ph w
          rwa [hd2, Bool.false_and, Bool.false_and] at h
        clear hd2 hp
        by_cases hL3 : i + 1 = L
        · have hb1 : decide (i + 1 = L) = true := by simpa using hL3
          rw [hb1] at C1
          have H3 := hide hL3
          clear hb1 hL3
          go_wp2_with (fail)
          refine (C1.out _).mono ?_
          rintro e w1 ⟨rfl, hl⟩
          have HB1 : Hid (Below w.heap.size w w1) := HB.out.trans (Below.mono hl HB.out.size)
          clear hl
          go_wp2_with (fail)
          refine (C2.out _).mono ?_
          rintro e w2 ⟨rfl, hl⟩
          have HB2 : Hid (Below w.heap.size w w2) := HB1.out.trans (Below.mono hl HB1.out.size)
          clear hl
          go_wp2
          go_roundw
          case rel => exact ⟨c + 1, i + 1, by go_num, by go_num, by omega, by have h := HC.out; have h3 := H3.out; rw [if_neg (by omega)] at h; rw [if_pos (by omega), h], HB2.out⟩
          case measure => simp [Go.RowKit.intOf]; omega
        · have hb1 : decide (i + 1 = L) = false := by simpa using hL3
          rw [hb1] at C1
          have H3 := hide hL3
          clear hb1 hL3
          go_wp2_with (fail)
          refine (C1.out _).mono ?_
          rintro e w1 ⟨rfl, hl⟩
          have HB1 : Hid (Below w.heap.size w w1) := HB.out.trans (Below.mono hl HB.out.size)
          clear hl
          go_wp2_with (fail)
          refine (C2.out _).mono ?_
          rintro e w2 ⟨rfl, hl⟩
          have HB2 : Hid (Below w.heap.size w w2) := HB1.out.trans (Below.mono hl HB1.out.size)
          clear hl
          go_wp2
          go_roundw
          case rel => exact ⟨c, i + 1, by go_num, by go_num, by omega, by have h := HC.out; have h3 := H3.out; rw [h]; by_cases hh : L ≤ i <;> (first | rw [if_pos hh, if_pos (by omega)] | rw [if_neg hh, if_neg (by omega)]), HB2.out⟩
          case measure => simp [Go.RowKit.intOf]; omega
    · obtain rfl : i = 2 + q := by omega
      have hc1 : c = 1 := by have h := HC.out; rw [if_pos (by omega)] at h; exact h
      subst hc1
      go_wp2_with (fail)
      refine (LV.out _).mono ?_
      rintro e w1 ⟨rfl, hl⟩
      have HB1 : Hid (Below w.heap.size w w1) := HB.out.trans (Below.mono hl HB.out.size)
      clear hl
      go_wp2
      go_ret
      exact ⟨rfl, HB1.out⟩
end Go.Proofs.Ytflphpjfmbkeiaa
