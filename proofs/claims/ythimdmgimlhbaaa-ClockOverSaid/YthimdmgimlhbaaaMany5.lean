/- The walk over droverlaw05.ClockMany: there are just as many timers as may run; one that runs may be set again. -/
import Derived.Test.YthimdmgimlhbaaaLives5
namespace Go.Proofs.Ythimdmgimlhbaaa
open Go.RowKit Go.Maps

/-- The first k timers, all over at tick 5. -/
def manyL (k : Nat) : List (Int × Int) := (List.range k).map fun (j : Nat) => ((5 : Int), (j : Int))
theorem manyL_len (k : Nat) : (manyL k).length = k := by simp [manyL]
theorem manyL_mem {k : Nat} {p : Int × Int} (h : p ∈ manyL k) : p.1 = 5 ∧ 0 ≤ p.2 ∧ p.2 < k := by
  obtain ⟨j, hj, rfl⟩ := List.mem_map.1 h
  have := List.mem_range.1 hj
  exact ⟨rfl, by simp only; omega, by simp only; omega⟩
theorem manyL_none {k : Nat} {name : Int} (h : (k : Int) ≤ name) : findT (manyL k) name = none := by
  unfold findT
  rw [List.find?_eq_none]
  intro p hp
  have := manyL_mem hp
  simp
  omega
theorem insT_last (t : Int × Int) : ∀ L : List (Int × Int), (∀ p ∈ L, p.2 < t.2) → insT t L = L ++ [t]
  | [], _ => rfl
  | y :: r, h => by
    have := h y (by simp)
    unfold insT
    rw [if_neg (by omega), insT_last t r fun p hp => h p (by simp [hp])]
    rfl
theorem manyL_next (k : Nat) : insT (0 + 5, (k : Int)) (delT (manyL k) (k : Int)) = manyL (k + 1) := by
  rw [delT_none (manyL_none (Int.le_refl _)), insT_last _ _ fun p hp => (manyL_mem hp).2.2]
  simp [manyL, List.range_succ]
/-- With one of them set to tick 6. -/
def manyM (k : Nat) : List (Int × Int) := insT (0 + 6, (k : Int)) (delT (manyL 100) (k : Int))
theorem manyM_find (k : Nat) (hk : k < 100) : findT (manyL 100) (k : Int) ≠ none := by
  unfold findT
  rw [Ne, List.find?_eq_none]
  intro h
  exact h (5, (k : Int)) (List.mem_map.2 ⟨k, List.mem_range.2 hk, rfl⟩) (by simp)
theorem manyM_mem {k : Nat} {p : Int × Int} (h : p ∈ manyM k) : 5 ≤ p.1 := by
  unfold manyM at h
  rcases insT_mem.1 h with h | rfl
  · have := manyL_mem (delT_mem.1 h).1
    omega
  · simp
theorem manyM_all : ∀ k ∈ List.range 100, (manyM k).length = 100 ∧ (dueT (manyM k) 5).length = 99 ∧ restT (manyM k) 5 = [(6, (k : Int))] := by decide +kernel
/-- The timers ahead of tick j + 1. -/
def manyAt (k j : Nat) : List (Int × Int) := if j < 5 then manyM k else [(6, (k : Int))]
theorem many_late (k j : Nat) (hj : j < 5) : ∀ p ∈ manyAt k j, (j : Int) < p.1 := by
  unfold manyAt
  rw [if_pos hj]
  intro p hp
  have := manyM_mem hp
  omega
theorem many_step (k j : Nat) (hk : k < 100) (hj : j < 5) : restT (manyAt k j) ((j : Int) + 1) = manyAt k (j + 1) ∧ (j < 4 ∧ (dueT (manyAt k j) ((j : Int) + 1)).length = 0 ∨ j = 4 ∧ (dueT (manyAt k j) ((j : Int) + 1)).length = 99) := by
  unfold manyAt
  rw [if_pos hj]
  by_cases h4 : j = 4
  · subst h4
    obtain ⟨_, h2, h3⟩ := manyM_all k (List.mem_range.2 hk)
    rw [if_neg (by omega)]
    exact ⟨h3, .inr ⟨rfl, h2⟩⟩
  · obtain ⟨d1, d2⟩ := due_none (L := manyM k) (at_ := (j : Int) + 1) fun q hq => by
      have := manyM_mem hq
      omega
    rw [if_pos (by omega), d1]
    exact ⟨d2, .inl ⟨by omega, rfl⟩⟩

set_option maxHeartbeats 4000000 in
set_option maxRecDepth 100000 in
theorem law_many (a : Nat) (w : World) (ha : a < 18446744073709551616) :
    Calls Try.prog 6 #[.int .u64 (a : Int)] w fun e w' => e = .returned (.bool true) ∧ Below w.heap.size w w' := by
  obtain ⟨q, hq⟩ : ∃ q, q = a % 100 := ⟨_, rfl⟩
  have hq100 : q < 100 := by omega
  have e1 : (a : Int) % 100 = (q : Int) := by omega
  have C := hide (clk_new w)
  clear hq
  go_enter Try.func6, Try.ntmps6
  go_wp2_with (fail)
  refine C.out.mono ?_
  rintro e w1 ⟨c, S1, rfl, hb1, h1⟩
  have HB1 := hide hb1
  have H1 := hide h1
  clear hb1 h1 C
  go_wp2
  go_loopw [4] (fun v wr => ∃ k : Nat, v = .int .i64 (k : Int) ∧ k ≤ 100 ∧ (∃ S, Clk w.heap.size S wr c 0 (manyL k) k) ∧ Below w.heap.size w wr) (fun v _ => 100 - (intOf v).toNat)
  case atStart => exact ⟨0, rfl, by omega, ⟨S1, H1.out⟩, HB1.out⟩
  case round =>
    obtain ⟨k, rfl, hk, ⟨S, hc⟩, hb⟩ := hrel
    have HC := hide hc
    have HB := hide hb
    clear hc hb
    by_cases hk100 : k < 100
    · go_wp2_with (fail)
      refine (clk_set (k : Int) 5 HC.out (by omega) (by omega) (by omega) (by omega) (.inr (by rw [manyL_len]; exact hk100)) (by omega)).mono ?_
      rintro e w2 ⟨S2, rfl, h2, t2, _⟩
      rw [manyL_next] at h2
      have HB2 := hide (HB.out.trans ((HC.out.below t2).mono (Nat.le_refl _)))
      have H2 := hide h2
      clear h2 t2
      go_wp2
      go_roundw
      case rel => exact ⟨k + 1, by go_num, by omega, ⟨S2, H2.out⟩, HB2.out⟩
      case measure => simp [intOf]; omega
    · obtain rfl : k = 100 := by omega
      clear hk hk100
      go_wp2_with (fail)
      refine (clk_full 100 5 HC.out (by decide) (by decide) (by decide) (by decide) (manyL_none (by decide)) (manyL_len 100)).mono ?_
      rintro e w3 ⟨rfl, hb3⟩
      have HB3 := hide (HB.out.trans (hb3.mono HC.out.low))
      have H3 := hide (HC.out.later hb3)
      clear hb3
      go_wp2_with (fail)
      refine (clk_set (q : Int) 6 H3.out (by omega) (by omega) (by decide) (by decide) (.inl (manyM_find q hq100)) (by decide)).mono ?_
      rintro e w4 ⟨S4, rfl, h4, t4, _⟩
      have HB4 := hide (HB3.out.trans (H3.out.below t4))
      have H4 : Hid (Clk w.heap.size S4 w4 c 0 (manyM q) 101) := h4
      clear h4 t4
      go_wp2_with (fail)
      refine (clk_names H4.out).mono ?_
      rintro e w5 ⟨A5, n5, c5, rfl, _, hi5, hn5, hb5⟩
      have hn100 : n5 = 100 := by
        have h1 := hi5.1
        rw [namesT_len, (manyM_all q (List.mem_range.2 hq100)).1] at h1
        exact h1.symm
      subst hn100
      have HB5 := hide (HB4.out.trans (hb5.mono H4.out.low))
      have H5 := hide (H4.out.later hb5)
      clear hi5 hb5
      go_wp2
      go_loopw [6] (fun v wr => ∃ j : Nat, v = .int .i64 (j : Int) ∧ j ≤ 5 ∧ Clk w.heap.size S4 wr c (j : Int) (manyAt q j) 101 ∧ Below w.heap.size w wr) (fun v _ => 5 - (intOf v).toNat)
      case atStart => exact ⟨0, rfl, by omega, H5.out, HB5.out⟩
      case round =>
        obtain ⟨j, rfl, hj, hc6, hb6⟩ := hrel
        have H6 := hide hc6
        have HB6 := hide hb6
        clear hc6 hb6
        by_cases hj5 : j < 5
        · obtain ⟨hs1, hs2⟩ := many_step q j hq100 hj5
          have CT := clk_tick H6.out (many_late q j hj5) (by omega)
          unfold ClkTick at CT
          rw [hs1] at CT
          have HCT := hide CT
          have HS2 := hide hs2
          clear CT hs1 hs2
          go_wp2_with (fail)
          refine HCT.out.mono ?_
          rintro e w7 ⟨A, n, cp, rfl, _, hi, hn, hc7, ht7⟩
          have HB7 := hide (HB6.out.trans (H6.out.below ht7))
          have H7 := hide hc7
          have hlen := hi.1
          rw [namesT_len] at hlen
          have HLEN := hide hlen
          clear hi hc7 ht7 HCT hlen
          rcases HS2.out with ⟨h4, hd⟩ | ⟨h4, hd⟩
          · have hn0 : n = 0 := HLEN.out.symm.trans hd
            subst hn0
            have hj4 : ((j : Int) == 4) = false := by rw [beq_eq_false_iff_ne]; omega
            clear hd
            go_wp2
            go_roundw
            case rel => exact ⟨j + 1, by go_num, by omega, by rw [show ((j + 1 : Nat) : Int) = (j : Int) + 1 from by omega]; exact H7.out, HB7.out⟩
            case measure => simp [intOf]; omega
          · have hn0 : n = 99 := HLEN.out.symm.trans hd
            subst hn0 h4
            clear hd
            go_wp2
            go_roundw
            case rel => exact ⟨5, by first | rfl | go_num, by omega, H7.out, HB7.out⟩
            case measure => simp [intOf]
        · obtain rfl : j = 5 := by omega
          have hat : manyAt q 5 = [(6, (q : Int))] := by unfold manyAt; rw [if_neg (by omega)]
          rw [hat] at H6
          have hd6 : namesT (dueT [(6, (q : Int))] (((5 : Nat) : Int) + 1)) = [(q : Int)] := by simp [dueT, namesT]
          have hr6 : restT [(6, (q : Int))] (((5 : Nat) : Int) + 1) = [] := by simp [restT]
          have CT := clk_tick H6.out (by intro p hp; obtain rfl : p = (6, (q : Int)) := by simpa using hp
                                         show (((5 : Nat) : Int)) < 6
                                         decide) (by decide)
          unfold ClkTick at CT
          rw [hd6, hr6] at CT
          have HCT := hide CT
          clear CT hd6 hr6 hat hj hj5
          go_wp2_with (fail)
          refine HCT.out.mono ?_
          rintro e w7 ⟨A, n, cp, rfl, _, hi, hn, hc7, ht7⟩
          have HB7 := hide (HB6.out.trans (H6.out.below ht7))
          have H7 := hide hc7
          have hn1 : n = 1 := hi.1.symm
          subst hn1
          have HI := hide hi
          clear hi hc7 ht7 HCT
          have I8 : Hid (IHolds (w7.alloc (.cells #[.int .i64 (q : Int)] 3 (0, 0))) (w7.heap.size + 1) (some ⟨w7.heap.size, 0, none⟩) 1 [(q : Int)]) := ints_lit w7 3 (q : Int) (by omega) (by omega)
          have hb8 : Below w7.heap.size w7 (w7.alloc (.cells #[.int .i64 (q : Int)] 3 (0, 0))) := (Below.refl _ _).alloc (Nat.le_refl _) _
          have C8 := hide (refints_any A (some ⟨w7.heap.size, 0, none⟩) 1 cp 1 1 w7.heap.size (w7.heap.size + 1) [(q : Int)] [(q : Int)] _ (HI.out.below hb8) I8.out (by decide) (by decide))
          rw [eqI_self] at C8
          have H8 := hide (H7.out.later hb8)
          have HB8 := hide (HB7.out.trans (hb8.mono H7.out.low))
          clear hb8
          go_wp2_with (fail)
          refine C8.out.mono ?_
          rintro e w9 ⟨rfl, q9, rfl⟩
          have H9 := hide (H8.out.kept (Kept.drewN _ _ q9))
          have HB9 := hide (HB8.out.trans (below_drewN _ _ q9))
          go_wp2_with (fail)
          refine (clk_set 100 5 H9.out (by decide) (by decide) (by decide) (by decide) (.inr (by decide)) (by decide)).mono ?_
          rintro e w10 ⟨S10, rfl, h10, t10, _⟩
          have HB10 := hide (HB9.out.trans (H9.out.below t10))
          clear h10 t10
          go_wp2_with (fail)
          refine (lives_any _).mono ?_
          rintro e w11 ⟨rfl, hb11⟩
          have HB11 := hide (HB10.out.trans (hb11.mono HB10.out.size))
          clear hb11
          go_wp2
          go_ret
          exact ⟨rfl, HB11.out⟩
end Go.Proofs.Ythimdmgimlhbaaa
