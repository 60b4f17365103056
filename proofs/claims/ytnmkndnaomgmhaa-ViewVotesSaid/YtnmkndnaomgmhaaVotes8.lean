/- The walk over droverlaw08.ViewVotes: whoever votes, the votes are the document's. -/
import Derived.Test.YtnmkndnaomgmhaaRefA
import Derived.Test.YtnmkndnaomgmhaaRefInts
import Derived.Test.YtnmkndnaomgmhaaOrderT
namespace Go.Proofs.Ytnmkndnaomgmhaa
open Go.RowKit

theorem or_has : ∀ V : Nat, V < 32 → ∀ k : Nat, k < 5 → V.testBit k = true → V ||| 2 ^ k = V := by decide +kernel
theorem or_le : ∀ N : Nat, N < 6 → ∀ V : Nat, V < 2 ^ N → ∀ k : Nat, k < N → V ||| 2 ^ k < 2 ^ N := by decide +kernel
theorem lt32 : ∀ N : Nat, N < 6 → ∀ V : Nat, V < 2 ^ N → V < 32 := by decide +kernel
theorem cnt_nodes : ∀ N : Nat, N < 6 → ∀ V : Nat, V < 2 ^ N → (nodesUp V N).length = cntV V := by decide +kernel
def placedB (N V k i : Nat) : Bool := V.testBit k || !decide (i ≤ (nodesUp V N).length) || !(i == 0 || decide ((nodesUp V N).getD (i - 1) 0 ≤ (k : Int) + 1)) ||
  !((List.range 6).all fun j => !(decide (i ≤ j) && decide (j < (nodesUp V N).length)) || decide ((k : Int) + 1 < (nodesUp V N).getD j 0)) || decide (putI (nodesUp V N) i ((k : Int) + 1) = nodesUp (V ||| 2 ^ k) N)
theorem placed_all : ∀ N : Nat, N < 6 → ∀ V : Nat, V < 2 ^ N → ∀ k : Nat, k < N → ∀ i : Nat, i < 6 → placedB N V k i = true := by decide +kernel
theorem placed_nodes {N V k i : Nat} (hN : N < 6) (hV : V < 2 ^ N) (hk : k < N) (hb : V.testBit k = false) (hi : i ≤ (nodesUp V N).length)
    (h1 : 0 < i → (nodesUp V N).getD (i - 1) 0 ≤ (k : Int) + 1) (h2 : ∀ j : Nat, i ≤ j → j < (nodesUp V N).length → (k : Int) + 1 < (nodesUp V N).getD j 0) : putI (nodesUp V N) i ((k : Int) + 1) = nodesUp (V ||| 2 ^ k) N := by
  have hl := nodesUp_len V N
  have h := placed_all N hN V hV k hk i (by omega)
  have e1 : (i == 0 || decide ((nodesUp V N).getD (i - 1) 0 ≤ (k : Int) + 1)) = true := by
    rcases Nat.eq_zero_or_pos i with h0 | h0
    · rw [h0]; rfl
    · rw [decide_eq_true (h1 h0), Bool.or_true]
  have e2 : ((List.range 6).all fun j => !(decide (i ≤ j) && decide (j < (nodesUp V N).length)) || decide ((k : Int) + 1 < (nodesUp V N).getD j 0)) = true := by
    rw [List.all_eq_true]
    intro j _
    by_cases h3 : i ≤ j
    · by_cases h4 : j < (nodesUp V N).length
      · rw [decide_eq_true (h2 j h3 h4), Bool.or_true]
      · rw [decide_eq_false h4, Bool.and_false]; rfl
    · rw [decide_eq_false h3]; rfl
  rw [placedB, hb, decide_eq_true hi, e1, e2] at h
  simpa using h
theorem mem_nodes {V N : Nat} {x : Int} (hN : okN (N : Int) = true) : decide (x ∈ nodesUp V N) = hasB N V x := by
  rw [Bool.eq_iff_iff, decide_eq_true_eq]
  constructor
  · intro h
    obtain ⟨j, hj, rfl⟩ := List.mem_map.1 h
    have h1 := List.mem_filter.1 hj
    have h2 : j < N := List.mem_range.1 h1.1
    rw [hasB_at hN (by omega)]
    exact h1.2
  · intro h
    rw [hasB, Bool.and_eq_true] at h
    obtain ⟨h1, h2, h3⟩ := okNode_iff.1 h.1
    refine List.mem_map.2 ⟨x.toNat - 1, List.mem_filter.2 ⟨List.mem_range.2 (by omega), h.2⟩, by omega⟩
theorem addB_no {n : Int} {V : Nat} {x : Int} (hV : V < 32) (h : addB n V x = false) : addV n V x = V := by
  by_cases hx : okNode x n = true
  · obtain ⟨k, rfl, hk, hk2⟩ := okNode_nat hx
    have h1 : V.testBit k = true := by
      rw [addB, hasB, hx, hk2] at h
      simpa using h
    rw [addV, if_pos hx, hk2]
    exact or_has V hV k hk h1
  · rw [addV, if_neg hx]
theorem addV_lt {N V : Nat} {x : Int} (hN : okN (N : Int) = true) (hV : V < 2 ^ N) : addV N V x < 2 ^ N := by
  by_cases hx : okNode x N = true
  · obtain ⟨k, rfl, hk, hk2⟩ := okNode_nat hx
    rw [addV, if_pos hx, hk2]
    exact or_le N (by have := okN_iff.1 hN; omega) V hV k (by have := (okNode_iff.1 hx).2.2; omega)
  · rw [addV, if_neg hx]
    exact hV
theorem add_any {w : World} {g : Nat} {n : Int} {V : Nat} (h : VAt w (.pointer (some ⟨g, 0, none⟩)) n V) (hV : V < 32) (x : Int) : Calls Try.prog 21 #[.pointer (some ⟨g, 0, none⟩), .int .i64 x] w fun e w' => e = .returned (.bool (addB n V x)) ∧ VAt w' (.pointer (some ⟨g, 0, none⟩)) n (addV n V x) ∧ w.grownBy w' (some g) := by
  by_cases ha : addB n V x = true
  · rw [ha]
    exact add_yes h hV ha
  · have ha : addB n V x = false := by simpa using ha
    rw [ha]
    refine Calls.mono (add_no h hV ha) ?_
    rintro e w' ⟨rfl, q, rfl⟩
    exact ⟨rfl, by rw [addB_no hV ha]; exact h.drewN q, grown_later (below_drewN _ _ _) _⟩
theorem refadd_any {w : World} {r : Nat} {N V : Nat} (h : RefAt w r N (nodesUp V N)) (hN : okN (N : Int) = true) (hV : V < 2 ^ N) (x : Int) :
    Calls Try.prog 22 #[.pointer (some ⟨r, 0, none⟩), .int .i64 x] w fun e w' => e = .returned (.bool (addB N V x)) ∧ RefAt w' r N (nodesUp (addV N V x) N) ∧ w.grownBy w' (some r) := by
  have hN6 : N < 6 := by have := okN_iff.1 hN; omega
  have hl := nodesUp_len V N
  by_cases ha : addB N V x = true
  · obtain ⟨_, hx, hh⟩ := addB_yes ha
    obtain ⟨h0, h1, h2⟩ := okNode_iff.1 hx
    have hno : x ∉ nodesUp V N := by
      have := mem_nodes (V := V) (x := x) hN
      rw [hh] at this
      simpa using this
    rw [ha]
    refine (refadd_yes h x (by omega) h1 h2 hno (by omega)).mono ?_
    rintro e w' ⟨rfl, ⟨L', ⟨i, hi, rfl, hi1, hi2⟩, hr⟩, hg⟩
    refine ⟨rfl, ?_, hg⟩
    obtain ⟨k, rfl, hk, hk2⟩ := okNode_nat hx
    have hb : V.testBit k = false := by
      rw [hasB, hx, hk2, Bool.true_and] at hh
      exact hh
    rw [placed_nodes hN6 hV (by omega) hb hi hi1 hi2] at hr
    rw [addV, if_pos hx, hk2]
    exact hr
  · have ha : addB N V x = false := by simpa using ha
    rw [ha, addB_no (lt32 N hN6 V hV) ha]
    refine (refadd_no h x (by omega) ?_).mono ?_
    · rintro ⟨h1, h2, h3⟩
      have hx : okNode x N = true := okNode_iff.2 ⟨okN_iff.1 hN, h1, h2⟩
      have h4 : hasB N V x = false := by
        rw [← mem_nodes hN]
        simpa using h3
      rw [addB, hx, h4] at ha
      cases ha
    · rintro e w' ⟨rfl, rfl⟩
      exact ⟨rfl, h, World.grownBy.refl _ _⟩
/-- Where the loop of ViewVotes stands. -/
structure Both8 (w0 w : World) (g r N V : Nat) : Prop where
  vs : VAt w (.pointer (some ⟨g, 0, none⟩)) N V
  rs : RefAt w r N (nodesUp V N)
  lt : V < 2 ^ N
  gr : g < r
  og : w0.heap.size ≤ g
  bel : Below w0.heap.size w0 w
theorem vat_other {w w' : World} {g h : Nat} {n : Int} {V : Nat} (hv : VAt w (.pointer (some ⟨g, 0, none⟩)) n V) (hg : w.grownBy w' (some h)) (hne : g ≠ h) : VAt w' (.pointer (some ⟨g, 0, none⟩)) n V :=
  hv.kept (hg.block g (lt_of_block hv.block) (fun e => hne (Option.some.inj e)))
theorem nodesUp_none (N : Nat) : nodesUp 0 N = [] := by simp [nodesUp]

set_option maxHeartbeats 2000000 in
set_option maxRecDepth 100000 in
theorem law_votes (n : Int) (A : Option Addr) (len cap : Nat) (l : List Int) (w : World) (_hn1 : -9223372036854775808 ≤ n) (_hn2 : n < 9223372036854775808) (hl : IHolds w w.heap.size A len l) (_hmax : len ≤ maxLen) : Calls Try.prog 4 #[.int .i64 n, .slice A len cap] w fun e w' => e = .returned (.bool true) ∧ Below w.heap.size w w' := by
  have LV := hide lives_any
  have HL := hide hl
  clear hl _hmax _hn1 _hn2
  by_cases hn : okN n = true
  · by_cases hlen : len ≤ 100
    · obtain ⟨N, rfl⟩ : ∃ N : Nat, n = (N : Int) := Int.eq_ofNat_of_zero_le (by have := okN_iff.1 hn; omega)
      have hN5 : N ≤ 5 := by have := okN_iff.1 hn; omega
      have C1 := hide (new_yes (n := (N : Int)) w hn)
      have C2 := hide (fun w => refnew_yes (n := (N : Int)) w hn)
      have HN := hide hn
      clear hn
      go_enter Try.func4, Try.ntmps4
      go_wp2_with (fail)
      refine C1.out.mono ?_
      rintro e w1 ⟨rfl, hw1⟩
      have HW1 := hide hw1
      clear hw1
      go_wp2_with (fail)
      refine (C2.out _).mono ?_
      rintro e w2 ⟨rfl, hw2⟩
      obtain ⟨g, hg⟩ : ∃ g, g = w.heap.size := ⟨_, rfl⟩
      obtain ⟨r, hr⟩ : ∃ r, r = w1.heap.size := ⟨_, rfl⟩
      have B0 : Hid (Both8 w w2 g r N 0) := by
        have s1 : w1.heap.size = w.heap.size + 1 := by rw [HW1.out]; simp
        have b1 : Below w.heap.size w w1 := by rw [HW1.out]; exact (Below.refl _ _).alloc (Nat.le_refl _) _
        have b2 : Below w1.heap.size w1 w2 := by rw [hw2]; exact (Below.refl _ _).alloc (Nat.le_refl _) _
        have v1 : VAt w1 (.pointer (some ⟨w.heap.size, 0, none⟩)) N 0 := by rw [HW1.out]; exact vat_new _ _
        have v2 : RefAt w2 w1.heap.size N [] := by rw [hw2]; exact refat_new _ _
        rw [hg, hr]
        exact ⟨v1.kept (b2.block _ (by omega)), by rw [nodesUp_none]; exact v2, Nat.pos_of_ne_zero (by simp), by omega, by omega, b1.trans (b2.mono (by omega))⟩
      rw [← hg, ← hr]
      clear hw2 hg hr HW1
      go_wp2
      go_loopw [28] (fun j wr => ∃ k V : Nat, j = .int .i64 (k : Int) ∧ k ≤ len ∧ Both8 w wr g r N V) (fun j _ => len - (Go.RowKit.intOf j).toNat)
      case atStart => exact ⟨0, 0, rfl, by omega, B0.out⟩
      case round =>
        obtain ⟨k, V, rfl, hk, hbo⟩ := hrel
        have BO := hide hbo
        clear hbo
        by_cases hkl : k < len
        · obtain ⟨b, off, rfl, hblt, hc⟩ := HL.out.at_ hkl
          have hc2 := (BO.out.bel.cell (p := ⟨b, off + k, none⟩) hblt).trans hc
          obtain ⟨x, hx⟩ : ∃ x, x = l.getD k 0 := ⟨_, rfl⟩
          rw [← hx] at hc2
          clear hx hc
          by_cases h7 : x = -7
          · have ht : (x == -7) = true := by simpa using h7
            have CC := hide (clear_yes BO.out.vs HN.out)
            clear h7
            go_wp2_with (fail)
            refine CC.out.mono ?_
            rintro e w3 ⟨rfl, hv3, hg3⟩
            have R3 : Hid (RefAt w3 r N (nodesUp V N)) := BO.out.rs.other hg3 BO.out.gr
            have V3 := hide hv3
            have B3 : Hid (Below w.heap.size w w3) := BO.out.bel.grown hg3 BO.out.bel.size (fun k hk => by have := Option.some.inj hk; have := BO.out.og; omega)
            clear hv3 hg3
            obtain ⟨Ar, cr, hb3, _, _⟩ := R3.out
            have cr1 := cell_of_row w3 r 1 _ _ _ hb3
            have fr1 := frozen_of_row w3 r 1 _ _ hb3
            have HB3 := hide hb3
            clear hb3
            go_wp2
            go_roundw
            case rel =>
              refine ⟨k + 1, 0, by go_num, by omega, ⟨vat_other V3.out (grown_set w3 r 1 (.slice none 0 0)) (by have := BO.out.gr; omega), ?_, Nat.pos_of_ne_zero (by simp), BO.out.gr, BO.out.og, B3.out.grown (grown_set w3 r 1 (.slice none 0 0)) B3.out.size (fun k hk => by have := Option.some.inj hk; have := BO.out.og; have := BO.out.gr; omega)⟩⟩
              rw [nodesUp_none]
              exact ⟨none, 0, heap_setCell_same w3 r 1 _ _ _ HB3.out, own_none, by simp [Fit]⟩
            case measure => simp [Go.RowKit.intOf]; omega
          · have ht : (x == -7) = false := by simpa using h7
            have l32 : V < 32 := lt32 N (by omega) V BO.out.lt
            have L32 := hide l32
            have VLT := hide (addV_lt (x := x) HN.out BO.out.lt)
            have HM := hide (mem_nodes (V := addV N V x) (x := x) HN.out)
            have HCN := hide (cnt_nodes N (by omega) _ VLT.out)
            have HC2 : Hid (cntN N (addV N V x) = cntV (addV N V x)) := by show _ = _; rw [cntN, if_pos HN.out]
            have HEN : Hid (enB N (addV N V x) = decide (quorI N ≤ (cntV (addV N V x) : Int))) := by show _ = _; rw [enB, HN.out, Bool.true_and]
            have AD := hide (fun (w' : World) (h : VAt w' (.pointer (some ⟨g, 0, none⟩)) N V) => add_any h l32 x)
            have RD := hide (fun (w' : World) (h : RefAt w' r N (nodesUp V N)) => refadd_any h HN.out BO.out.lt x)
            obtain ⟨U, hU⟩ : ∃ U, U = addV N V x := ⟨_, rfl⟩
            obtain ⟨ab, hab⟩ : ∃ ab, ab = addB N V x := ⟨_, rfl⟩
            rw [← hU] at VLT HM HCN HC2 HEN
            simp only [← hU, ← hab] at AD RD
            have U32 := hide (lt32 N (by omega) U VLT.out)
            obtain ⟨hb8, hhb⟩ : ∃ b, b = hasB N U x := ⟨_, rfl⟩
            have HHB := hide hhb
            rw [← hhb] at HM
            obtain ⟨eb, heb⟩ : ∃ b, b = enB N U := ⟨_, rfl⟩
            have HEB := hide heb
            rw [← heb] at HEN
            obtain ⟨m6, hm6⟩ : ∃ m, cntV U = m := ⟨_, rfl⟩
            rw [hm6] at HCN HC2 HEN
            have hm65 : m6 ≤ 5 := by have := nodesUp_len U N; have := HCN.out; omega
            clear hU hab hhb heb hm6 h7 l32
            go_wp2
            refine wp_region_T (by kernel_rfl) ?_
            refine wpAnyT_take (i := 0) (d := some 39) (v := ?vav0) rfl rfl (by kernel_rfl) (by kernel_rfl) (by kernel_rfl) (fun _ _ _ h => h) (by rfl) ?yav0 ?_
            case yav0 => (intro w'; go_simp; try (with_reducible rfl))
            simp only [Act.put]; try simp only [List.setIfInBounds_toArray]; try simp only [List.set_cons_zero, List.set_cons_succ]
            refine wpAnyT_take (i := 1) (d := some 40) (v := ?vav1) rfl rfl (by kernel_rfl) (by kernel_rfl) (by kernel_rfl) (fun _ _ _ h => h) (by rfl) ?yav1 ?_
            case yav1 => (intro w'; go_simp; try (with_reducible rfl))
            simp only [Act.put]; try simp only [List.setIfInBounds_toArray]; try simp only [List.set_cons_zero, List.set_cons_succ]
            refine wpAnyT_take (i := 3) (d := some 42) (v := ?vav3) rfl rfl (by kernel_rfl) (by kernel_rfl) (by kernel_rfl) (fun _ _ _ h => h) (by rfl) ?yav3 ?_
            case yav3 => (intro w'; go_simp; try (with_reducible rfl))
            simp only [Act.put]; try simp only [List.setIfInBounds_toArray]; try simp only [List.set_cons_zero, List.set_cons_succ]
            refine wpAnyT_take (i := 4) (d := some 43) (v := ?vav4) rfl rfl (by kernel_rfl) (by kernel_rfl) (by kernel_rfl) (fun _ _ _ h => h) (by rfl) ?yav4 ?_
            case yav4 => (intro w'; go_simp; try (with_reducible rfl))
            simp only [Act.put]; try simp only [List.setIfInBounds_toArray]; try simp only [List.set_cons_zero, List.set_cons_succ]
            refine wpAnyT_only (i := 2) rfl (by kernel_rfl) (by rfl) fun K hK => ?_
            go_simp
            refine (AD.out _ (show VAt wr.drew _ _ _ from BO.out.vs)).mono ?_
            rintro e w5 ⟨rfl, hv5, hg5⟩
            have V5 := hide hv5
            have R5 : Hid (RefAt w5 r N (nodesUp V N)) := (show RefAt wr.drew r N (nodesUp V N) from BO.out.rs.drewN 1).other hg5 BO.out.gr
            have G5 := hide hg5
            clear hv5 hg5
            refine hK.out _ _ ?_
            clear hK K
            try (simp only [Act.put]; try simp only [List.setIfInBounds_toArray]; try simp only [List.set_cons_zero, List.set_cons_succ])
            refine wpAnyT_only (i := 5) rfl (by kernel_rfl) (by rfl) fun K hK => ?_
            go_simp
            refine (RD.out _ R5.out).mono ?_
            rintro e w6 ⟨rfl, hr6, hg6⟩
            have R6 := hide hr6
            have V6 : Hid (VAt w6 (.pointer (some ⟨g, 0, none⟩)) N U) := vat_other V5.out hg6 (by have := BO.out.gr; omega)
            have G6 := hide hg6
            clear hr6 hg6
            obtain ⟨A6, c6, hb6, ho6, hf6⟩ := R6.out
            rw [HCN.out] at hb6 ho6
            have F6 : Hid (∀ w', Below w6.heap.size w6 w' → w'.cell? ⟨r, 1, none⟩ = some (.slice A6 m6 c6) ∧ IHolds w' w6.heap.size A6 m6 (nodesUp U N)) := fun w' hb => by
              refine ⟨cell_of_row w' r 1 _ _ _ ((hb.block r (lt_of_block hb6)).trans hb6), ?_⟩
              obtain ⟨A7, c7, hv7, _, _, hi7⟩ := IHolds.of_own ho6 hf6
              obtain ⟨rfl, rfl⟩ : A6 = A7 ∧ c6 = c7 := by injection hv7 with e1 _ e3; exact ⟨e1, e3⟩
              exact hi7.below hb
            clear hb6 ho6 hf6
            refine hK.out _ _ ?_
            clear hK K
            try (simp only [Act.put]; try simp only [List.setIfInBounds_toArray]; try simp only [List.set_cons_zero, List.set_cons_succ])
            refine wpAnyT_of_L _ _ _ _ ?_
            refine wpAnyL_take (i := 6) (d := some 45) (v := ?vav6) rfl rfl (by kernel_rfl) (by kernel_rfl) (by kernel_rfl) (fun _ _ _ h => h) (by rfl) ?yav6 ?_
            case yav6 => (intro w' hw'; go_simp; try (with_reducible rfl))
            simp only [Act.put]; try simp only [List.setIfInBounds_toArray]; try simp only [List.set_cons_zero, List.set_cons_succ]
            refine wpAnyL_take (i := 7) (d := some 46) (v := ?vav7) rfl rfl (by kernel_rfl) (by kernel_rfl) (by kernel_rfl) (fun _ _ _ h => h) (by rfl) ?yav7 ?_
            case yav7 => (intro w' hw'; go_simp; try (with_reducible rfl))
            simp only [Act.put]; try simp only [List.setIfInBounds_toArray]; try simp only [List.set_cons_zero, List.set_cons_succ]
            refine wpAnyL_take (i := 8) (d := some 47) (v := ?vav8) rfl rfl (by kernel_rfl) (by kernel_rfl) (by kernel_rfl) (fun _ _ _ h => h) (by rfl) ?yav8 ?_
            case yav8 => (intro w' hw'; go_simp; try (with_reducible rfl))
            simp only [Act.put]; try simp only [List.setIfInBounds_toArray]; try simp only [List.set_cons_zero, List.set_cons_succ]
            refine wpAnyL_take (i := 9) (d := some 48) (v := ?vav9) rfl rfl (by kernel_rfl) (by kernel_rfl) (by kernel_rfl) (fun _ _ _ h => h) (by rfl) ?yav9 ?_
            case yav9 => (intro w' hw'; go_simp; try (with_reducible rfl))
            simp only [Act.put]; try simp only [List.setIfInBounds_toArray]; try simp only [List.set_cons_zero, List.set_cons_succ]
            refine wpAnyL_take (i := 11) (d := some 50) (v := ?vav11) rfl rfl (by kernel_rfl) (by kernel_rfl) (by kernel_rfl) (fun _ _ _ h => h) (by rfl) ?yav11 ?_
            case yav11 => (intro w' hw'; go_simp; try (with_reducible rfl))
            simp only [Act.put]; try simp only [List.setIfInBounds_toArray]; try simp only [List.set_cons_zero, List.set_cons_succ]
            refine wpAnyL_take (i := 12) (d := some 51) (v := ?vav12) rfl rfl (by kernel_rfl) (by kernel_rfl) (by kernel_rfl) (fun _ _ _ h => h) (by rfl) ?yav12 ?_
            case yav12 => (intro w' hw'; go_simp; try (with_reducible rfl))
            simp only [Act.put]; try simp only [List.setIfInBounds_toArray]; try simp only [List.set_cons_zero, List.set_cons_succ]
            refine wpAnyL_only (i := 10) rfl (by kernel_rfl) (by rfl) fun K hK => ?_
            go_simp
            refine (has_any V6.out U32.out x).mono ?_
            rw [← HHB.out]
            rintro e z1 ⟨rfl, qZ1, hzZ1⟩
            have hbZ1 : Below w6.heap.size w6 z1 := by rw [hzZ1]; exact below_drewN _ _ _
            have Z1 : Hid (Below w6.heap.size w6 z1) := hbZ1
            refine hK.out _ _ hbZ1 ?_
            clear hzZ1 hbZ1
            clear hK K
            try (simp only [Act.put]; try simp only [List.setIfInBounds_toArray]; try simp only [List.set_cons_zero, List.set_cons_succ])
            refine wpAnyL_only (i := 13) rfl (by kernel_rfl) (by rfl) fun K hK => ?_
            go_simp
            refine (refhas_any (R6.out.later Z1.out) x (by have := HCN.out; omega)).mono ?_
            rw [HM.out]
            rintro e z2 ⟨rfl, rfl⟩
            refine hK.out _ _ (Later.refl _) ?_
            clear hK K
            try (simp only [Act.put]; try simp only [List.setIfInBounds_toArray]; try simp only [List.set_cons_zero, List.set_cons_succ])
            refine wpAnyL_take (i := 14) (d := some 53) (v := ?vav14) rfl rfl (by kernel_rfl) (by kernel_rfl) (by kernel_rfl) (fun _ _ _ h => h) (by rfl) ?yav14 ?_
            case yav14 => (intro w' hw'; go_simp; try (with_reducible rfl))
            simp only [Act.put]; try simp only [List.setIfInBounds_toArray]; try simp only [List.set_cons_zero, List.set_cons_succ]
            refine wpAnyL_take (i := 15) (d := some 54) (v := ?vav15) rfl rfl (by kernel_rfl) (by kernel_rfl) (by kernel_rfl) (fun _ _ _ h => h) (by rfl) ?yav15 ?_
            case yav15 => (intro w' hw'; go_simp; try (with_reducible rfl))
            simp only [Act.put]; try simp only [List.setIfInBounds_toArray]; try simp only [List.set_cons_zero, List.set_cons_succ]
            refine wpAnyL_take (i := 16) (d := some 55) (v := ?vav16) rfl rfl (by kernel_rfl) (by kernel_rfl) (by kernel_rfl) (fun _ _ _ h => h) (by rfl) ?yav16 ?_
            case yav16 => (intro w' hw'; go_simp; try (with_reducible rfl))
            simp only [Act.put]; try simp only [List.setIfInBounds_toArray]; try simp only [List.set_cons_zero, List.set_cons_succ]
            refine wpAnyL_take (i := 17) (d := some 56) (v := ?vav17) rfl rfl (by kernel_rfl) (by kernel_rfl) (by kernel_rfl) (fun _ _ _ h => h) (by rfl) ?yav17 ?_
            case yav17 => (intro w' hw'; go_simp; try (with_reducible rfl))
            simp only [Act.put]; try simp only [List.setIfInBounds_toArray]; try simp only [List.set_cons_zero, List.set_cons_succ]
            refine wpAnyL_take (i := 19) (d := some 58) (v := ?vav19) rfl rfl (by kernel_rfl) (by kernel_rfl) (by kernel_rfl) (fun _ _ _ h => h) (by rfl) ?yav19 ?_
            case yav19 => (intro w' hw'; go_simp; try (with_reducible rfl))
            simp only [Act.put]; try simp only [List.setIfInBounds_toArray]; try simp only [List.set_cons_zero, List.set_cons_succ]
            refine wpAnyL_take (i := 20) (d := some 59) (v := ?vav20) rfl rfl (by kernel_rfl) (by kernel_rfl) (by kernel_rfl) (fun _ _ _ h => h) (by rfl) ?yav20 ?_
            case yav20 => (intro w' hw'; go_simp; try (with_reducible rfl))
            simp only [Act.put]; try simp only [List.setIfInBounds_toArray]; try simp only [List.set_cons_zero, List.set_cons_succ]
            refine wpAnyL_take (i := 21) (d := some 60) (v := ?vav21) rfl rfl (by kernel_rfl) (by kernel_rfl) (by kernel_rfl) (fun _ _ _ h => h) (by rfl) ?yav21 ?_
            case yav21 => (intro w' hw'; go_simp; try (with_reducible rfl))
            simp only [Act.put]; try simp only [List.setIfInBounds_toArray]; try simp only [List.set_cons_zero, List.set_cons_succ]
            refine wpAnyL_take (i := 22) (d := some 61) (v := .slice A6 m6 c6) rfl rfl (by kernel_rfl) (by kernel_rfl) (by kernel_rfl) (fun _ _ _ h => h) (by rfl) ?yav22 ?_
            case yav22 => (intro w' hw'; have d1 := (F6.out w' (Z1.out.trans (hw'.mono Z1.out.size))).1; go_simp; try (with_reducible rfl))
            simp only [Act.put]; try simp only [List.setIfInBounds_toArray]; try simp only [List.set_cons_zero, List.set_cons_succ]
            refine wpAnyL_take (i := 23) (d := some 62) (v := ?vav23) rfl rfl (by kernel_rfl) (by kernel_rfl) (by kernel_rfl) (fun _ _ _ h => h) (by rfl) ?yav23 ?_
            case yav23 => (intro w' hw'; go_simp; try (with_reducible rfl))
            simp only [Act.put]; try simp only [List.setIfInBounds_toArray]; try simp only [List.set_cons_zero, List.set_cons_succ]
            refine wpAnyL_only (i := 18) rfl (by kernel_rfl) (by rfl) fun K hK => ?_
            go_simp
            refine (count_any (V6.out.kept (Z1.out.block g (lt_of_block V6.out.block))) U32.out).mono ?_
            rw [HC2.out]
            rintro e z2 ⟨rfl, hz2⟩
            obtain rfl := hz2.symm
            refine hK.out _ _ (Later.refl _) ?_
            clear hK K
            try (simp only [Act.put]; try simp only [List.setIfInBounds_toArray]; try simp only [List.set_cons_zero, List.set_cons_succ])
            refine wpAnyL_take (i := 24) (d := some 63) (v := ?vav24) rfl rfl (by kernel_rfl) (by kernel_rfl) (by kernel_rfl) (fun _ _ _ h => h) (by rfl) ?yav24 ?_
            case yav24 => (intro w' hw'; go_simp; try (with_reducible rfl))
            simp only [Act.put]; try simp only [List.setIfInBounds_toArray]; try simp only [List.set_cons_zero, List.set_cons_succ]
            refine wpAnyL_take (i := 25) (d := some 64) (v := ?vav25) rfl rfl (by kernel_rfl) (by kernel_rfl) (by kernel_rfl) (fun _ _ _ h => h) (by rfl) ?yav25 ?_
            case yav25 => (intro w' hw'; go_simp; try (with_reducible rfl))
            simp only [Act.put]; try simp only [List.setIfInBounds_toArray]; try simp only [List.set_cons_zero, List.set_cons_succ]
            refine wpAnyL_take (i := 26) (d := some 65) (v := ?vav26) rfl rfl (by kernel_rfl) (by kernel_rfl) (by kernel_rfl) (fun _ _ _ h => h) (by rfl) ?yav26 ?_
            case yav26 => (intro w' hw'; go_simp; try (with_reducible rfl))
            simp only [Act.put]; try simp only [List.setIfInBounds_toArray]; try simp only [List.set_cons_zero, List.set_cons_succ]
            refine wpAnyL_take (i := 27) (d := some 66) (v := ?vav27) rfl rfl (by kernel_rfl) (by kernel_rfl) (by kernel_rfl) (fun _ _ _ h => h) (by rfl) ?yav27 ?_
            case yav27 => (intro w' hw'; go_simp; try (with_reducible rfl))
            simp only [Act.put]; try simp only [List.setIfInBounds_toArray]; try simp only [List.set_cons_zero, List.set_cons_succ]
            refine wpAnyL_take (i := 29) (d := some 68) (v := ?vav29) rfl rfl (by kernel_rfl) (by kernel_rfl) (by kernel_rfl) (fun _ _ _ h => h) (by rfl) ?yav29 ?_
            case yav29 => (intro w' hw'; go_simp; try (with_reducible rfl))
            simp only [Act.put]; try simp only [List.setIfInBounds_toArray]; try simp only [List.set_cons_zero, List.set_cons_succ]
            refine wpAnyL_only (i := 28) rfl (by kernel_rfl) (by rfl) fun K hK => ?_
            go_simp
            refine (enough_any (V6.out.kept (Z1.out.block g (lt_of_block V6.out.block))) U32.out).mono ?_
            rw [← HEB.out]
            rintro e z3 ⟨rfl, qZ3, hzZ3⟩
            have hbZ3 : Below z1.heap.size z1 z3 := by rw [hzZ3]; exact below_drewN _ _ _
            have Z3 : Hid (Below w6.heap.size w6 z3) := Z1.out.trans (hbZ3.mono Z1.out.size)
            refine hK.out _ _ hbZ3 ?_
            clear hzZ3 hbZ3
            clear hK K
            try (simp only [Act.put]; try simp only [List.setIfInBounds_toArray]; try simp only [List.set_cons_zero, List.set_cons_succ])
            refine wpAnyL_only (i := 30) rfl (by kernel_rfl) (by rfl) fun K hK => ?_
            go_simp
            refine (refenough_any (R6.out.later Z3.out)).mono ?_
            rw [HCN.out, ← HEN.out]
            rintro e z4 ⟨rfl, qZ4, hzZ4⟩
            have hbZ4 : Below z3.heap.size z3 z4 := by rw [hzZ4]; exact below_drewN _ _ _
            have Z4 : Hid (Below w6.heap.size w6 z4) := Z3.out.trans (hbZ4.mono Z3.out.size)
            refine hK.out _ _ hbZ4 ?_
            clear hzZ4 hbZ4
            clear hK K
            try (simp only [Act.put]; try simp only [List.setIfInBounds_toArray]; try simp only [List.set_cons_zero, List.set_cons_succ])
            refine wpAnyL_take (i := 31) (d := some 70) (v := ?vav31) rfl rfl (by kernel_rfl) (by kernel_rfl) (by kernel_rfl) (fun _ _ _ h => h) (by rfl) ?yav31 ?_
            case yav31 => (intro w' hw'; go_simp; try (with_reducible rfl))
            simp only [Act.put]; try simp only [List.setIfInBounds_toArray]; try simp only [List.set_cons_zero, List.set_cons_succ]
            refine wpAnyL_take (i := 32) (d := some 71) (v := ?vav32) rfl rfl (by kernel_rfl) (by kernel_rfl) (by kernel_rfl) (fun _ _ _ h => h) (by rfl) ?yav32 ?_
            case yav32 => (intro w' hw'; go_simp; try (with_reducible rfl))
            simp only [Act.put]; try simp only [List.setIfInBounds_toArray]; try simp only [List.set_cons_zero, List.set_cons_succ]
            refine wpAnyL_take (i := 33) (d := some 72) (v := ?vav33) rfl rfl (by kernel_rfl) (by kernel_rfl) (by kernel_rfl) (fun _ _ _ h => h) (by rfl) ?yav33 ?_
            case yav33 => (intro w' hw'; go_simp; try (with_reducible rfl))
            simp only [Act.put]; try simp only [List.setIfInBounds_toArray]; try simp only [List.set_cons_zero, List.set_cons_succ]
            refine wpAnyL_take (i := 34) (d := some 73) (v := ?vav34) rfl rfl (by kernel_rfl) (by kernel_rfl) (by kernel_rfl) (fun _ _ _ h => h) (by rfl) ?yav34 ?_
            case yav34 => (intro w' hw'; go_simp; try (with_reducible rfl))
            simp only [Act.put]; try simp only [List.setIfInBounds_toArray]; try simp only [List.set_cons_zero, List.set_cons_succ]
            refine wpAnyL_take (i := 36) (d := some 75) (v := ?vav36) rfl rfl (by kernel_rfl) (by kernel_rfl) (by kernel_rfl) (fun _ _ _ h => h) (by rfl) ?yav36 ?_
            case yav36 => (intro w' hw'; go_simp; try (with_reducible rfl))
            simp only [Act.put]; try simp only [List.setIfInBounds_toArray]; try simp only [List.set_cons_zero, List.set_cons_succ]
            refine wpAnyL_take (i := 37) (d := some 76) (v := ?vav37) rfl rfl (by kernel_rfl) (by kernel_rfl) (by kernel_rfl) (fun _ _ _ h => h) (by rfl) ?yav37 ?_
            case yav37 => (intro w' hw'; go_simp; try (with_reducible rfl))
            simp only [Act.put]; try simp only [List.setIfInBounds_toArray]; try simp only [List.set_cons_zero, List.set_cons_succ]
            refine wpAnyL_take (i := 38) (d := some 77) (v := ?vav38) rfl rfl (by kernel_rfl) (by kernel_rfl) (by kernel_rfl) (fun _ _ _ h => h) (by rfl) ?yav38 ?_
            case yav38 => (intro w' hw'; go_simp; try (with_reducible rfl))
            simp only [Act.put]; try simp only [List.setIfInBounds_toArray]; try simp only [List.set_cons_zero, List.set_cons_succ]
            refine wpAnyL_take (i := 39) (d := some 78) (v := .slice A6 m6 c6) rfl rfl (by kernel_rfl) (by kernel_rfl) (by kernel_rfl) (fun _ _ _ h => h) (by rfl) ?yav39 ?_
            case yav39 => (intro w' hw'; have d1 := (F6.out w' (Z4.out.trans (hw'.mono Z4.out.size))).1; go_simp; try (with_reducible rfl))
            simp only [Act.put]; try simp only [List.setIfInBounds_toArray]; try simp only [List.set_cons_zero, List.set_cons_succ]
            refine wpAnyL_only (i := 35) rfl (by kernel_rfl) (by rfl) fun K hK => ?_
            go_simp
            refine (nodes_yes (V6.out.kept (Z4.out.block g (lt_of_block V6.out.block))) U32.out HN.out).mono ?_
            rw [show (N : Int).toNat = N from rfl]
            rintro e z5 ⟨A7, n7, c7, rfl, ho7, hi7, _, hb7⟩
            have I7 := hide hi7
            have Z5 : Hid (Below w6.heap.size w6 z5) := Z4.out.trans (hb7.mono Z4.out.size)
            have hn7 : n7 = m6 := by have := hi7.1; have := HCN.out; omega
            have hn8 : n7 ≤ 1099511627000 := by omega
            have hn9 : m6 ≤ 1099511627000 := by omega
            have C40 := hide (refints_any A7 A6 n7 c7 m6 c6 z5.heap.size w6.heap.size (nodesUp U N) (nodesUp U N) z5 hi7 (F6.out z5 Z5.out).2 hn8 hn9)
            rw [eqI_self] at C40
            clear hn7 hn8 hn9
            refine hK.out _ _ hb7 ?_
            clear ho7 hi7 hb7
            clear hK K
            try (simp only [Act.put]; try simp only [List.setIfInBounds_toArray]; try simp only [List.set_cons_zero, List.set_cons_succ])
            refine wpAnyL_only (i := 40) rfl (by kernel_rfl) (by rfl) fun K hK => ?_
            go_simp
            refine C40.out.mono ?_
            rintro e z6 ⟨rfl, q6, hz6⟩
            have hb8 : Below z5.heap.size z5 z6 := by rw [hz6]; exact below_drewN _ _ _
            have ZZ : Hid (Below w6.heap.size w6 z6) := Z5.out.trans (hb8.mono Z5.out.size)
            refine hK.out _ _ hb8 ?_
            clear hz6 hb8
            clear hK K
            try (simp only [Act.put]; try simp only [List.setIfInBounds_toArray]; try simp only [List.set_cons_zero, List.set_cons_succ])
            refine wpAnyL_take (i := 41) (d := some 80) (v := ?vav41) rfl rfl (by kernel_rfl) (by kernel_rfl) (by kernel_rfl) (fun _ _ _ h => h) (by rfl) ?yav41 ?_
            case yav41 => (intro w' hw'; go_simp; try (with_reducible rfl))
            simp only [Act.put]; try simp only [List.setIfInBounds_toArray]; try simp only [List.set_cons_zero, List.set_cons_succ]
            refine wpAnyL_take (i := 42) (d := some 81) (v := ?vav42) rfl rfl (by kernel_rfl) (by kernel_rfl) (by kernel_rfl) (fun _ _ _ h => h) (by rfl) ?yav42 ?_
            case yav42 => (intro w' hw'; go_simp; try (with_reducible rfl))
            simp only [Act.put]; try simp only [List.setIfInBounds_toArray]; try simp only [List.set_cons_zero, List.set_cons_succ]
            refine wpAnyL_done (by kernel_rfl) ?_ _
            go_wp2
            go_roundw
            case rel =>
              have hz := ZZ.out
              refine ⟨k + 1, U, by go_num, by omega, ⟨V6.out.kept (hz.block g (lt_of_block V6.out.block)), R6.out.later hz, VLT.out, BO.out.gr, BO.out.og, ?_⟩⟩
              have b5 : Below w.heap.size w w5 := (BO.out.bel.drew).grown G5.out BO.out.bel.size (fun k hk => by have := Option.some.inj hk; have := BO.out.og; omega)
              have b6 : Below w.heap.size w w6 := b5.grown G6.out b5.size (fun k hk => by have := Option.some.inj hk; have := BO.out.og; have := BO.out.gr; omega)
              exact b6.trans (hz.mono b6.size)
            case measure => simp [Go.RowKit.intOf]; omega
        · go_wp2_with (fail)
          refine (LV.out _).mono ?_
          rintro e w2 ⟨rfl, hq⟩
          obtain rfl := hq.symm
          go_wp2
          go_ret
          exact ⟨rfl, BO.out.bel⟩
    · have C1 := hide (new_yes (n := n) w hn)
      have C2 := hide (fun w => refnew_yes (n := n) w hn)
      clear hn
      go_enter Try.func4, Try.ntmps4
      go_wp2_with (fail)
      refine C1.out.mono ?_
      rintro e w1 ⟨rfl, hw1⟩
      have HW1 := hide hw1
      clear hw1
      go_wp2_with (fail)
      refine (C2.out _).mono ?_
      rintro e w2 ⟨rfl, hw2⟩
      have B2 : Hid (Below w.heap.size w w2) := by
        have b1 : Below w.heap.size w w1 := by rw [HW1.out]; exact (Below.refl _ _).alloc (Nat.le_refl _) _
        have b2 : Below w1.heap.size w1 w2 := by rw [hw2]; exact (Below.refl _ _).alloc (Nat.le_refl _) _
        exact b1.trans (b2.mono b1.size)
      clear hw2
      go_wp2_with (fail)
      refine (LV.out _).mono ?_
      rintro e w3 ⟨rfl, hq⟩
      obtain rfl := hq.symm
      go_wp2
      go_ret
      exact ⟨rfl, B2.out⟩
  · have hn : okN n = false := by simpa using hn
    have C1 := hide (new_no (n := n) w hn)
    have C2 := hide (refnew_no (n := n) w hn)
    clear hn
    go_enter Try.func4, Try.ntmps4
    go_wp2_with (fail)
    refine C1.out.mono ?_
    rintro e w1 ⟨rfl, hq⟩
    obtain rfl := hq.symm
    go_wp2_with (fail)
    refine C2.out.mono ?_
    rintro e w1 ⟨rfl, hq⟩
    obtain rfl := hq.symm
    go_wp2_with (fail)
    refine (LV.out _).mono ?_
    rintro e w1 ⟨rfl, hq⟩
    obtain rfl := hq.symm
    go_wp2
    go_ret
    exact ⟨rfl, Below.refl _ _⟩
end Go.Proofs.Ytnmkndnaomgmhaa
