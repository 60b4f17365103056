/- The walk over droverlaw03.DrawShuffles: shuffled, a list has the same items; the same draws shuffle the same; the list itself stays. -/
import Derived.Test.YtccneonplpmiaaaShuf2
import Derived.Test.YtccneonplpmiaaaLives3
import Derived.Test.YtccneonplpmiaaaRefInts
namespace Go.Proofs.Ytccneonplpmiaaa
open Go.RowKit

/-- How many of the k first ones are x. -/
def cnt (l : List Int) (x : Int) (k : Nat) : Nat := (l.take k).count x
theorem cnt_le (l : List Int) (x : Int) (k : Nat) : cnt l x k ≤ k := Nat.le_trans List.count_le_length (List.length_take_le _ _)
theorem cnt_yes {l : List Int} {x : Int} {k : Nat} (hk : k < l.length) (h : l.getD k 0 = x) : cnt l x (k + 1) = cnt l x k + 1 := by
  have e : l.getD k 0 = l[k] := by simp [List.getD, hk]
  unfold cnt
  rw [List.take_succ_eq_append_getElem hk, List.count_append, ← e, h]
  simp
theorem cnt_no {l : List Int} {x : Int} {k : Nat} (hk : k < l.length) (h : l.getD k 0 ≠ x) : cnt l x (k + 1) = cnt l x k := by
  have e : l.getD k 0 = l[k] := by simp [List.getD, hk]
  unfold cnt
  rw [List.take_succ_eq_append_getElem hk, List.count_append, ← e, List.count_singleton, if_neg (by simpa using h)]
  rfl
theorem cnt_all {l : List Int} {x : Int} {k : Nat} (h : l.length = k) : cnt l x k = l.count x := by
  unfold cnt
  rw [List.take_of_length_le (by omega)]

theorem below_drewN (B : Nat) (w : World) (n : Nat) : Below B w (w.drewN n) := ⟨rfl, rfl, rfl, Nat.le_refl _, fun _ _ => rfl⟩

set_option maxHeartbeats 2000000 in
set_option maxRecDepth 100000 in
theorem law_shuffles (S : Nat) (A : Option Addr) (n cap : Nat) (l : List Int) (w : World) (hS : S < 18446744073709551616) (hl : IHolds w w.heap.size A n l) (hn : n ≤ maxLen) :
    Calls Try.prog 6 #[.int .u64 S, .slice A n cap] w fun e w' => e = .returned (.bool true) ∧ Below w.heap.size w w' := by
  obtain ⟨i0, hi, hz0, hz1, hz2⟩ := info_parts Try.infoI64
  unfold maxLen at hn
  have hk := keyOf_lt hS
  have C1 := hide (fun w => new_any S w hS)
  have HS := hide hS
  clear hS
  obtain ⟨k, hke⟩ : ∃ k, k = keyOf S := ⟨_, rfl⟩
  rw [← hke] at hk
  have HK := hide hke
  have HL := hide hl
  clear hke hl
  by_cases hlong : 200 < n
  · go_enter Try.func6, Try.ntmps6
    go_wp2_with (fail)
    refine (lives_any _).mono ?_
    rintro e w2 ⟨rfl, b⟩
    go_wp2
    go_ret
    exact ⟨rfl, b⟩
  · have s0 := World.ownsRow_lit (base := w.heap.size) (e := 3) (size := 1) w #[] 0 (Nat.le_refl _) (by simp [maxLen]) rfl
    have HA : Hid (Below w.heap.size w (w.alloc (.cells #[] 3))) := (Below.refl _ _).alloc (Nat.le_refl _) _
    have HLA := hide (HL.out.below HA.out)
    have HS0 := hide s0
    clear s0
    go_enter Try.func6, Try.ntmps6
    go_wp2_with (at_builtin; refine wpList_append_ints _ rfl (.tmp 17) (.tmp 18) 27 rfl w.heap.size 3 i0 (.int .i64 0) Try.underlying27 hi hz0 hz1 hz2 rfl _ 0 [] rfl HS0.out w.heap.size A n cap l rfl HLA.out (by omega) HA.out.size ?_; intro v1 w1 o1 g1; rw [List.nil_append, Nat.zero_add] at o1; obtain ⟨A1, c1, hv1, _, _, h1⟩ := IHolds.of_own o1 HL.out.2.1; subst hv1; have HH1 := hide h1; have HB1 := hide (HA.out.trans (g1.below HS0.out HA.out.size)); clear o1 g1 h1)
    refine (C1.out w1).mono ?_
    rintro e w2 ⟨g, rfl, hg, hd, hl⟩
    rw [← HK.out] at hd
    have HG := hide hg
    have HL2 : Hid (Below w1.heap.size w1 w2) := hl
    have hLw : IHolds w2 w2.heap.size A n l := (HL.out.below (HB1.out.trans (HL2.out.mono HB1.out.size))).more (Nat.le_trans HB1.out.size HL2.out.size)
    have C2 := hide (shuffle_any g k 0 A n cap l w2 hd hk (by decide) hLw (by omega))
    clear hg hd hl hLw
    go_wp2_with (fail)
    refine C2.out.mono ?_
    rintro e w3 ⟨Aa, ca, rfl, oa, _, ga⟩
    have ha := (IHolds.of_own oa (shuf_fit k n 0 l HL.out.2.1))
    obtain ⟨Aa', ca', hva, _, _, hha⟩ := ha
    obtain ⟨rfl, rfl⟩ : Aa = Aa' ∧ ca = ca' := by injection hva with e1 _ e3; exact ⟨e1, e3⟩
    have HHA := hide hha
    have HGA := hide ga
    clear oa ga hha hva
    go_wp2_with (fail)
    refine (C1.out w3).mono ?_
    rintro e w4 ⟨g', rfl, hg, hd, hl⟩
    rw [← HK.out] at hd
    have HG' := hide hg
    have HL4 : Hid (Below w3.heap.size w3 w4) := hl
    have B13 : Hid (Below w1.heap.size w1 w3) := HL2.out.trans (below_grown HGA.out HG.out HL2.out.size)
    have B14 : Hid (Below w1.heap.size w1 w4) := B13.out.trans (HL4.out.mono B13.out.size)
    have hLw : IHolds w4 w4.heap.size A n l := (HL.out.below (HB1.out.trans (B14.out.mono HB1.out.size))).more (Nat.le_trans HB1.out.size B14.out.size)
    have C3 := hide (shuffle_any g' k 0 A n cap l w4 hd hk (by decide) hLw (by omega))
    clear hg hd hl hLw
    go_wp2_with (fail)
    refine C3.out.mono ?_
    rintro e w5 ⟨Ab, cb, rfl, ob, _, gb⟩
    obtain ⟨Ab', cb', hvb, _, _, hhb⟩ := IHolds.of_own ob (shuf_fit k n 0 l HL.out.2.1)
    obtain ⟨rfl, rfl⟩ : Ab = Ab' ∧ cb = cb' := by injection hvb with e1 _ e3; exact ⟨e1, e3⟩
    have HHB := hide hhb
    have HGB := hide gb
    clear ob gb hhb hvb
    have B35 : Hid (Below w3.heap.size w3 w5) := HL4.out.trans (below_grown HGB.out HG'.out HL4.out.size)
    have B15 : Hid (Below w1.heap.size w1 w5) := B13.out.trans (B35.out.mono B13.out.size)
    have B05 : Hid (Below w.heap.size w w5) := HB1.out.trans (B15.out.mono HB1.out.size)
    have IA : Hid (IHolds w5 w3.heap.size Aa n (shuf k n 0 l)) := HHA.out.below B35.out
    have IW : Hid (IHolds w5 w1.heap.size A1 n l) := HH1.out.below B15.out
    have IL : Hid (IHolds w5 w.heap.size A n l) := HL.out.below B05.out
    have C4 := hide (refints_any Aa Ab n ca n cb _ _ _ _ w5 IA.out HHB.out (by omega) (by omega))
    rw [eqI_self] at C4
    go_wp2_with (fail)
    refine C4.out.mono ?_
    rintro e w6 ⟨rfl, hq⟩
    have C5 := hide (refints_any A A1 n cap n c1 _ _ _ _ w6 (show IHolds w6 w.heap.size A n l by obtain ⟨q, rfl⟩ := hq; exact IL.out) (show IHolds w6 w1.heap.size A1 n l by obtain ⟨q, rfl⟩ := hq; exact IW.out) (by omega) (by omega))
    rw [eqI_self] at C5
    have HQ := hide hq
    clear hq
    go_wp2_with (fail)
    refine C5.out.mono ?_
    rintro e w7 ⟨rfl, hq⟩
    have JA : Hid (IHolds w7 w3.heap.size Aa n (shuf k n 0 l)) := by
      obtain ⟨q, rfl⟩ := hq
      obtain ⟨q2, hq2⟩ := HQ.out
      subst hq2
      exact IA.out
    have JL : Hid (IHolds w7 w.heap.size A n l) := by
      obtain ⟨q, rfl⟩ := hq
      obtain ⟨q2, hq2⟩ := HQ.out
      subst hq2
      exact IL.out
    have B07 : Hid (Below w.heap.size w w7) := by
      obtain ⟨q, rfl⟩ := hq
      obtain ⟨q2, hq2⟩ := HQ.out
      subst hq2
      exact B05.out.trans ((below_drewN _ _ q2).trans (below_drewN _ _ q))
    clear hq
    have hnn : ((n : Int) != (n : Int)) = false := by simp
    obtain ⟨L, hLe⟩ : ∃ L, L = shuf k n 0 l := ⟨_, rfl⟩
    have HC : Hid (∀ x, L.count x = l.count x) := fun x => by rw [hLe]; exact shuf_count k x n 0 l (by rw [HL.out.1]; omega)
    rw [← hLe] at JA
    clear hLe
    go_wp2
    go_loop [47] (fun j => ∃ m : Nat, m ≤ n ∧ j = .int .i64 (m : Int)) (fun j => n - (intOf j).toNat)
    case atStart => exact ⟨0, by omega, rfl⟩
    case round =>
      obtain ⟨m, hm, rfl⟩ := hrel
      by_cases hmn : m < n
      · obtain ⟨b, off, rfl, _, hc⟩ := JL.out.at_ hmn
        obtain ⟨x, hx⟩ : ∃ x, x = l.getD m 0 := ⟨_, rfl⟩
        rw [← hx] at hc
        clear hx
        go_wp2
        clear hc
        go_loop [10, 11, 53] (fun a b j => ∃ i : Nat, i ≤ n ∧ j = .int .i64 (i : Int) ∧ a = .int .i64 ((cnt l x i : Nat) : Int) ∧ b = .int .i64 ((cnt L x i : Nat) : Int)) (fun _ _ j => n - (intOf j).toNat)
        case atStart => exact ⟨0, by omega, rfl, rfl, rfl⟩
        case round =>
          obtain ⟨i, hin, rfl, rfl, rfl⟩ := hrel
          have k1 := cnt_le l x i
          have k2 := cnt_le L x i
          by_cases hi2 : i < n
          · have hll : i < l.length := by rw [HL.out.1]; exact hi2
            have hLL : i < L.length := by rw [JA.out.1]; exact hi2
            obtain ⟨b1, o1, e1, _, c1⟩ := JL.out.at_ hi2
            obtain ⟨b2, o2, e2, _, c2⟩ := JA.out.at_ hi2
            cases e1
            subst e2
            obtain ⟨y, hy⟩ : ∃ y, y = l.getD i 0 := ⟨_, rfl⟩
            obtain ⟨z, hz⟩ : ∃ z, z = L.getD i 0 := ⟨_, rfl⟩
            rw [← hy] at c1
            rw [← hz] at c2
            have s1 : Hid (cnt l x (i + 1) = if y = x then cnt l x i + 1 else cnt l x i) := by
              show _ = _
              split
              · rename_i h; exact cnt_yes hll (by rw [← hy]; exact h)
              · rename_i h; exact cnt_no hll (by rw [← hy]; exact h)
            have s2 : Hid (cnt L x (i + 1) = if z = x then cnt L x i + 1 else cnt L x i) := by
              show _ = _
              split
              · rename_i h; exact cnt_yes hLL (by rw [← hz]; exact h)
              · rename_i h; exact cnt_no hLL (by rw [← hz]; exact h)
            obtain ⟨p, hp⟩ : ∃ p, p = cnt l x i := ⟨_, rfl⟩
            obtain ⟨r, hr⟩ : ∃ r, r = cnt L x i := ⟨_, rfl⟩
            rw [← hp] at s1 k1
            rw [← hr] at s2 k2
            rw [← hp, ← hr]
            clear hy hz hp hr hll hLL
            by_cases h1 : y = x
            all_goals by_cases h2 : z = x
            all_goals
              first
                | have t1 : (y == x) = true := by simpa using h1
                | have t1 : (y == x) = false := by simpa using h1
              first
                | have t2 : (z == x) = true := by simpa using h2
                | have t2 : (z == x) = false := by simpa using h2
              have S1 := s1.out
              have S2 := s2.out
              simp only [h1, h2, if_true, if_false] at S1 S2
              have SS1 := hide S1
              have SS2 := hide S2
              clear s1 s2 S1 S2 h1 h2
              go_wp2
              go_round
              case rel => exact ⟨i + 1, by omega, by go_num, by first | (rw [SS1.out]; done) | (rw [SS1.out]; go_num), by first | (rw [SS2.out]; done) | (rw [SS2.out]; go_num)⟩
              case measure => simp [intOf]; omega
          · have e1 : cnt l x i = cnt L x i := by
              rw [cnt_all (by rw [HL.out.1]; omega), cnt_all (by rw [JA.out.1]; omega), HC.out]
            obtain ⟨p, hp⟩ : ∃ p, p = cnt L x i := ⟨_, rfl⟩
            rw [e1, ← hp]
            have t1 : ((p : Int) != (p : Int)) = false := by simp
            clear e1 hp k1 k2
            go_wp2
            go_round
            case rel => exact ⟨m + 1, by omega, by go_num⟩
            case measure => simp [intOf]; omega
      · go_wp2_with (fail)
        refine (lives_any _).mono ?_
        rintro e w8 ⟨rfl, b⟩
        go_wp2
        go_ret
        exact ⟨rfl, B07.out.trans (b.mono B07.out.size)⟩
end Go.Proofs.Ytccneonplpmiaaa
