/- The walks over draw.Shuffle, and over the document's own. -/
import Derived.Test.YtccneonplpmiaaaShuf
import Derived.Deep.AppendLies
namespace Go.Proofs.Ytccneonplpmiaaa
open Go.RowKit

theorem shuffle_any (g k c : Nat) (A : Option Addr) (n cap : Nat) (l : List Int) (w : World) (hd : DrawAt 43 w g k c) (hk : k < 4294967296) (hc : c < 1000000) (hl : IHolds w w.heap.size A n l) (hn : n ≤ 1000000) :
    Calls Try.prog 22 #[.pointer (some ⟨g, 0, none⟩), .slice A n cap] w (Shuffled 43 w g k c n l) := by
  have C := hide (order_any g k c A n cap l w hd hk hc hl hn)
  clear hd hk hc hl hn
  go_enter Try.func22, Try.ntmps22
  go_wp2_with (fail)
  refine (made_any _ _).mono ?_
  rintro e w1 ⟨rfl, rfl⟩
  go_wp2_with (fail)
  refine C.out.mono ?_
  rintro e w1 ⟨A1, c1, rfl, h1, h2, h3⟩
  have H : Hid (Shuffled 43 w g k c n l (.returned (.slice A1 n c1)) w1) := ⟨A1, c1, rfl, h1, h2, h3⟩
  clear h1 h2 h3
  go_wp2
  go_ret
  exact H.out

set_option maxHeartbeats 1000000 in
set_option maxRecDepth 100000 in
theorem refshuffle_any (g k c : Nat) (A : Option Addr) (n cap : Nat) (l : List Int) (w : World) (hd : DrawAt 35 w g k c) (hk : k < 4294967296) (hc : c < 1000000) (hl : IHolds w w.heap.size A n l) (hn : n ≤ 1000000) :
    Calls Try.prog 23 #[.pointer (some ⟨g, 0, none⟩), .slice A n cap] w (Shuffled 35 w g k c n l) := by
  obtain ⟨i0, hi, hz0, hz1, hz2⟩ := info_parts Try.infoI64
  have HD := hide hd
  have HL := hide hl
  have hgl : Hid (g < w.heap.size) := hd.lt
  clear hd hl
  go_enter Try.func23, Try.ntmps23
  have s0 := World.ownsRow_lit (base := w.heap.size) (e := 3) (size := 1) w #[] 0 (Nat.le_refl _) (by simp [maxLen]) rfl
  have HA : Hid (Below w.heap.size w (w.alloc (.cells #[] 3))) := (Below.refl _ _).alloc (Nat.le_refl _) _
  have HLA := hide (HL.out.below HA.out)
  have HS0 := hide s0
  clear s0
  go_wp2_with (at_builtin; refine wpList_append_ints _ rfl (.tmp 8) (.tmp 9) 27 rfl w.heap.size 3 i0 (.int .i64 0) Try.underlying27 hi hz0 hz1 hz2 rfl _ 0 [] rfl HS0.out w.heap.size A n cap l rfl HLA.out (by omega) HA.out.size ?_; intro v2 w2 o2 g2; rw [List.nil_append] at o2; obtain ⟨A2, c2, hv2, _, _, _⟩ := IHolds.of_own o2 HL.out.2.1; subst hv2; have HO2 := hide o2; have HB2 := hide (g2.below HS0.out HA.out.size); clear o2 g2)
  have b2 : Below w.heap.size w w2 := HA.out.trans HB2.out
  try rw [Nat.zero_add] at HO2
  have S0 : ShufAt 35 w w2 g k c n l (.slice A2 n c2) n :=
    ⟨c, l, Nat.le_refl _, fun h => h, HL.out.1, HL.out.2.1, rfl, rfl, HD.out.below b2 hgl.out, HO2.out, grown_later b2 _⟩
  clear b2
  go_loopw [6] (fun i wr => ∃ m : Nat, i = .int .i64 ((m : Int) - 1) ∧ ShufAt 35 w wr g k c n l (.slice A2 n c2) m) (fun i _ => (intOf i).toNat)
  case atStart => exact ⟨n, rfl, S0⟩
  case round =>
    obtain ⟨m, rfl, hat⟩ := hrel
    by_cases h2 : 2 ≤ m
    · obtain ⟨q, rfl⟩ : ∃ q, m = q + 1 := ⟨m - 1, by omega⟩
      rw [show ((q + 1 : Nat) : Int) - 1 = (q : Int) by omega]
      obtain ⟨c', L, hm, _, hlen, hfit, hsh, hcnt, hd, ho, hg⟩ := hat
      rw [shuf_step (by omega)] at hsh
      obtain ⟨j, hj⟩ : ∃ j, j = raw k c' % (q + 1) := ⟨_, rfl⟩
      rw [← hj] at hsh
      have lj : j < n := by have := Nat.mod_lt (raw k c') (show 0 < q + 1 by omega); omega
      have lq : q < n := by omega
      obtain ⟨G, cG, hA2, hG0, _, _, _⟩ := iown_at ho (by omega)
      obtain ⟨rfl, rfl⟩ : A2 = some ⟨G, 0, none⟩ ∧ c2 = cG := by
        injection hA2 with e1 _ e3
        exact ⟨e1, e3⟩
      have HG0 := hide hG0
      clear hA2 hG0
      have C2 := hide (refbelow_yes g k c' ((q : Int) + 1) wr hd hk (by omega) (by omega) (by omega))
      rw [show ((raw k c' : Nat) : Int) % ((q : Int) + 1) = (j : Int) by rw [hj, Int.natCast_emod]; rfl] at C2
      have HSH := hide hsh
      have HCN := hide hcnt
      have HO := hide ho
      have HG := hide hg
      have Hlen := hide hlen
      have Hfit := hide hfit
      have hq0 : 0 < q := by omega
      clear hj hsh hcnt hd ho hg hlen hfit h2
      go_wp2_with (fail)
      refine C2.out.mono ?_
      rintro e w3 ⟨rfl, h1, h2⟩
      have HD3 := hide h1
      have HG3 := hide h2
      have HO3 := hide (HO.out.kept h2 (.inr (fun e => by
        have e2 : G = g := Option.some.inj e
        have := hgl.out; have := HG0.out
        omega)))
      clear h1 h2
      have cq := iown_cell HO3.out lq
      have cj := iown_cell HO3.out lj
      have fq := iown_free HO3.out q
      have fj := iown_free HO3.out j
      have hsw := swapped HO3.out q j
      have cz := iown_cell (iown_set HO3.out q (L.getD j 0)).1 lj
      have fz := iown_free (iown_set HO3.out q (L.getD j 0)).1 j
      obtain ⟨X, hX⟩ : ∃ X, X = L.getD q 0 := ⟨_, rfl⟩
      obtain ⟨Y, hY⟩ : ∃ Y, Y = L.getD j 0 := ⟨_, rfl⟩
      rw [← hX, ← hY] at hsw
      rw [← hX] at cq
      rw [← hY] at cj cz fz
      obtain ⟨Z, hZ⟩ : ∃ Z, Z = (L.set q Y).getD j 0 := ⟨_, rfl⟩
      rw [← hZ] at cz
      have HSW := hide hsw
      clear hX hY hZ hsw
      go_wp2
      go_region
      have O4 : Hid (((w3.setCell ⟨G, q, none⟩ (.int .i64 Y)).setCell ⟨G, j, none⟩ (.int .i64 X)).drew.ownsRow w.heap.size 3 1 (.slice (some ⟨G, 0, none⟩) n c2) n (ivs (swp L q j))) := HSW.out.1
      have G4 : Hid (w3.grownBy ((w3.setCell ⟨G, q, none⟩ (.int .i64 Y)).setCell ⟨G, j, none⟩ (.int .i64 X)).drew (some G)) := ⟨HSW.out.2.os, HSW.out.2.tape, HSW.out.2.output, HSW.out.2.size, HSW.out.2.block⟩
      clear HSW cz fz cq cj fq fj
      obtain ⟨w4, hw4⟩ : ∃ w4, w4 = ((w3.setCell ⟨G, q, none⟩ (.int .i64 Y)).setCell ⟨G, j, none⟩ (.int .i64 X)).drew := ⟨_, rfl⟩
      rw [← hw4] at O4 G4
      rw [← hw4]
      clear hw4
      go_wp2
      go_roundw
      case rel =>
        refine ⟨q, rfl, c' + 1, swp L q j, by omega, fun _ => by omega, by rw [swp_len]; exact Hlen.out, swp_fit Hfit.out _ _, HSH.out, by have := HCN.out; omega, HD3.out.other G4.out (fun e => by
          have e2 : g = G := Option.some.inj e
          have := hgl.out; have := HG0.out
          omega), O4.out, grown_new (grown_trans HG.out HG3.out) G4.out HG0.out⟩
      case measure => simp [intOf]; omega
    · have HE := hide (shufAt_end hat (by omega))
      have ht : decide ((0 : Int) < (m : Int) - 1) = false := by simp only [decide_eq_false_iff_not]; omega
      have ht3 : decide ((1 : Int) ≤ (m : Int) - 1) = false := by simp only [decide_eq_false_iff_not]; omega
      have hm1 : m ≤ 1 := by omega
      have ht2 : decide ((1 : Int) < (m : Int)) = false := by simp only [decide_eq_false_iff_not]; omega
      clear h2 hat
      go_wp2
      go_ret
      exact HE.out
end Go.Proofs.Ytccneonplpmiaaa
