/- The walks over draw.Shuffle and the document's: items change places, the last one first. -/
import Derived.Test.YtccneonplpmiaaaShufMath
import Derived.Laws.CopyOwn
import Derived.OwnWalk
import Derived.RegionTactic
import Derived.BigRegion
namespace Go.Proofs.Ytccneonplpmiaaa
open Go.RowKit

/-- What lies in new blocks may be written: to who stands before, only block r has turned. -/
theorem grown_new {a b c : World} {r : Option Nat} {q : Nat} (h : a.grownBy b r) (k : b.grownBy c (some q)) (hq : a.heap.size ≤ q) : a.grownBy c r :=
  ⟨k.os.trans h.os, k.tape.trans h.tape, k.output.trans h.output, Nat.le_trans h.size k.size, fun i hi hne => (k.block i (Nat.lt_of_lt_of_le hi h.size) (fun e => by
    have := Option.some.inj e
    omega)).trans (h.block i hi hne)⟩

/-- What Shuffle does: a new row, the draw further on, nothing else. -/
def Shuffled (T : TypeId) (w : World) (g k c n : Nat) (l : List Int) (e : Ending) (w' : World) : Prop :=
  ∃ A cap, e = .returned (.slice A n cap) ∧ w'.ownsRow w.heap.size 3 1 (.slice A n cap) n (ivs (shuf k n c l)) ∧ DrawAt T w' g k (c + (n - 1)) ∧ w.grownBy w' (some g)

/-- Where the loop stands: m items are still to change places. -/
def ShufAt (T : TypeId) (w wr : World) (g k c n : Nat) (l : List Int) (v : Value) (m : Nat) : Prop :=
  ∃ c' L, m ≤ n ∧ (0 < n → 0 < m) ∧ L.length = n ∧ Fit L ∧ shuf k m c' L = shuf k n c l ∧ c' + m = c + n ∧ DrawAt T wr g k c' ∧ wr.ownsRow w.heap.size 3 1 v n (ivs L) ∧ w.grownBy wr (some g)
theorem shufAt_end {T : TypeId} {w wr : World} {g k c n m : Nat} {l : List Int} {A : Option Addr} {cap : Nat} (h : ShufAt T w wr g k c n l (.slice A n cap) m) (hm : m ≤ 1) : Shuffled T w g k c n l (.returned (.slice A n cap)) wr := by
  obtain ⟨c', L, h1, h2, h3, h4, h5, h6, h7, h8, h9⟩ := h
  rw [shuf_small hm] at h5
  subst h5
  have e : c + (n - 1) = c' := by omega
  exact ⟨A, cap, rfl, h8, by rw [e]; exact h7, h9⟩

theorem swapped {w : World} {base g n c : Nat} {L : List Int} (h : w.ownsRow base 3 1 (.slice (some ⟨g, 0, none⟩) n c) n (ivs L)) (i j : Nat) :
    ((w.setCell ⟨g, i, none⟩ (.int .i64 (L.getD j 0))).setCell ⟨g, j, none⟩ (.int .i64 (L.getD i 0))).ownsRow base 3 1 (.slice (some ⟨g, 0, none⟩) n c) n (ivs (swp L i j)) ∧
      w.grownBy ((w.setCell ⟨g, i, none⟩ (.int .i64 (L.getD j 0))).setCell ⟨g, j, none⟩ (.int .i64 (L.getD i 0))) (some g) :=
  ⟨(iown_set (iown_set h i (L.getD j 0)).1 j (L.getD i 0)).1, grown_trans (grown_set _ _ _ _) (grown_set _ _ _ _)⟩

set_option maxHeartbeats 1000000 in
set_option maxRecDepth 100000 in
theorem order_any (g k c : Nat) (A : Option Addr) (n cap : Nat) (l : List Int) (w : World) (hd : DrawAt 43 w g k c) (hk : k < 4294967296) (hc : c < 1000000) (hl : IHolds w w.heap.size A n l) (hn : n ≤ 1000000) :
    Calls Try.prog 30 #[.func (.func 18) #[.pointer (some ⟨g, 0, none⟩)] #[], .slice A n cap] w (Shuffled 43 w g k c n l) := by
  obtain ⟨i0, hi, hz0, hz1, hz2⟩ := info_parts Try.infoI64
  have HD := hide hd
  have HL := hide hl
  have hgl : Hid (g < w.heap.size) := hd.lt
  clear hd hl
  go_enter Try.func30, Try.ntmps30
  go_wp2_with (first
    | (at_make; refine wpList_make_full _ rfl _ _ 27 rfl w.heap.size 3 i0 (.int .i64 0) 1 Try.underlying27 hi hz0 hz1 _ _ _ _ n rfl rfl rfl rfl (by rw [hz2]; omega) (by simp only [maxLen]; omega) (Nat.le_refl _) ?_; intro w1 hown1 hg1; have HO1 := hide hown1; have HB1 := hide ((Below.refl w.heap.size w).grown hg1 (Nat.le_refl _) (by simp)); have HL1 := hide (HL.out.below HB1.out); clear hown1 hg1)
    | ((with_reducible refine wpList_copy_ints rfl (.tmp 11) (.tmp 12) rfl w.heap.size w.heap.size n A cap w.heap.size l _ rfl rfl HO1.out HL1.out (Nat.le_refl _) (by simp only [maxLen]; omega) ?_); intro w2 HO2 HB2))
  have b2 : Below w.heap.size w w2 := HB1.out.trans HB2.out
  have S0 : ShufAt 43 w w2 g k c n l (.slice (some ⟨w.heap.size, 0, none⟩) n n) n :=
    ⟨c, l, Nat.le_refl _, fun h => h, HL.out.1, HL.out.2.1, rfl, rfl, HD.out.below b2 hgl.out, HO2.out, grown_later b2 _⟩
  clear b2
  go_loopw [6] (fun i wr => ∃ m : Nat, i = .int .i64 ((m : Int) - 1) ∧ ShufAt 43 w wr g k c n l (.slice (some ⟨w.heap.size, 0, none⟩) n n) m) (fun i _ => (intOf i).toNat)
  case atStart => exact ⟨n, rfl, S0⟩
  case round =>
    obtain ⟨m, rfl, hat⟩ := hrel
    by_cases h2 : 2 ≤ m
    · obtain ⟨q, rfl⟩ : ∃ q, m = q + 1 := ⟨m - 1, by omega⟩
      rw [show ((q + 1 : Nat) : Int) - 1 = (q : Int) by omega]
      obtain ⟨c', L, hm, _, hlen, hfit, hsh, hcnt, hd, ho, hg⟩ := hat
      rw [shuf_step (by omega)] at hsh
      obtain ⟨j, hj⟩ : ∃ j, j = raw k c' % (q + 1) := ⟨_, rfl⟩
      rw [← hj] at hsh
      have lj : j < n := by have := Nat.mod_lt (raw k c') (show 0 < q + 1 by omega); omega
      have lq : q < n := by omega
      have C2 := hide (below_yes g k c' ((q : Int) + 1) wr hd hk (by omega) (by omega) (by omega))
      rw [show ((raw k c' : Nat) : Int) % ((q : Int) + 1) = (j : Int) by rw [hj, Int.natCast_emod]; rfl] at C2
      have HSH := hide hsh
      have HCN := hide hcnt
      have HO := hide ho
      have HG := hide hg
      have Hlen := hide hlen
      have Hfit := hide hfit
      have hq0 : 0 < q := by omega
      clear hj hsh hcnt hd ho hg hlen hfit h2
      go_wp2_with (fail)
      refine C2.out.mono ?_
      rintro e w3 ⟨rfl, h1, h2⟩
      have HD3 := hide h1
      have HG3 := hide h2
      have HO3 := hide (HO.out.kept h2 (.inr (fun e => by
        have e2 : w.heap.size = g := Option.some.inj e
        have := hgl.out
        omega)))
      clear h1 h2
      have cq := iown_cell HO3.out lq
      have cj := iown_cell HO3.out lj
      have fq := iown_free HO3.out q
      have fj := iown_free HO3.out j
      have hsw := swapped HO3.out q j
      have cz := iown_cell (iown_set HO3.out q (L.getD j 0)).1 lj
      have fz := iown_free (iown_set HO3.out q (L.getD j 0)).1 j
      obtain ⟨X, hX⟩ : ∃ X, X = L.getD q 0 := ⟨_, rfl⟩
      obtain ⟨Y, hY⟩ : ∃ Y, Y = L.getD j 0 := ⟨_, rfl⟩
      rw [← hX, ← hY] at hsw
      rw [← hX] at cq
      rw [← hY] at cj cz fz
      obtain ⟨Z, hZ⟩ : ∃ Z, Z = (L.set q Y).getD j 0 := ⟨_, rfl⟩
      rw [← hZ] at cz
      have HSW := hide hsw
      clear hX hY hZ hsw
      go_wp2
      go_region
      have O4 : Hid (((w3.setCell ⟨w.heap.size, q, none⟩ (.int .i64 Y)).setCell ⟨w.heap.size, j, none⟩ (.int .i64 X)).drew.ownsRow w.heap.size 3 1 (.slice (some ⟨w.heap.size, 0, none⟩) n n) n (ivs (swp L q j))) := HSW.out.1
      have G4 : Hid (w3.grownBy ((w3.setCell ⟨w.heap.size, q, none⟩ (.int .i64 Y)).setCell ⟨w.heap.size, j, none⟩ (.int .i64 X)).drew (some w.heap.size)) := ⟨HSW.out.2.os, HSW.out.2.tape, HSW.out.2.output, HSW.out.2.size, HSW.out.2.block⟩
      clear HSW cz fz cq cj fq fj
      obtain ⟨w4, hw4⟩ : ∃ w4, w4 = ((w3.setCell ⟨w.heap.size, q, none⟩ (.int .i64 Y)).setCell ⟨w.heap.size, j, none⟩ (.int .i64 X)).drew := ⟨_, rfl⟩
      rw [← hw4] at O4 G4
      rw [← hw4]
      clear hw4
      go_wp2
      go_roundw
      case rel =>
        refine ⟨q, rfl, c' + 1, swp L q j, by omega, fun _ => by omega, by rw [swp_len]; exact Hlen.out, swp_fit Hfit.out _ _, HSH.out, by have := HCN.out; omega, HD3.out.other G4.out (fun e => by
          have e2 : g = w.heap.size := Option.some.inj e
          have := hgl.out
          omega), O4.out, grown_new (grown_trans HG.out HG3.out) G4.out (Nat.le_refl _)⟩
      case measure => simp [intOf]; omega
    · have HE := hide (shufAt_end hat (by omega))
      have ht : decide ((0 : Int) < (m : Int) - 1) = false := by simp only [decide_eq_false_iff_not]; omega
      have ht2 : decide ((1 : Int) < (m : Int)) = false := by simp only [decide_eq_false_iff_not]; omega
      clear h2 hat
      go_wp2
      go_ret
      exact HE.out
end Go.Proofs.Ytccneonplpmiaaa
