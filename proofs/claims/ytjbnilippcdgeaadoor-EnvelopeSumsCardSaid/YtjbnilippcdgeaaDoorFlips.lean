/- The walk over droverlaw02.EnvelopeFlips: with a bit behind the version turned an envelope is not told whole. -/
import Derived.Test.YtjbnilippcdgeaaDoorLives2
import Derived.Test.YtjbnilippcdgeaaDoorFlipMath
namespace Go.Proofs.YtjbnilippcdgeaaDoor
open Go.RowKit

/-- append([]byte{}, s...), the row of the call's own made at w. -/
theorem empty_row (w : World) : (w.alloc (.cells #[] 5)).ownsRow w.heap.size 5 1 (.slice (some ⟨w.heap.size, 0, none⟩) 0 0) 0 (bvs []) := World.ownsRow_lit w #[] 0 (Nat.le_refl _) (by simp [maxLen]) rfl

theorem flip_int {x j : Nat} (hx : x < 256) (hj : j < 8) : bits .xor .u8 (x : Int) (2 ^ j % 256) = ((x ^^^ 2 ^ j : Nat) : Int) := by
  have hp : (2 : Nat) ^ j < 2 ^ 8 := Nat.pow_lt_pow_right (by omega) hj
  have e : (2 : Int) ^ j % 256 = ((2 ^ j : Nat) : Int) := by
    have h1 : ((2 ^ j : Nat) : Int) = (2 : Int) ^ j := Int.natCast_pow 2 j
    have h2 : 2 ^ j % 256 = 2 ^ j := Nat.mod_eq_of_lt hp
    rw [← h1, show (256 : Int) = ((256 : Nat) : Int) from rfl, ← Int.natCast_emod, h2]
  rw [e]
  exact u8_xor_nat x (2 ^ j) hx (by omega)

set_option maxHeartbeats 4000000 in
set_option maxRecDepth 100000 in
theorem law_flips (A : Option Addr) (n c : Nat) (l : List Nat) (V : Nat) (w : World) (hl : Holds w w.heap.size A n l) (hn : n ≤ 9223372036854775807) (hV : V < 18446744073709551616) (hT : Tab w) :
    Calls Tryd.prog 5 #[.slice A n c, .int .u64 V] w fun e w' => e = .returned (.bool true) ∧ Below w.heap.size w w' := by
  have hlen := hl.1
  have Hl := hide hl
  have HT := hide hT
  have HV := hide hV
  clear hl hT hV
  by_cases h2 : 2000 < n
  · clear hlen
    go_enter Tryd.func5, Tryd.ntmps5
    go_wp2_with (fail)
    refine (lives_any _ HT.out).mono ?_
    rintro e w1 ⟨rfl, b1⟩
    go_wp2
    go_ret
    exact ⟨rfl, b1⟩
  · have hsl := sealed_len (l := l) (by omega)
    have hel := enc_len l.length
    obtain ⟨L, hL⟩ : ∃ L, L = (sealed l).length := ⟨_, rfl⟩
    have hL6 : 6 ≤ L := by omega
    have hLb : L ≤ 2100 := by omega
    obtain ⟨R, hR⟩ : ∃ R, R = sealed l := ⟨_, rfl⟩
    have HL := hide hL
    have HR := hide hR
    have Hlen := hide hlen
    have hRs : Hid (∀ x ∈ R, x < 256) := hide (by rw [hR]; exact sealed_small Hl.out.2.1)
    have Hx := hide (And.intro hsl hel)
    clear hsl hel hL hR hlen
    obtain ⟨i0, hi, hz0, hz1, hz2⟩ := info_parts Tryd.infoU8
    go_enter Tryd.func5, Tryd.ntmps5
    go_wp2_with (fail)
    refine (seal_any A n c _ l _ (Hl.out.below ((Below.refl _ _).alloc (Nat.le_refl _) _)) (by simp) (by omega) (HT.out.below ((Below.refl w.heap.size _).alloc (Nat.le_refl _) _) HT.out.1)).mono ?_
    rintro e w1 ⟨A1, n1, c1, rfl, _, h1, hc1, b1⟩
    rw [← HR.out] at h1
    obtain rfl : n1 = L := by rw [HL.out, ← HR.out]; exact h1.1.symm
    have o1 := own_below (empty_row w) b1
    have ba : Below w.heap.size w (w.alloc (.cells #[] 5)) := (Below.refl _ _).alloc (Nat.le_refl _) _
    have L1 := hide (ba.trans (b1.mono (by simp)))
    have S1 : w.heap.size ≤ w1.heap.size := L1.out.size
    clear b1 ba
    obtain ⟨r, hr⟩ : ∃ r, r = V % (8 * (n1 - 1)) := ⟨_, rfl⟩
    have hr1 : r < 8 * (n1 - 1) := by rw [hr]; exact Nat.mod_lt _ (by omega)
    have hri : (V : Int) % (8 * ((n1 : Int) - 1)) = (r : Int) := by
      rw [hr, show 8 * ((n1 : Int) - 1) = ((8 * (n1 - 1) : Nat) : Int) by omega]
      exact (Int.natCast_emod _ _).symm
    obtain ⟨i, hii⟩ : ∃ i, i = (8 + r) / 8 := ⟨_, rfl⟩
    obtain ⟨j, hjj⟩ : ∃ j, j = (8 + r) % 8 := ⟨_, rfl⟩
    have hdi : ((8 : Int) + (r : Int)) / 8 = (i : Int) := by omega
    have hdj : ((8 : Int) + (r : Int)) % 8 = (j : Int) := by omega
    have hi1 : i < n1 := by omega
    have hi0 : 1 ≤ i := by omega
    have hj8 : j < 8 := by omega
    have Hr := hide hr
    have Hii := hide hii
    have Hjj := hide hjj
    clear hr hii hjj
    go_wp2_with (at_builtin; refine wpList_append_bytes _ rfl (.tmp 14) (.tmp 16) 22 rfl w.heap.size 5 i0 (.int .u8 0) Tryd.underlying22 hi hz0 hz1 hz2 rfl _ 0 (bvs []) rfl o1 w1.heap.size A1 n1 c1 R rfl h1 (by omega) S1 ?_; intro v2 w2 o2 g2; have o2' : w2.ownsRow w.heap.size 5 1 v2 n1 (bvs R) := (by simpa [bvs] using o2); have L2 := hide (L1.out.trans (g2.below o1 S1)); obtain ⟨g, c2, rfl, hg, hgs, hc2, _⟩ := own_at o2' (by omega); have O2 := hide o2'; have hce := own_cell o2' (i := i) hi1; have hfz := o2'.frozenAt i; obtain ⟨x, hx⟩ : ∃ x, x = R.getD i 0 := ⟨_, rfl⟩; rw [← hx] at hce; have hx256 : x < 256 := (by rw [hx]; exact Holds.byte (own_holds o2' hRs.out).2 hi1); obtain ⟨y, hy⟩ : ∃ y, y = x ^^^ 2 ^ j := ⟨_, rfl⟩; have hyy := flip_int hx256 hj8; rw [← hy] at hyy; have Hyy := hide (And.intro hx hy); clear o1 o2 g2 o2' h1 hx hy)
    have hy2 := bit_turned hx256 hj8
    rw [← Hyy.out.2] at hy2
    obtain ⟨o3, g3⟩ := own_set O2.out i y
    have hsm3 := set_small (i := i) (x := y) hRs.out hy2.1
    have h3 := (own_holds o3 hsm3).2
    have L3 : Below w.heap.size w (w2.setCell ⟨g, i, none⟩ (.int .u8 (y : Int))) := L2.out.grown g3 L2.out.size (by intro k hk; cases hk; exact hg)
    have hR := HR.out
    have hRe : R = sealP l ++ four (sum (sealP l)) := by
      rw [hR]
      unfold sealed
      rw [if_neg (by have := Hlen.out; omega)]
    have hlenR : R.length = n1 := by rw [hR]; exact HL.out.symm
    have hturn : (opn (R.set i y)).2.2 = 0 → (opn (R.set i y)).2.1 ≠ n1 := by
      rw [← hlenR, hRe]
      exact opn_turned (sealP_small Hl.out.2.1) (by rw [← hRe, hlenR]; exact hi1) hy2.1 (by rw [← hRe, ← Hyy.out.1]; exact hy2.2)
    obtain ⟨p, kk, er, ho⟩ : ∃ p kk er, opn (R.set i y) = (p, kk, er) := ⟨_, _, _, rfl⟩
    have herr := opn_err (l := R.set i y)
    rw [ho] at hturn herr
    simp only at hturn herr
    have L3' := hide L3
    have hT3 := HT.out.below L3 HT.out.1
    have hop := open_is _ n1 c2 _ p kk er _ h3 (by omega) hc2 hT3 ho
    clear o3 g3 hsm3 h3 L3 hR hRe hT3 hlenR ho hy2
    refine hop.mono ?_
    rintro e w4 ⟨A4, n4, c4, rfl, _, _, b4⟩
    have L4 := hide (L3'.out.trans (b4.mono L3'.out.size))
    clear b4 hop
    by_cases he : er = 0
    · have hk := hturn he
      have hk' : ((kk : Int) != (n1 : Int)) = true := by simp; omega
      subst he
      clear hturn herr
      go_wp2_with (fail)
      refine (lives_any _ (HT.out.below L4.out HT.out.1)).mono ?_
      rintro e w5 ⟨rfl, b5⟩
      have L5 := hide (L4.out.trans (b5.mono L4.out.size))
      clear b5
      go_wp2
      go_ret
      exact ⟨rfl, L5.out⟩
    · obtain ⟨_, rfl⟩ := herr he
      have he' : ((er : Int) != 0) = true := by simp; omega
      clear hturn herr
      go_wp2_with (fail)
      refine (lives_any _ (HT.out.below L4.out HT.out.1)).mono ?_
      rintro e w5 ⟨rfl, b5⟩
      have L5 := hide (L4.out.trans (b5.mono L4.out.size))
      clear b5
      go_wp2
      go_ret
      exact ⟨rfl, L5.out⟩
end Go.Proofs.YtjbnilippcdgeaaDoor
