/- The walk over droverlaw02.EnvelopeBack: what was sealed is opened, whatever stands behind; cut off it is too short; of another version it is old. -/
import Derived.Test.YtjbnilippcdgeaaDoorFlips
namespace Go.Proofs.YtjbnilippcdgeaaDoor
open Go.RowKit

set_option maxHeartbeats 8000000 in
set_option maxRecDepth 100000 in
theorem law_back (A : Option Addr) (n c : Nat) (l : List Nat) (A0 : Option Addr) (m c0 : Nat) (r : List Nat) (V : Nat) (w : World) (hl : Holds w w.heap.size A n l) (hn : n ≤ 140737488355328)
    (hr : Holds w w.heap.size A0 m r) (hm : m ≤ 140737488355328) (hV : V < 18446744073709551616) (hT : Tab w) :
    Calls Tryd.prog 4 #[.slice A n c, .slice A0 m c0, .int .u64 V] w fun e w' => e = .returned (.bool true) ∧ Below w.heap.size w w' := by
  have Hl := hide hl
  have HT := hide hT
  have HV := hide hV
  have Hr := hide hr
  clear hl hT hV hr
  by_cases h2 : 3000 < n + m
  · go_enter Tryd.func4, Tryd.ntmps4
    go_wp2_with (fail)
    refine (lives_any _ HT.out).mono ?_
    rintro e w1 ⟨rfl, b1⟩
    go_wp2
    go_ret
    exact ⟨rfl, b1⟩
  · have hlen := Hl.out.1
    have hsl := sealed_len (l := l) (by omega)
    have hel := enc_len l.length
    obtain ⟨L, hL⟩ : ∃ L, L = (sealed l).length := ⟨_, rfl⟩
    have hL6 : 6 ≤ L := by omega
    have hLb : L ≤ 3100 := by omega
    obtain ⟨R, hR⟩ : ∃ R, R = sealed l := ⟨_, rfl⟩
    have hRs : Hid (∀ x ∈ R, x < 256) := hide (by rw [hR]; exact sealed_small Hl.out.2.1)
    have hRL : R.length = L := by rw [hR, hL]
    have q1 : opn (R ++ r) = (l, L, 0) := by rw [hR, hL]; exact opn_sealed r (by omega)
    have q2 : ∀ k, k < L → opn (R.take k) = ([], 0, 3) := fun k hk => by rw [hR]; exact opn_cut (by omega) (by omega)
    have q3 : opn (R.set 0 4) = ([], 0, 5) := opn_old (by rw [List.length_set]; omega) (by simp [List.getD, show 0 < R.length by omega])
    have q4 : R.getD 0 0 = 3 := by rw [hR, sealed_is (by omega)]; rfl
    have Q1 := hide q1
    have Q2 := hide q2
    have Q3 := hide q3
    have Q4 := hide q4
    have HR := hide hR
    have HRL := hide hRL
    have Hlen := hide hlen
    obtain ⟨S, hS⟩ : ∃ S, S = str l := ⟨_, rfl⟩
    have HS := hide hS
    have hSS : (S.toList == S.toList) = true := by simp
    obtain ⟨k, hk⟩ : ∃ k, k = V % L := ⟨_, rfl⟩
    have hk1 : k < L := by rw [hk]; exact Nat.mod_lt _ (by omega)
    have hki : (V : Int) % (L : Int) = (k : Int) := by rw [hk]; exact (Int.natCast_emod _ _).symm
    have Hk := hide hk
    clear hsl hel hL hR hlen hRL q1 q2 q3 q4 hS hk
    obtain ⟨i0, hi, hz0, hz1, hz2⟩ := info_parts Tryd.infoU8
    go_enter Tryd.func4, Tryd.ntmps4
    go_wp2_with (fail)
    refine (seal_any A n c _ l _ Hl.out (Nat.le_refl _) (by omega) HT.out).mono ?_
    rintro e w1 ⟨A1, n1, c1, rfl, _, h1, hc1, b1⟩
    rw [← HR.out] at h1
    obtain rfl : n1 = L := by rw [← HRL.out]; exact h1.1.symm
    have L1 := hide (show Later w w1 from b1)
    have H1 := hide h1
    have S1 : w.heap.size ≤ w1.heap.size := L1.out.size
    obtain ⟨A5, hA5, hcut⟩ := cut_to A1 n1 c1 k (by omega)
    have H5 := hide (h1.to (h := k) (by omega) hc1 hA5)
    have HA5 := hide hA5
    clear b1 h1 hA5
    have o1 := hide (empty_row w1)
    have M1 := hide (show Below w1.heap.size w1 (w1.alloc (.cells #[] 5)) from (Below.refl _ _).alloc (Nat.le_refl _) _)
    go_wp2_with (first
      | (at_builtin; refine wpList_append_bytes _ rfl (.tmp 36) (.tmp 37) 22 rfl w1.heap.size 5 i0 (.int .u8 0) Tryd.underlying22 hi hz0 hz1 hz2 rfl _ 0 (bvs []) rfl o1.out _ A1 n1 c1 R rfl (H1.out.later M1.out) (by omega) (by simp) ?_; intro v2 w2 o2 g2; have O2 := hide o2; have L2 := hide (show Below w1.heap.size w1 w2 from M1.out.trans (g2.below o1.out (by simp))); clear o2 g2)
      | (at_builtin; refine wpList_append_bytes _ rfl (.tmp 38) (.tmp 39) 22 rfl w1.heap.size 5 i0 (.int .u8 0) Tryd.underlying22 hi hz0 hz1 hz2 rfl _ (0 + n1) _ rfl O2.out _ A0 m c0 r rfl (Hr.out.later (L1.out.trans L2.out)) (by omega) L2.out.size ?_; intro v3 w3 o3 g3; have L3 := hide (L2.out.trans (g3.below O2.out L2.out.size)); have o3' : w3.ownsRow w1.heap.size 5 1 v3 (n1 + m) (bvs (R ++ r)) := (by simpa [bvs] using o3); obtain ⟨g, c3, rfl, hg, hgs, hc3, _⟩ := own_at o3' (by omega); have O3 := hide o3'; clear o3 g3 o3'))
    have h3 := (own_holds O3.out (fun x hx => (List.mem_append.1 hx).elim (hRs.out x) (Hr.out.2.1 x))).2
    have L3' := hide (L1.out.trans (show Later w1 w3 from L3.out))
    have hop := open_is _ (n1 + m) c3 _ _ _ _ w3 h3 (by omega) (by omega) (HT.out.later L3'.out) Q1.out
    clear h3
    refine hop.mono ?_
    rintro e w4 ⟨A4, n4, c4, rfl, h4, _, b4⟩
    have L4 := hide (show Below w1.heap.size w1 w4 from L3.out.trans (b4.mono L3.out.size))
    have K4 := hide (L3'.out.trans b4)
    obtain rfl : n4 = n := by rw [← Hlen.out]; exact h4.1.symm
    have H4 := hide h4
    clear b4 hop h4 O3 O2
    go_wp2_with (fail)
    refine (open_is A5 k c1 _ _ _ _ w4 (H5.out.later L4.out) (by omega) (by omega) (HT.out.later K4.out) (Q2.out k hk1)).mono ?_
    rintro e w5 ⟨A6, n6, c6, rfl, _, _, b5⟩
    have L5 := hide (show Below w1.heap.size w1 w5 from L4.out.trans (b5.mono L4.out.size))
    have K5 := hide (K4.out.trans b5)
    have T5 := hide b5
    clear b5
    have o5 := hide (empty_row w5)
    have M5 := hide (show Below w5.heap.size w5 (w5.alloc (.cells #[] 5)) from (Below.refl _ _).alloc (Nat.le_refl _) _)
    have M5' := hide (show Below w1.heap.size w1 (w5.alloc (.cells #[] 5)) from L5.out.trans (M5.out.mono L5.out.size))
    go_wp2_with (at_builtin; refine wpList_append_bytes _ rfl (.tmp 58) (.tmp 59) 22 rfl w5.heap.size 5 i0 (.int .u8 0) Tryd.underlying22 hi hz0 hz1 hz2 rfl _ 0 (bvs []) rfl o5.out _ A1 n1 c1 R rfl (H1.out.later M5'.out) (by omega) (by simp) ?_; intro v6 w6 o6 g6; have o6' : w6.ownsRow w5.heap.size 5 1 v6 n1 (bvs R) := (by simpa [bvs] using o6); have L6 := hide (show Below w5.heap.size w5 w6 from M5.out.trans (g6.below o5.out (by simp))); obtain ⟨g7, c7, rfl, hg7, hgs7, hc7, _⟩ := own_at o6' (by omega); have O6 := hide o6'; have hce := own_cell o6' (i := 0) (by omega); rw [Q4.out] at hce; have hfz := o6'.frozenAt 0; clear o6 g6 o6')
    obtain ⟨o8, g8⟩ := own_set O6.out 0 4
    have L8 := hide (show Below w5.heap.size w5 (w6.setCell ⟨g7, 0, none⟩ (.int .u8 ((4 : Nat) : Int))) from L6.out.grown g8 L6.out.size (by intro k hk; cases hk; exact hg7))
    have h8 := (own_holds o8 (set_small hRs.out (by omega))).2
    have K8 := hide (K5.out.trans (show Later w5 _ from L8.out))
    have hop := open_is _ n1 c7 _ _ _ _ _ h8 (by omega) hc7 (HT.out.later K8.out) Q3.out
    clear o8 g8 h8
    refine hop.mono ?_
    rintro e w9 ⟨A9, n9, c9, rfl, _, _, b9⟩
    have L9 := hide (show Below w5.heap.size w5 w9 from L8.out.trans (b9.mono L8.out.size))
    have K9 := hide (K5.out.trans (show Later w5 _ from L9.out))
    have d1 := run_str w9 _ A4 n4 c4 _ (H4.out.later (T5.out.trans (show Later w5 w9 from L9.out)))
    have d2 := run_str w9 _ A n4 c _ (Hl.out.later K9.out)
    rw [← HS.out] at d1 d2
    clear b9 hop hce hfz
    go_wp2_with (fail)
    refine (lives_any _ (HT.out.later K9.out)).mono ?_
    rintro e w10 ⟨rfl, b10⟩
    have K10 := hide (K9.out.trans b10)
    clear b10
    go_wp2
    go_ret
    exact ⟨rfl, K10.out⟩
end Go.Proofs.YtjbnilippcdgeaaDoor
