/- The walk over droverlaw02.EnvelopeSums: one bit more or less is another sum; the sums of two texts, xored, are the sum of both, but for that of noughts. -/
import Derived.Test.YtjbnilippcdgeaaDoorFlips
import Derived.OwnWalk
import Derived.RegionTactic
import Derived.BigRegion
namespace Go.Proofs.YtjbnilippcdgeaaDoor
open Go.RowKit

def zeros (n : Nat) : List Nat := List.replicate n 0
theorem zeros_small (n : Nat) : ∀ x ∈ zeros n, x < 256 := by
  intro x hx
  rw [List.eq_of_mem_replicate hx]
  decide
theorem zeros_made (n : Nat) : (madeCells (Value.int .u8 0).cells (n * 1)).toList = bvs (zeros n) := by
  have e : (Value.int .u8 0).cells = #[.int .u8 0] := rfl
  rw [e]
  apply List.ext_getElem?
  intro i
  by_cases hi : i < n
  · have h1 : (bvs (zeros n))[i]? = some (.int .u8 0) := by
      rw [bvs_get (by simpa [zeros] using hi)]
      simp [zeros, List.getD, hi]
    rw [h1]
    simp [madeCells, hi, Nat.mod_one]
  · rw [List.getElem?_eq_none (by simp [madeCells]; omega), List.getElem?_eq_none (by simp [bvs, zeros]; omega)]



theorem own_lt {w : World} {base e n g c : Nat} {l : List Nat} (h : w.ownsRow base e 1 (.slice (some ⟨g, 0, none⟩) n c) n (bvs l)) : g < w.heap.size := by
  rcases h.2 with ⟨h0, _⟩ | ⟨g', cap, cur, hv, hb, hg, _⟩
  · cases h0
  · simp only [Value.slice.injEq, Option.some.injEq, Addr.mk.injEq, and_true, true_and] at hv
    obtain ⟨rfl, _⟩ := hv
    rcases Nat.lt_or_ge g w.heap.size with hlt | hge
    · exact hlt
    · rw [Array.getElem?_eq_none hge] at hg
      cases hg

/-- make([]byte, n). -/
theorem op_make_bytes {o : Oper} {a : Act} {K : Act → World → Prop} {Q : Exit → Act → World → Prop} {w : World} {n d : Nat} {l c : Operand} (hop : o.op = Op.makeSlice 22 l c) (hd : o.dst = some d) (hl : a.eval l = .int .i64 (n : Int)) (hc : a.eval c = .int .i64 (n : Int)) (hn : n ≤ 281474976710656)
    (hK : ∀ g w', w.heap.size ≤ g → g < w'.heap.size → w'.ownsRow w.heap.size 5 1 (.slice (some ⟨g, 0, none⟩) n n) n (bvs (zeros n)) → Later w w' → K (a.put (some d) (.slice (some ⟨g, 0, none⟩) n n)) w') : Oper.wp Tryd.prog o a w K Q := by
  obtain ⟨i0, hi, hz0, hz1, hz2⟩ := info_parts Tryd.infoU8
  obtain ⟨w', hrun, r1, r2⟩ := run_make_full (P := Tryd.prog) w w.heap.size 22 5 i0 _ 1 Tryd.underlying22 hi hz0 hz1 .i64 .i64 n (by rw [hz2]; omega) (by simp only [maxLen]; omega) (Nat.le_refl _)
  unfold Oper.wp
  simp [execOp, hop, hl, hc, hrun, Result.andThen]
  rw [zeros_made] at r1
  show K (a.put o.dst (.slice (some ⟨w.heap.size, 0, none⟩) n n)) w'
  rw [hd]
  exact hK w.heap.size w' (Nat.le_refl _) (own_lt r1) r1 ((Below.refl _ _).grown r2 (Nat.le_refl _) (by simp))
theorem pow_int {j : Nat} (hj : j < 8) : (2 : Int) ^ j % 256 = ((2 ^ j : Nat) : Int) := by
  have hp : (2 : Nat) ^ j < 2 ^ 8 := Nat.pow_lt_pow_right (by omega) hj
  have h1 : ((2 ^ j : Nat) : Int) = (2 : Int) ^ j := Int.natCast_pow 2 j
  have h2 : 2 ^ j % 256 = 2 ^ j := Nat.mod_eq_of_lt hp
  rw [← h1, show (256 : Int) = ((256 : Nat) : Int) from rfl, ← Int.natCast_emod, h2]
theorem sum_is (A : Option Addr) (n c B S : Nat) (l : List Nat) (w : World) (hl : Holds w B A n l) (hn : n ≤ 1099511627000) (hT : Tab w) (h : sum l = S) :
    Calls Tryd.prog 10 #[.slice A n c] w fun e w' => e = .returned (.int .u32 S) ∧ w = w' :=
  (sum_any A n c B l w hl hn hT).mono fun e w' ⟨h1, h2⟩ => by rw [h] at h1; exact ⟨h1, h2⟩

theorem zip_mem : ∀ {a b : List Nat} {x : Nat}, x ∈ List.zipWith (· ^^^ ·) a b → ∃ y z, y ∈ a ∧ z ∈ b ∧ x = y ^^^ z
  | [], _, _, h => by simp at h
  | _ :: _, [], _, h => by simp at h
  | y :: a, z :: b, x, h => by
    rw [List.zipWith_cons_cons, List.mem_cons] at h
    rcases h with rfl | h
    · exact ⟨y, z, by simp, by simp, rfl⟩
    · obtain ⟨y', z', h1, h2, h3⟩ := zip_mem h
      exact ⟨y', z', by simp [h1], by simp [h2], h3⟩
/-- What the loop has laid by now. -/
def mixed (l b : List Nat) (n k : Nat) : List Nat := (List.zipWith (· ^^^ ·) l b).take k ++ zeros (n - k)
theorem mixed_next {l b : List Nat} {n k : Nat} (hl : l.length = n) (hb : b.length = n) (hk : k < n) : (mixed l b n k).set k (l.getD k 0 ^^^ b.getD k 0) = mixed l b n (k + 1) := by
  have hz : (List.zipWith (· ^^^ ·) l b).length = n := by simp [hl, hb]
  have ht : ((List.zipWith (· ^^^ ·) l b).take k).length = k := by rw [List.length_take, hz]; omega
  have e1 : zeros (n - k) = 0 :: zeros (n - (k + 1)) := by
    unfold zeros
    rw [show n - k = (n - (k + 1)) + 1 by omega, List.replicate_succ]
  unfold mixed
  rw [List.set_append_right _ _ (by omega), ht, Nat.sub_self, e1, List.set_cons_zero, List.take_succ_eq_append_getElem (by omega), List.append_assoc]
  have h1 : l.getD k 0 = l[k] := by simp [List.getD, hl, hk]
  have h2 : b.getD k 0 = b[k] := by simp [List.getD, hb, hk]
  rw [h1, h2, List.getElem_zipWith]
  rfl
theorem mixed_all {l b : List Nat} {n k : Nat} (hl : l.length = n) (hb : b.length = n) (hk : k ≤ n) (h : ¬ k < n) : mixed l b n k = List.zipWith (· ^^^ ·) l b := by
  have hz : (List.zipWith (· ^^^ ·) l b).length = n := by simp [hl, hb]
  have e : k = n := by omega
  unfold mixed
  rw [e, Nat.sub_self, List.take_of_length_le (by omega)]
  simp [zeros]
theorem mixed_len {l b : List Nat} {n k : Nat} (hl : l.length = n) (hb : b.length = n) (hk : k ≤ n) : (mixed l b n k).length = n := by
  have hz : (List.zipWith (· ^^^ ·) l b).length = n := by simp [hl, hb]
  unfold mixed
  rw [List.length_append, List.length_take, hz]
  simp [zeros]
  omega
/-- One byte turned, written as a list that is xored. -/
theorem zip_one {l : List Nat} {n i d : Nat} (hl : l.length = n) : List.zipWith (· ^^^ ·) l ((zeros n).set i d) = l.set i (l.getD i 0 ^^^ d) := by
  apply List.ext_getElem
  · simp [hl, zeros]
  · intro k h1 h2
    rw [List.length_set] at h2
    rw [List.getElem_zipWith, List.getElem_set, List.getElem_set]
    by_cases hk : i = k
    · subst hk
      simp [List.getD, h2]
    · simp [hk, zeros]
theorem sums_math {l : List Nat} {n i j : Nat} (hl : l.length = n) (hs : ∀ x ∈ l, x < 256) (hi : i < n) (hj : j < 8) :
    sum (List.zipWith (· ^^^ ·) l ((zeros n).set i (2 ^ j))) = sum l ^^^ sum ((zeros n).set i (2 ^ j)) ^^^ sum (zeros n) ∧ sum (List.zipWith (· ^^^ ·) l ((zeros n).set i (2 ^ j))) ≠ sum l := by
  refine ⟨?_, ?_⟩
  · rw [sum_zip (by simp [hl, zeros]), hl]
    rfl
  · rw [zip_one hl]
    have hb : l.getD i 0 < 256 := by
      have h : l.getD i 0 = l[i] := by simp [List.getD, hl, hi]
      rw [h]
      exact hs _ (List.getElem_mem _)
    have h2 := bit_turned hb hj
    exact sum_set (by omega) hs h2.1 h2.2

set_option maxHeartbeats 8000000 in
set_option maxRecDepth 100000 in
theorem law_sums (A : Option Addr) (n c : Nat) (l : List Nat) (V : Nat) (w : World) (hl : Holds w w.heap.size A n l) (hn : n ≤ 9223372036854775807) (hV : V < 18446744073709551616) (hT : Tab w) :
    Calls Tryd.prog 6 #[.slice A n c, .int .u64 V] w fun e w' => e = .returned (.bool true) ∧ Below w.heap.size w w' := by
  have hlen := hl.1
  have Hl := hide hl
  have HT := hide hT
  have HV := hide hV
  clear hl hT hV
  by_cases h2 : 2000 < n
  · clear hlen
    go_enter Tryd.func6, Tryd.ntmps6
    go_wp2_with (fail)
    refine (lives_any _ HT.out).mono ?_
    rintro e w1 ⟨rfl, b1⟩
    go_wp2
    go_ret
    exact ⟨rfl, b1⟩
  · by_cases h0 : n = 0
    · have h0i : ((n : Int) == 0) = true := by simp; omega
      clear hlen
      go_enter Tryd.func6, Tryd.ntmps6
      go_wp2_with (fail)
      refine (lives_any _ HT.out).mono ?_
      rintro e w1 ⟨rfl, b1⟩
      go_wp2
      go_ret
      exact ⟨rfl, b1⟩
    · have h0i : ((n : Int) == 0) = false := by simp; omega
      obtain ⟨i0, hi, hz0, hz1, hz2⟩ := info_parts Tryd.infoU8
      obtain ⟨r, hr⟩ : ∃ r, r = V % (8 * n) := ⟨_, rfl⟩
      have hr1 : r < 8 * n := by rw [hr]; exact Nat.mod_lt _ (by omega)
      have hri : (V : Int) % (8 * (n : Int)) = (r : Int) := by
        rw [hr, show 8 * (n : Int) = ((8 * n : Nat) : Int) by omega]
        exact (Int.natCast_emod _ _).symm
      obtain ⟨i, hii⟩ : ∃ i, i = r / 8 := ⟨_, rfl⟩
      obtain ⟨j, hjj⟩ : ∃ j, j = r % 8 := ⟨_, rfl⟩
      have hdi : (r : Int) / 8 = (i : Int) := by omega
      have hdj : (r : Int) % 8 = (j : Int) := by omega
      have hi1 : i < n := by omega
      have hj8 : j < 8 := by omega
      have Hr := hide hr
      have Hii := hide hii
      have Hjj := hide hjj
      have Hlen := hide hlen
      have L0 := hide (Later.drew w)
      clear hr hii hjj hlen
      go_enter Tryd.func6, Tryd.ntmps6
      go_wp2
      refine wp_region_L (by kernel_rfl) ?_
      refine wpAnyL_take (i := 0) (d := some 19) (v := ?va0) rfl rfl (by kernel_rfl) (by kernel_rfl) (by kernel_rfl) (fun _ _ _ h => h) (by rfl) ?ya0 ?_
      case ya0 => (intro w' hw'; go_simp; try (with_reducible rfl))
      simp only [Act.put, List.setIfInBounds_toArray, List.set_cons_zero, List.set_cons_succ]
      refine wpAnyL_take (i := 1) (d := some 20) (v := ?va1) rfl rfl (by kernel_rfl) (by kernel_rfl) (by kernel_rfl) (fun _ _ _ h => h) (by rfl) ?ya1 ?_
      case ya1 => (intro w' hw'; go_simp; try (with_reducible rfl))
      simp only [Act.put, List.setIfInBounds_toArray, List.set_cons_zero, List.set_cons_succ]
      refine wpAnyL_take (i := 3) (d := some 22) (v := ?va3) rfl rfl (by kernel_rfl) (by kernel_rfl) (by kernel_rfl) (fun _ _ _ h => h) (by rfl) ?ya3 ?_
      case ya3 => (intro w' hw'; go_simp; try (with_reducible rfl))
      simp only [Act.put, List.setIfInBounds_toArray, List.set_cons_zero, List.set_cons_succ]
      refine wpAnyL_take (i := 4) (d := some 23) (v := ?va4) rfl rfl (by kernel_rfl) (by kernel_rfl) (by kernel_rfl) (fun _ _ _ h => h) (by rfl) ?ya4 ?_
      case ya4 => (intro w' hw'; go_simp; try (with_reducible rfl))
      simp only [Act.put, List.setIfInBounds_toArray, List.set_cons_zero, List.set_cons_succ]
      refine wpAnyL_two (i := 2) (j := 5) rfl rfl (by kernel_rfl) (by rfl) (by rfl) (fun K hK => ?_) (fun K hK => ?_)
      · skip
        refine op_make_bytes (n := n) rfl rfl (by rfl) (by rfl) (by omega) ?_
        intro gb wb pb qb ob lb
        have Ob := hide ob
        have L1 := hide (L0.out.trans lb)
        refine hK.out _ _ lb ?_
        clear ob lb
        clear hK K
        try simp only [Act.put, List.setIfInBounds_toArray, List.set_cons_zero, List.set_cons_succ]
        refine wpAnyL_take (i := 6) (d := some 5) (v := ?vax6) rfl rfl (by kernel_rfl) (by kernel_rfl) (by kernel_rfl) (fun _ _ _ h => h) (by rfl) ?yax6 ?_
        case yax6 => (intro w' hw'; go_simp; try (with_reducible rfl))
        simp only [Act.put, List.setIfInBounds_toArray, List.set_cons_zero, List.set_cons_succ]
        refine wpAnyL_only (i := 5) rfl (by kernel_rfl) (by rfl) fun K hK => ?_
        refine op_make_bytes (n := n) rfl rfl (by rfl) (by rfl) (by omega) ?_
        intro gc wc pc qc oc lc
        have Oc := hide oc
        have Ob := hide (own_below Ob.out lc)
        have L2 := hide (L1.out.trans lc)
        have pp := L1.out.size
        clear L1
        refine hK.out _ _ lc ?_
        clear oc lc
        clear hK K
        try simp only [Act.put, List.setIfInBounds_toArray, List.set_cons_zero, List.set_cons_succ]
        refine wpAnyL_take (i := 7) (d := some 6) (v := ?vax7) rfl rfl (by kernel_rfl) (by kernel_rfl) (by kernel_rfl) (fun _ _ _ h => h) (by rfl) ?yax7 ?_
        case yax7 => (intro w' hw'; go_simp; try (with_reducible rfl))
        simp only [Act.put, List.setIfInBounds_toArray, List.set_cons_zero, List.set_cons_succ]
        refine wpAnyL_done (by kernel_rfl) ?_ _
        have hne : gb ≠ gc := by omega
        have hgb : w.heap.size ≤ gb := by have : w.drew.heap.size = w.heap.size := rfl; omega
        have hgc : w.heap.size ≤ gc := by have : w.drew.heap.size = w.heap.size := rfl; omega
        have ob1 := own_base (base' := w.heap.size) Ob.out (by have : w.drew.heap.size = w.heap.size := rfl; omega)
        have oc1 := own_base (base' := w.heap.size) Oc.out (by have : w.drew.heap.size = w.heap.size := rfl; omega)
        have hce := own_cell ob1 (i := i) hi1
        have hfz := ob1.frozenAt i
        have hD := pow_int hj8
        obtain ⟨D, hDD⟩ : ∃ D, D = 2 ^ j := ⟨_, rfl⟩
        rw [← hDD] at hD
        obtain ⟨ob2, gr2⟩ := own_set ob1 i D
        have oc2 := ownsRow_setCell_other oc1 (a := ⟨gb, i, none⟩) (by simp [Value.ownBlock]; omega) (.int .u8 (D : Int))
        have L3 : Below w.heap.size w (wc.setCell ⟨gb, i, none⟩ (.int .u8 (D : Int))) := L2.out.grown gr2 L2.out.size (by intro k hk; cases hk; exact hgb)
        have OB := hide ob2
        have OC := hide oc2
        have L3' := hide L3
        have HDD := hide hDD
        clear Ob Oc ob1 oc1 ob2 oc2 gr2 L2 L3 hDD
        go_wp2
        obtain ⟨bl, hbl⟩ : ∃ bl, bl = (zeros n).set i D := ⟨_, rfl⟩
        rw [← hbl] at OB
        have hbs : Hid (∀ x ∈ bl, x < 256) := hide (by rw [hbl]; exact set_small (zeros_small n) (by rw [HDD.out]; exact (Nat.pow_lt_pow_right (by omega) hj8 : 2 ^ j < 2 ^ 8)))
        have hbn : Hid (bl.length = n) := hide (by rw [hbl]; simp [zeros])
        have Hbl := hide hbl
        have h00 : mixed l bl n 0 = zeros n := by simp [mixed]
        rw [← h00] at OC
        clear hbl hce hfz h00
        go_loopw [42] (fun vk wr => ∃ k : Nat, k ≤ n ∧ vk = .int .i64 k ∧ Hid (wr.ownsRow w.heap.size 5 1 (.slice (some ⟨gb, 0, none⟩) n n) n (bvs bl)) ∧ Hid (wr.ownsRow w.heap.size 5 1 (.slice (some ⟨gc, 0, none⟩) n n) n (bvs (mixed l bl n k))) ∧ Hid (Below w.heap.size w wr)) (fun vk _ => n - (intOf vk).toNat)
        case atStart => exact ⟨0, Nat.zero_le _, rfl, OB, OC, L3'⟩
        case round =>
          obtain ⟨k, hk, rfl, ob, oc, lr⟩ := hrel
          by_cases h : k < n
          · obtain ⟨ba, off, rfl, hba, hcs⟩ := Hl.out.2.2 (by omega)
            have ha : wr.cell? ⟨ba, off + k, none⟩ = some (.int .u8 ((l.getD k 0 : Nat) : Int)) := (lr.out.cell (p := ⟨ba, off + k, none⟩) hba).trans (hcs k h)
            have hb := own_cell ob.out h
            have hcc := own_cell oc.out h
            have hfz := oc.out.frozenAt k
            have hx1 := Hl.out.byte h
            have hx2 := (own_holds ob.out hbs.out).2.byte h
            have hnext := mixed_next (l := l) (b := bl) (n := n) (k := k) Hlen.out hbn.out h
            have hx := u8_xor_nat _ _ hx1 hx2
            clear hcs
            obtain ⟨y, hy⟩ : ∃ y, y = l.getD k 0 ^^^ bl.getD k 0 := ⟨_, rfl⟩
            rw [← hy] at hx hnext
            generalize l.getD k 0 = x1 at ha hx1 hx hy
            generalize bl.getD k 0 = x2 at hb hx2 hx hy
            obtain ⟨oc2, gr2⟩ := own_set oc.out k y
            have ob2 := ownsRow_setCell_other ob.out (a := ⟨gc, k, none⟩) (by simp [Value.ownBlock]; omega) (.int .u8 (y : Int))
            have lr2 : Below w.heap.size w (wr.setCell ⟨gc, k, none⟩ (.int .u8 (y : Int))) := lr.out.grown gr2 lr.out.size (by intro k hk; cases hk; exact hgc)
            rw [hnext] at oc2
            have OB2 := hide ob2
            have OC2 := hide oc2
            have LR2 := hide lr2
            have Hy := hide hy
            clear oc2 gr2 ob2 lr2 hnext hy ob oc lr
            go_wp2
            go_region
            go_wp2
            go_roundw
            case rel => exact ⟨k + 1, h, by go_num, OB2, OC2, hide LR2.out.drew⟩
            case measure => simp [intOf]; omega
          · have hall := mixed_all (l := l) (b := bl) Hlen.out hbn.out hk h
            rw [hall] at oc
            obtain ⟨m1, m2⟩ := sums_math (l := l) (i := i) (j := j) Hlen.out Hl.out.2.1 hi1 hj8
            rw [← HDD.out, ← Hbl.out] at m1 m2
            have hzs : ∀ x ∈ List.zipWith (· ^^^ ·) l bl, x < 256 := by
              intro x hx
              obtain ⟨a1, b1, ha1, hb1, rfl⟩ := zip_mem hx
              exact Nat.xor_lt_two_pow (n := 8) (Hl.out.2.1 _ ha1) (hbs.out _ hb1)
            have hcB := (own_holds oc.out hzs).2
            have hbB := (own_holds ob.out hbs.out).2
            have s1 := sum_lt Hl.out.2.1
            have s2 := sum_lt hbs.out
            have s3 := sum_lt (zeros_small n)
            obtain ⟨sa, ea⟩ : ∃ s, sum l = s := ⟨_, rfl⟩
            obtain ⟨sb, eb⟩ : ∃ s, sum bl = s := ⟨_, rfl⟩
            obtain ⟨sz, ez⟩ : ∃ s, sum (zeros n) = s := ⟨_, rfl⟩
            obtain ⟨sc, ec⟩ : ∃ s, sum (List.zipWith (· ^^^ ·) l bl) = s := ⟨_, rfl⟩
            rw [ea] at s1 m1 m2
            rw [eb] at s2 m1
            rw [ez] at s3 m1
            rw [ec] at m1 m2
            have x1 := u32_xor_nat sa sb s1 s2
            have x2 := u32_xor_nat (sa ^^^ sb) sz (Nat.xor_lt_two_pow (n := 32) s1 s2) s3
            rw [← m1] at x2
            generalize sa ^^^ sb = sab at x1 x2 m1
            have t1 : ((sc : Int) == (sc : Int)) = true := by simp
            have t2 : ((sc : Int) != (sa : Int)) = true := by simp; omega
            have HA := hide ea
            have HB := hide eb
            have HZ := hide ez
            have HC := hide ec
            have CB := hide hcB
            have BB := hide hbB
            have M1 := hide m1
            clear ea eb ez ec hcB hbB m1 m2 hzs hall
            go_wp2_with (refine wpList_make_full _ rfl _ _ 22 rfl wr.heap.size 5 i0 _ 1 Tryd.underlying22 hi hz0 hz1 _ _ _ _ n rfl rfl rfl rfl (by rw [hz2]; omega) (by simp only [maxLen]; omega) (Nat.le_refl _) ?_; intro w7 o7 g7)
            have o8 := o7
            rw [zeros_made] at o8
            have lw : Later wr w7 := (Below.refl _ _).grown g7 (Nat.le_refl _) (by simp)
            have L7 := hide (lr.out.trans (lw.mono lr.out.size))
            have h8 := (own_holds o8 (zeros_small n)).2
            have hT7 := hide (HT.out.later L7.out)
            have hA7 := hide (sum_is A n c _ sa l w7 (Hl.out.later L7.out) (by omega) hT7.out HA.out)
            have hB7 := hide (sum_is _ n n _ sb bl w7 (BB.out.later lw) (by omega) hT7.out HB.out)
            have hC7 := hide (sum_is _ n n _ sc _ w7 (CB.out.later lw) (by omega) hT7.out HC.out)
            have hZ7 := hide (sum_is _ n n _ sz _ w7 h8 (by omega) hT7.out HZ.out)
            clear o7 o8 g7 lw h8 ob oc
            refine hZ7.out.mono ?_
            rintro e w8 ⟨rfl, rfl⟩
            go_wp2_with (fail)
            refine hC7.out.mono ?_
            rintro e w8 ⟨rfl, rfl⟩
            go_wp2_with (fail)
            refine hA7.out.mono ?_
            rintro e w8 ⟨rfl, rfl⟩
            go_wp2_with (fail)
            refine hB7.out.mono ?_
            rintro e w8 ⟨rfl, rfl⟩
            go_wp2_with (fail)
            refine hC7.out.mono ?_
            rintro e w8 ⟨rfl, rfl⟩
            go_wp2_with (fail)
            refine hA7.out.mono ?_
            rintro e w8 ⟨rfl, rfl⟩
            go_wp2_with (fail)
            refine (lives_any _ hT7.out).mono ?_
            rintro e w9 ⟨rfl, b9⟩
            have L9 := hide (L7.out.trans (b9.mono L7.out.size))
            clear b9
            go_wp2
            go_ret
            exact ⟨rfl, L9.out⟩
      · skip
        refine op_make_bytes (n := n) rfl rfl (by rfl) (by rfl) (by omega) ?_
        intro gc wc pc qc oc lc
        have Oc := hide oc
        have L1 := hide (L0.out.trans lc)
        refine hK.out _ _ lc ?_
        clear oc lc
        clear hK K
        try simp only [Act.put, List.setIfInBounds_toArray, List.set_cons_zero, List.set_cons_succ]
        refine wpAnyL_only (i := 2) rfl (by kernel_rfl) (by rfl) fun K hK => ?_
        refine op_make_bytes (n := n) rfl rfl (by rfl) (by rfl) (by omega) ?_
        intro gb wb pb qb ob lb
        have Ob := hide ob
        have Oc := hide (own_below Oc.out lb)
        have L2 := hide (L1.out.trans lb)
        have pp := L1.out.size
        clear L1
        refine hK.out _ _ lb ?_
        clear ob lb
        clear hK K
        try simp only [Act.put, List.setIfInBounds_toArray, List.set_cons_zero, List.set_cons_succ]
        refine wpAnyL_take (i := 6) (d := some 5) (v := ?vay6) rfl rfl (by kernel_rfl) (by kernel_rfl) (by kernel_rfl) (fun _ _ _ h => h) (by rfl) ?yay6 ?_
        case yay6 => (intro w' hw'; go_simp; try (with_reducible rfl))
        simp only [Act.put, List.setIfInBounds_toArray, List.set_cons_zero, List.set_cons_succ]
        refine wpAnyL_take (i := 7) (d := some 6) (v := ?vay7) rfl rfl (by kernel_rfl) (by kernel_rfl) (by kernel_rfl) (fun _ _ _ h => h) (by rfl) ?yay7 ?_
        case yay7 => (intro w' hw'; go_simp; try (with_reducible rfl))
        simp only [Act.put, List.setIfInBounds_toArray, List.set_cons_zero, List.set_cons_succ]
        refine wpAnyL_done (by kernel_rfl) ?_ _
        have hne : gb ≠ gc := by omega
        have hgb : w.heap.size ≤ gb := by have : w.drew.heap.size = w.heap.size := rfl; omega
        have hgc : w.heap.size ≤ gc := by have : w.drew.heap.size = w.heap.size := rfl; omega
        have ob1 := own_base (base' := w.heap.size) Ob.out (by have : w.drew.heap.size = w.heap.size := rfl; omega)
        have oc1 := own_base (base' := w.heap.size) Oc.out (by have : w.drew.heap.size = w.heap.size := rfl; omega)
        have hce := own_cell ob1 (i := i) hi1
        have hfz := ob1.frozenAt i
        have hD := pow_int hj8
        obtain ⟨D, hDD⟩ : ∃ D, D = 2 ^ j := ⟨_, rfl⟩
        rw [← hDD] at hD
        obtain ⟨ob2, gr2⟩ := own_set ob1 i D
        have oc2 := ownsRow_setCell_other oc1 (a := ⟨gb, i, none⟩) (by simp [Value.ownBlock]; omega) (.int .u8 (D : Int))
        have L3 : Below w.heap.size w (wb.setCell ⟨gb, i, none⟩ (.int .u8 (D : Int))) := L2.out.grown gr2 L2.out.size (by intro k hk; cases hk; exact hgb)
        have OB := hide ob2
        have OC := hide oc2
        have L3' := hide L3
        have HDD := hide hDD
        clear Ob Oc ob1 oc1 ob2 oc2 gr2 L2 L3 hDD
        go_wp2
        obtain ⟨bl, hbl⟩ : ∃ bl, bl = (zeros n).set i D := ⟨_, rfl⟩
        rw [← hbl] at OB
        have hbs : Hid (∀ x ∈ bl, x < 256) := hide (by rw [hbl]; exact set_small (zeros_small n) (by rw [HDD.out]; exact (Nat.pow_lt_pow_right (by omega) hj8 : 2 ^ j < 2 ^ 8)))
        have hbn : Hid (bl.length = n) := hide (by rw [hbl]; simp [zeros])
        have Hbl := hide hbl
        have h00 : mixed l bl n 0 = zeros n := by simp [mixed]
        rw [← h00] at OC
        clear hbl hce hfz h00
        go_loopw [42] (fun vk wr => ∃ k : Nat, k ≤ n ∧ vk = .int .i64 k ∧ Hid (wr.ownsRow w.heap.size 5 1 (.slice (some ⟨gb, 0, none⟩) n n) n (bvs bl)) ∧ Hid (wr.ownsRow w.heap.size 5 1 (.slice (some ⟨gc, 0, none⟩) n n) n (bvs (mixed l bl n k))) ∧ Hid (Below w.heap.size w wr)) (fun vk _ => n - (intOf vk).toNat)
        case atStart => exact ⟨0, Nat.zero_le _, rfl, OB, OC, L3'⟩
        case round =>
          obtain ⟨k, hk, rfl, ob, oc, lr⟩ := hrel
          by_cases h : k < n
          · obtain ⟨ba, off, rfl, hba, hcs⟩ := Hl.out.2.2 (by omega)
            have ha : wr.cell? ⟨ba, off + k, none⟩ = some (.int .u8 ((l.getD k 0 : Nat) : Int)) := (lr.out.cell (p := ⟨ba, off + k, none⟩) hba).trans (hcs k h)
            have hb := own_cell ob.out h
            have hcc := own_cell oc.out h
            have hfz := oc.out.frozenAt k
            have hx1 := Hl.out.byte h
            have hx2 := (own_holds ob.out hbs.out).2.byte h
            have hnext := mixed_next (l := l) (b := bl) (n := n) (k := k) Hlen.out hbn.out h
            have hx := u8_xor_nat _ _ hx1 hx2
            clear hcs
            obtain ⟨y, hy⟩ : ∃ y, y = l.getD k 0 ^^^ bl.getD k 0 := ⟨_, rfl⟩
            rw [← hy] at hx hnext
            generalize l.getD k 0 = x1 at ha hx1 hx hy
            generalize bl.getD k 0 = x2 at hb hx2 hx hy
            obtain ⟨oc2, gr2⟩ := own_set oc.out k y
            have ob2 := ownsRow_setCell_other ob.out (a := ⟨gc, k, none⟩) (by simp [Value.ownBlock]; omega) (.int .u8 (y : Int))
            have lr2 : Below w.heap.size w (wr.setCell ⟨gc, k, none⟩ (.int .u8 (y : Int))) := lr.out.grown gr2 lr.out.size (by intro k hk; cases hk; exact hgc)
            rw [hnext] at oc2
            have OB2 := hide ob2
            have OC2 := hide oc2
            have LR2 := hide lr2
            have Hy := hide hy
            clear oc2 gr2 ob2 lr2 hnext hy ob oc lr
            go_wp2
            go_region
            go_wp2
            go_roundw
            case rel => exact ⟨k + 1, h, by go_num, OB2, OC2, hide LR2.out.drew⟩
            case measure => simp [intOf]; omega
          · have hall := mixed_all (l := l) (b := bl) Hlen.out hbn.out hk h
            rw [hall] at oc
            obtain ⟨m1, m2⟩ := sums_math (l := l) (i := i) (j := j) Hlen.out Hl.out.2.1 hi1 hj8
            rw [← HDD.out, ← Hbl.out] at m1 m2
            have hzs : ∀ x ∈ List.zipWith (· ^^^ ·) l bl, x < 256 := by
              intro x hx
              obtain ⟨a1, b1, ha1, hb1, rfl⟩ := zip_mem hx
              exact Nat.xor_lt_two_pow (n := 8) (Hl.out.2.1 _ ha1) (hbs.out _ hb1)
            have hcB := (own_holds oc.out hzs).2
            have hbB := (own_holds ob.out hbs.out).2
            have s1 := sum_lt Hl.out.2.1
            have s2 := sum_lt hbs.out
            have s3 := sum_lt (zeros_small n)
            obtain ⟨sa, ea⟩ : ∃ s, sum l = s := ⟨_, rfl⟩
            obtain ⟨sb, eb⟩ : ∃ s, sum bl = s := ⟨_, rfl⟩
            obtain ⟨sz, ez⟩ : ∃ s, sum (zeros n) = s := ⟨_, rfl⟩
            obtain ⟨sc, ec⟩ : ∃ s, sum (List.zipWith (· ^^^ ·) l bl) = s := ⟨_, rfl⟩
            rw [ea] at s1 m1 m2
            rw [eb] at s2 m1
            rw [ez] at s3 m1
            rw [ec] at m1 m2
            have x1 := u32_xor_nat sa sb s1 s2
            have x2 := u32_xor_nat (sa ^^^ sb) sz (Nat.xor_lt_two_pow (n := 32) s1 s2) s3
            rw [← m1] at x2
            generalize sa ^^^ sb = sab at x1 x2 m1
            have t1 : ((sc : Int) == (sc : Int)) = true := by simp
            have t2 : ((sc : Int) != (sa : Int)) = true := by simp; omega
            have HA := hide ea
            have HB := hide eb
            have HZ := hide ez
            have HC := hide ec
            have CB := hide hcB
            have BB := hide hbB
            have M1 := hide m1
            clear ea eb ez ec hcB hbB m1 m2 hzs hall
            go_wp2_with (refine wpList_make_full _ rfl _ _ 22 rfl wr.heap.size 5 i0 _ 1 Tryd.underlying22 hi hz0 hz1 _ _ _ _ n rfl rfl rfl rfl (by rw [hz2]; omega) (by simp only [maxLen]; omega) (Nat.le_refl _) ?_; intro w7 o7 g7)
            have o8 := o7
            rw [zeros_made] at o8
            have lw : Later wr w7 := (Below.refl _ _).grown g7 (Nat.le_refl _) (by simp)
            have L7 := hide (lr.out.trans (lw.mono lr.out.size))
            have h8 := (own_holds o8 (zeros_small n)).2
            have hT7 := hide (HT.out.later L7.out)
            have hA7 := hide (sum_is A n c _ sa l w7 (Hl.out.later L7.out) (by omega) hT7.out HA.out)
            have hB7 := hide (sum_is _ n n _ sb bl w7 (BB.out.later lw) (by omega) hT7.out HB.out)
            have hC7 := hide (sum_is _ n n _ sc _ w7 (CB.out.later lw) (by omega) hT7.out HC.out)
            have hZ7 := hide (sum_is _ n n _ sz _ w7 h8 (by omega) hT7.out HZ.out)
            clear o7 o8 g7 lw h8 ob oc
            refine hZ7.out.mono ?_
            rintro e w8 ⟨rfl, rfl⟩
            go_wp2_with (fail)
            refine hC7.out.mono ?_
            rintro e w8 ⟨rfl, rfl⟩
            go_wp2_with (fail)
            refine hA7.out.mono ?_
            rintro e w8 ⟨rfl, rfl⟩
            go_wp2_with (fail)
            refine hB7.out.mono ?_
            rintro e w8 ⟨rfl, rfl⟩
            go_wp2_with (fail)
            refine hC7.out.mono ?_
            rintro e w8 ⟨rfl, rfl⟩
            go_wp2_with (fail)
            refine hA7.out.mono ?_
            rintro e w8 ⟨rfl, rfl⟩
            go_wp2_with (fail)
            refine (lives_any _ hT7.out).mono ?_
            rintro e w9 ⟨rfl, b9⟩
            have L9 := hide (L7.out.trans (b9.mono L7.out.size))
            clear b9
            go_wp2
            go_ret
            exact ⟨rfl, L9.out⟩
end Go.Proofs.YtjbnilippcdgeaaDoor
