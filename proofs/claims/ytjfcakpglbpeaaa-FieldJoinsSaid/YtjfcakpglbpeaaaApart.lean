/- The walk over droverlaw01.FieldApart: good fields have the same bytes just if they are the same. -/
import Derived.Test.YtjfcakpglbpeaaaApartKit
namespace Go.Proofs.Ytjfcakpglbpeaaa
open Go.RowKit

theorem good_later (f : Fd) (b : Bool) (h : f.good = b) (w : World) :
    Calls Try.prog 19 #[.agg #[.int .i64 f.num, .bool f.text, .int .u64 f.v, .slice f.a f.n f.c]] w fun e w' => e = .returned (.bool b) ∧ Later w w' := good_is f b h w

theorem ok_join {w : World} {B : Nat} {A A2 : Option Addr} {n n2 : Nat} {fs gs : List Fd} (h : FHolds w B A n fs) (h2 : FHolds w B A2 n2 gs) : ∀ f ∈ [] ++ fs ++ gs, f.ok w B := by
  intro f hf
  rcases List.mem_append.1 hf with hf | hf
  · exact h.2.1 f (by simpa using hf)
  · exact h2.2.1 f hf

theorem take_good {hs : List Fd} {k : Nat} {f : Fd} (h : ∀ g ∈ hs.take k, g.good = true) (ht : hs.take (k + 1) = hs.take k ++ [f]) (hf : f.good = true) : ∀ g ∈ hs.take (k + 1), g.good = true := by
  intro g hg
  rw [ht] at hg
  rcases List.mem_append.1 hg with hg | hg
  · exact h g hg
  · simp at hg
    rw [hg]
    exact hf

/-- All good: their bytes are the same just if they are. -/
theorem apart_true {w w2 : World} {B B2 n n2 : Nat} {A A2 : Option Addr} {fs gs : List Fd} (hf : FHolds w B A n fs) (hg : FHolds w2 B2 A2 n2 gs) (hfc : ∀ f ∈ fs, f.n ≤ maxLen) (hgc : ∀ f ∈ gs, f.n ≤ maxLen)
    (h : ∀ f ∈ fs ++ gs, f.good = true) : ((str (recOf fs)).toList == (str (recOf gs)).toList) = sameB fs gs := by
  have e1 := recOf_pf fs hf.lens
  have e2 := recOf_pf gs hg.lens
  unfold sameB
  by_cases hs : fs.map Fd.pf = gs.map Fd.pf
  · rw [e1, e2, hs]
    simp
  · have hne : recOf fs ≠ recOf gs := by
      intro h3
      rw [e1, e2] at h3
      refine hs (prec_inj ?_ ?_ (hf.fits hfc).1 (hg.fits hgc).1 (hf.fits hfc).2 (hg.fits hgc).2 h3)
      · intro p hp
        obtain ⟨f, hf', rfl⟩ := List.mem_map.1 hp
        rw [← good_pf f (hf.lens f hf')]
        exact h f (List.mem_append_left _ hf')
      · intro p hp
        obtain ⟨f, hf', rfl⟩ := List.mem_map.1 hp
        rw [← good_pf f (hg.lens f hf')]
        exact h f (List.mem_append_right _ hf')
    rw [str_bne hf.small hg.small hne]
    simp [hs]

set_option maxHeartbeats 2000000 in
set_option maxRecDepth 100000 in
theorem apart_any (A : Option Addr) (n c : Nat) (fs : List Fd) (A2 : Option Addr) (n2 c2 : Nat) (gs : List Fd) (w : World) (hf : FHolds w w.heap.size A n fs) (hn : n ≤ maxLen) (hfc : ∀ f ∈ fs, f.n ≤ maxLen)
    (hg : FHolds w w.heap.size A2 n2 gs) (hn2 : n2 ≤ maxLen) (hgc : ∀ f ∈ gs, f.n ≤ maxLen) :
    Calls Try.prog 8 #[.slice A n c, .slice A2 n2 c2] w fun e w' => e = .returned (.bool true) ∧ Below w.heap.size w w' := by
  obtain ⟨i0, hi, hz0, hz1, hz2⟩ := info_parts Try.infoFd
  have HF := hide hf
  have HG := hide hg
  have HFC := hide hfc
  have HGC := hide hgc
  have HN := hide hn
  have HN2 := hide hn2
  clear hf hg hfc hgc hn hn2
  by_cases h1 : lightB n fs = true
  · have H1 := hide h1
    have hr1 := light_room HF.out.1 h1
    have hs1 := (lightB_spec h1).1
    clear h1
    by_cases h2 : lightB n2 gs = true
    · have H2 := hide h2
      have hr2 := light_room HG.out.1 h2
      have hs2 := (lightB_spec h2).1
      clear h2
      obtain ⟨t, ht⟩ : ∃ t, sameB fs gs = t := ⟨_, rfl⟩
      have HT := hide ht
      clear ht
      go_enter Try.func8, Try.ntmps8
      go_wp2_with (fail)
      refine (light_is A n c fs true _ HF.out HN.out HFC.out H1.out).mono ?_
      rintro e v1 ⟨rfl, l1⟩
      have L1 := hide l1
      clear l1
      go_wp2_with (fail)
      refine (light_is A2 n2 c2 gs true _ (HG.out.later L1.out) HN2.out HGC.out H2.out).mono ?_
      rintro e v2 ⟨rfl, l2⟩
      have L2 := hide (L1.out.trans l2)
      clear l2
      go_wp2_with (first
        | (at_builtin; refine wpList_append_fields _ rfl (.tmp 16) (.tmp 17) 31 rfl v2.heap.size 34 i0 _ Try.underlying31 hi hz0 hz1 hz2 rfl _ 0 [] rfl (World.ownsRow_lit4 v2 _) (v2.alloc (.cells #[] 34)).heap.size A n c fs rfl (HF.out.later (L2.out.trans (Later.alloc _ _))) (by omega) (by simp) ?_; intro x1 v3 o3 g3)
        | (at_builtin; refine wpList_append_fields _ rfl (.tmp 18) (.tmp 19) 31 rfl v2.heap.size 34 i0 _ Try.underlying31 hi hz0 hz1 hz2 rfl x1 (0 + n) _ rfl o3 v3.heap.size A2 n2 c2 gs rfl (HG.out.later (L2.out.trans ((Below.alloc (Below.refl _ _) (Nat.le_refl _) _).trans (later_grown (World.ownsRow_lit4 v2 _) (by simp) g3)))) (by omega) (by have := g3.size; simp at this; omega) ?_; intro x2 v4 o4 g4; have l4 : Later v2 v4 := (Below.alloc (Below.refl _ _) (Nat.le_refl _) _).trans ((later_grown (World.ownsRow_lit4 v2 _) (by simp) g3).trans (later_grown o3 (by have := g3.size; simp at this; omega) g4)); have L4 := hide (L2.out.trans l4); obtain ⟨A6, c6, hv6, hc6, h6⟩ := FHolds.of_own o4 (ok_join (HF.out.later L4.out) (HG.out.later L4.out)); subst hv6))
      have H6 := hide (show FHolds v4 v4.heap.size A6 (n + n2) (fs ++ gs) by simpa using h6)
      clear o3 g3 o4 g4 l4 h6
      go_loopw [22] (fun i wr => ∃ k : Nat, k ≤ n + n2 ∧ i = .int .i64 k ∧ (∀ f ∈ (fs ++ gs).take k, f.good = true) ∧ Later v4 wr) (fun i _ => n + n2 - (intOf i).toNat)
      case atStart => exact ⟨0, by omega, rfl, by simp, Later.refl _⟩
      case round =>
        obtain ⟨k, hk, rfl, hgd, hlat⟩ := hrel
        have Hgd := hide hgd
        have Hlat := hide hlat
        clear hgd hlat
        by_cases hlt : k < n + n2
        · obtain ⟨f, b, off, hfk, hok, rfl, hbB, q0, q1, q2, q3, htk⟩ := (H6.out.later Hlat.out).at_ hlt
          obtain ⟨num, text, v, a, fn, fc, fb⟩ := f
          simp only at q0 q1 q2 q3
          have Htk := hide htk
          clear htk hfk hok
          by_cases hgood : Fd.good ⟨num, text, v, a, fn, fc, fb⟩ = true
          · have Hg := hide hgood
            clear hgood
            go_wp2_with (fail)
            refine (good_later ⟨num, text, v, a, fn, fc, fb⟩ true Hg.out _).mono ?_
            rintro e w1 ⟨rfl, hb1⟩
            have Hb1 := hide hb1
            clear hb1
            go_wp2
            go_roundw
            case rel => exact ⟨k + 1, by omega, by go_num, take_good Hgd.out Htk.out Hg.out, Hlat.out.trans ((Later.alloc _ _).trans Hb1.out)⟩
            case measure => simp [intOf]; omega
          · have Hg := hide (show Fd.good ⟨num, text, v, a, fn, fc, fb⟩ = false by simpa using hgood)
            clear hgood
            go_wp2_with (fail)
            refine (good_later ⟨num, text, v, a, fn, fc, fb⟩ false Hg.out _).mono ?_
            rintro e w1 ⟨rfl, hb1⟩
            have Hb1 := hide hb1
            clear hb1
            go_wp2_with (go_at_call 9; refine (lives_is _).mono ?_; rintro e w2 ⟨rfl, b2⟩)
            go_ret
            exact ⟨rfl, L4.out.trans (Hlat.out.trans ((Later.alloc _ _).trans (Hb1.out.trans b2)))⟩
        · have L0 : Hid (Later w wr.drew) := L4.out.trans (Hlat.out.trans (Later.drew _))
          have hall : ∀ f ∈ fs ++ gs, f.good = true := by
            have := Hgd.out
            rw [List.take_of_length_le (by rw [H6.out.1]; omega)] at this
            exact this
          obtain ⟨S1, hS1⟩ : ∃ s, str (recOf fs) = s := ⟨_, rfl⟩
          obtain ⟨S2, hS2⟩ : ∃ s, str (recOf gs) = s := ⟨_, rfl⟩
          have HS1 := hide hS1
          have HS2 := hide hS2
          have hE : (S1.toList == S2.toList) = t := by rw [← hS1, ← hS2, apart_true HF.out HG.out HFC.out HGC.out hall, HT.out]
          have e2 : (t == t) = true := by simp
          clear hS1 hS2 hall
          go_wp2
          refine wp_region_L (by kernel_rfl) ?_
          refine wpAnyL_take (i := 0) (d := some 31) (v := ?va0) rfl rfl (by kernel_rfl) (by kernel_rfl) (by kernel_rfl) (fun _ _ _ h => h) (by rfl) ?ya0 ?_
          case ya0 => (intro w' hw'; go_simp; try (with_reducible rfl))
          simp only [Act.put, List.setIfInBounds_toArray, List.set_cons_zero, List.set_cons_succ]
          refine wpAnyL_take (i := 3) (d := some 34) (v := ?va3) rfl rfl (by kernel_rfl) (by kernel_rfl) (by kernel_rfl) (fun _ _ _ h => h) (by rfl) ?ya3 ?_
          case ya3 => (intro w' hw'; go_simp; try (with_reducible rfl))
          simp only [Act.put, List.setIfInBounds_toArray, List.set_cons_zero, List.set_cons_succ]
          refine wpAnyL_take (i := 7) (d := some 38) (v := ?va7) rfl rfl (by kernel_rfl) (by kernel_rfl) (by kernel_rfl) (fun _ _ _ h => h) (by rfl) ?ya7 ?_
          case ya7 => (intro w' hw'; go_simp; try (with_reducible rfl))
          simp only [Act.put, List.setIfInBounds_toArray, List.set_cons_zero, List.set_cons_succ]
          refine wpAnyL_take (i := 9) (d := some 40) (v := ?va9) rfl rfl (by kernel_rfl) (by kernel_rfl) (by kernel_rfl) (fun _ _ _ h => h) (by rfl) ?ya9 ?_
          case ya9 => (intro w' hw'; go_simp; try (with_reducible rfl))
          simp only [Act.put, List.setIfInBounds_toArray, List.set_cons_zero, List.set_cons_succ]
          refine wpAnyL_only (i := 1) rfl (by kernel_rfl) (by rfl) fun K hK => ?_
          go_simp
          refine (write_new A n c fs _ (HF.out.later L0.out) (by omega) (by omega)).mono ?_
          rintro e w1 ⟨A1, n1, c1, rfl, _, h1, _, b1⟩
          have Hh1 := hide h1
          have L1 := hide (L0.out.trans b1)
          refine hK.out _ _ b1 ?_
          clear h1 b1
          clear hK K
          try simp only [Act.put, List.setIfInBounds_toArray, List.set_cons_zero, List.set_cons_succ]
          refine wpAnyL_take (i := 2) (d := some 33) (v := ?va2) rfl rfl (by kernel_rfl) (by kernel_rfl) (by kernel_rfl) (fun _ _ _ h => h) (by rfl) ?ya2 ?_
          case ya2 => (intro w' hw'; have hc := run_str w' _ A1 n1 c1 _ (Hh1.out.later hw'); rw [HS1.out] at hc; go_simp; try (with_reducible rfl))
          simp only [Act.put, List.setIfInBounds_toArray, List.set_cons_zero, List.set_cons_succ]
          refine wpAnyL_only (i := 4) rfl (by kernel_rfl) (by rfl) fun K hK => ?_
          go_simp
          refine (write_new A2 n2 c2 gs _ (HG.out.later L1.out) (by omega) (by omega)).mono ?_
          rintro e w2 ⟨A3, n3, c3, rfl, _, h2, _, b2⟩
          have Hh2 := hide h2
          have L2 := hide (L1.out.trans b2)
          refine hK.out _ _ b2 ?_
          clear h2 b2
          clear hK K
          try simp only [Act.put, List.setIfInBounds_toArray, List.set_cons_zero, List.set_cons_succ]
          refine wpAnyL_take (i := 5) (d := some 36) (v := ?va5) rfl rfl (by kernel_rfl) (by kernel_rfl) (by kernel_rfl) (fun _ _ _ h => h) (by rfl) ?ya5 ?_
          case ya5 => (intro w' hw'; have hc := run_str w' _ A3 n3 c3 _ (Hh2.out.later hw'); rw [HS2.out] at hc; go_simp; try (with_reducible rfl))
          simp only [Act.put, List.setIfInBounds_toArray, List.set_cons_zero, List.set_cons_succ]
          refine wpAnyL_take (i := 6) (d := some 37) (v := ?va6) rfl rfl (by kernel_rfl) (by kernel_rfl) (by kernel_rfl) (fun _ _ _ h => h) (by rfl) ?ya6 ?_
          case ya6 => (intro w' hw'; go_simp; try (with_reducible rfl))
          simp only [Act.put, List.setIfInBounds_toArray, List.set_cons_zero, List.set_cons_succ]
          refine wpAnyL_only (i := 8) rfl (by kernel_rfl) (by rfl) fun K hK => ?_
          go_simp
          refine (plain_any A n c fs _ (HF.out.later L2.out) (by omega)).mono ?_
          rintro e w3 ⟨A4, c4, rfl, _, h3, b3⟩
          have Hh3 := hide h3
          have L3 := hide (L2.out.trans b3)
          refine hK.out _ _ b3 ?_
          clear h3 b3
          clear hK K
          try simp only [Act.put, List.setIfInBounds_toArray, List.set_cons_zero, List.set_cons_succ]
          refine wpAnyL_only (i := 10) rfl (by kernel_rfl) (by rfl) fun K hK => ?_
          go_simp
          refine (plain_any A2 n2 c2 gs _ (HG.out.later L3.out) (by omega)).mono ?_
          rintro e w4 ⟨A5, c5, rfl, _, h4, b4⟩
          have Hh4 := hide h4
          have B4 := hide (show Later w3 w4 from b4)
          have L4 := hide (L3.out.trans b4)
          refine hK.out _ _ b4 ?_
          clear h4 b4
          clear hK K
          try simp only [Act.put, List.setIfInBounds_toArray, List.set_cons_zero, List.set_cons_succ]
          refine wpAnyL_only (i := 11) rfl (by kernel_rfl) (by rfl) fun K hK => ?_
          go_simp
          refine (same_is A4 A5 n c4 n2 c5 _ fs gs t _ (Hh3.out.later B4.out) Hh4.out (by omega) (by omega) HT.out).mono ?_
          rintro e w5 ⟨rfl, b5⟩
          have L5 := hide (L4.out.trans b5)
          refine hK.out _ _ b5 ?_
          clear b5
          clear hK K
          try simp only [Act.put, List.setIfInBounds_toArray, List.set_cons_zero, List.set_cons_succ]
          refine wpAnyL_take (i := 12) (d := some 43) (v := ?va12) rfl rfl (by kernel_rfl) (by kernel_rfl) (by kernel_rfl) (fun _ _ _ h => h) (by rfl) ?ya12 ?_
          case ya12 => (intro w' hw'; go_simp; try (with_reducible rfl))
          simp only [Act.put, List.setIfInBounds_toArray, List.set_cons_zero, List.set_cons_succ]
          refine wpAnyL_take (i := 13) (d := some 44) (v := ?va13) rfl rfl (by kernel_rfl) (by kernel_rfl) (by kernel_rfl) (fun _ _ _ h => h) (by rfl) ?ya13 ?_
          case ya13 => (intro w' hw'; go_simp; try (with_reducible rfl))
          simp only [Act.put, List.setIfInBounds_toArray, List.set_cons_zero, List.set_cons_succ]
          refine wpAnyL_only (i := 14) rfl (by kernel_rfl) (by rfl) fun K hK => ?_
          go_simp
          refine (lives_is _).mono ?_
          rintro e w6 ⟨rfl, b6⟩
          have L6 := hide (L5.out.trans b6)
          refine hK.out _ _ b6 ?_
          clear b6
          clear hK K
          try simp only [Act.put, List.setIfInBounds_toArray, List.set_cons_zero, List.set_cons_succ]
          refine wpAnyL_take (i := 15) (d := some 46) (v := ?va15) rfl rfl (by kernel_rfl) (by kernel_rfl) (by kernel_rfl) (fun _ _ _ h => h) (by rfl) ?ya15 ?_
          case ya15 => (intro w' hw'; go_simp; try (with_reducible rfl))
          simp only [Act.put, List.setIfInBounds_toArray, List.set_cons_zero, List.set_cons_succ]
          refine wpAnyL_take (i := 16) (d := some 4) (v := ?va16) rfl rfl (by kernel_rfl) (by kernel_rfl) (by kernel_rfl) (fun _ _ _ h => h) (by rfl) ?ya16 ?_
          case ya16 => (intro w' hw'; go_simp; try (with_reducible rfl))
          simp only [Act.put, List.setIfInBounds_toArray, List.set_cons_zero, List.set_cons_succ]
          refine wpAnyL_done (by kernel_rfl) ?_ _
          go_wp2
          go_ret
          exact ⟨rfl, L6.out⟩
    · have H2 := hide (show lightB n2 gs = false by simpa using h2)
      clear h2
      go_enter Try.func8, Try.ntmps8
      go_wp2_with (fail)
      refine (light_is A n c fs true _ HF.out HN.out HFC.out H1.out).mono ?_
      rintro e v1 ⟨rfl, l1⟩
      have L1 := hide l1
      clear l1
      go_wp2_with (fail)
      refine (light_is A2 n2 c2 gs false _ (HG.out.later L1.out) HN2.out HGC.out H2.out).mono ?_
      rintro e v2 ⟨rfl, l2⟩
      have L2 := hide (L1.out.trans l2)
      clear l2
      go_wp2_with (go_at_call 9; refine (lives_is _).mono ?_; rintro e w2 ⟨rfl, b2⟩)
      go_ret
      exact ⟨rfl, L2.out.trans b2⟩
  · have H1 := hide (show lightB n fs = false by simpa using h1)
    clear h1
    go_enter Try.func8, Try.ntmps8
    go_wp2_with (fail)
    refine (light_is A n c fs false _ HF.out HN.out HFC.out H1.out).mono ?_
    rintro e v1 ⟨rfl, l1⟩
    have L1 := hide l1
    clear l1
    go_wp2_with (go_at_call 9; refine (lives_is _).mono ?_; rintro e w2 ⟨rfl, b2⟩)
    go_ret
    exact ⟨rfl, L1.out.trans b2⟩
end Go.Proofs.Ytjfcakpglbpeaaa
