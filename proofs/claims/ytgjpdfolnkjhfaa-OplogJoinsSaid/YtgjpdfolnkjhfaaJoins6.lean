/- The walk over droverlaw06.OplogJoins: behind a place that is not ahead of what is committed others may stand. -/
import Derived.Test.YtgjpdfolnkjhfaaLives6
import Derived.Test.YtgjpdfolnkjhfaaAppendG
import Derived.Test.YtgjpdfolnkjhfaaOrderP
import Derived.RegionTactic
import Derived.BigRegion
namespace Go.Proofs.Ytgjpdfolnkjhfaa
open Go.RowKit

theorem own_low {w : World} {base base' e n : Nat} {v : Value} {xs : List Value} (h : w.ownsRow base e 10 v n xs) (hb : base' ≤ base) : w.ownsRow base' e 10 v n xs := by
  refine ⟨h.1, ?_⟩
  rcases h.2 with h0 | ⟨g, cap, cur, hv, h1, h2⟩
  · exact .inl h0
  · exact .inr ⟨g, cap, cur, hv, Nat.le_trans hb h1, h2⟩
theorem ops_lt {F : Nat → Prop} {w : World} {v : Value} {l : List OpD} (h : OpsAt F w v l) : OpsAt (fun i => F i ∧ i < w.heap.size) w v l := h.mono fun _ hi hf => ⟨hf, hi⟩
theorem OpsAt.imp_kept {F G : Nat → Prop} {a b : World} {v : Value} {l : List OpD} {r : Option Nat} (h : OpsAt (fun i => F i ∧ i < a.heap.size) a v l) (hg : a.grownBy b r) (hr : ∀ i, i < a.heap.size → F i → some i ≠ r) (hG : ∀ i, i < a.heap.size → F i → G i) : OpsAt G b v l :=
  (h.kept (Kept.of_grown hg fun g e hf => hr g hf.2 hf.1 e.symm)).mono fun _ _ hf => hG _ hf.2 hf.1
theorem joins_1 (l : List OpD) (h : l.length ≤ 300) : joinR [] 0 0 l = (l, 0) := by
  unfold joinR
  rw [if_neg (by simp), if_neg (by simp; omega)]
  simp
theorem joins_2 (l m : List OpD) (c k : Nat) (h : k < c) : joinR l c (k : Int) m = (l, 2) := by
  unfold joinR
  rw [if_pos (by omega)]
theorem joins_3 (l m : List OpD) (c k : Nat) (h : c ≤ k) (hk : k ≤ l.length) (hl : l.length ≤ 300) (hm : m.length ≤ 300) : joinR l c (k : Int) m = (l.take k ++ m, 0) := by
  unfold joinR
  rw [if_neg (by omega), if_neg (by simp; omega)]
  simp

set_option maxHeartbeats 4000000 in
set_option maxRecDepth 100000 in
theorem law_joins (F : Nat → Prop) (v : Value) (l : List OpD) (v2 : Value) (r : List OpD) (U V : Nat) (w : World) (hl : OpsAt F w v l) (wl : ∀ o ∈ l, o.wf) (hm : OpsAt F w v2 r) (wm : ∀ o ∈ r, o.wf) (hU : U < 18446744073709551616) (hV : V < 18446744073709551616) :
    Calls Try.prog 9 #[v, v2, .agg #[.int .u64 (U : Int), .int .u64 (V : Int)]] w fun e w' => e = .returned (.bool true) ∧ Below w.heap.size w w' := by
  obtain ⟨i0, hi, hz0, hz1, hz2⟩ := info_parts Try.infoOp
  obtain ⟨W, hW⟩ : ∃ W, W = w.alloc (.cells #[.int .u64 (U : Int), .int .u64 (V : Int)] 73 (0, 0)) := ⟨_, rfl⟩
  have hbW : Below w.heap.size w W := by rw [hW]; exact (Below.refl _ _).alloc (Nat.le_refl _) _
  have hX : W.heap[w.heap.size]? = some (.cells #[.int .u64 (U : Int), .int .u64 (V : Int)] 73 (0, 0)) := by rw [hW]; exact heap_alloc_new _ _
  have x0 := cell_of_row W w.heap.size 0 _ _ _ hX
  have x1 := cell_of_row W w.heap.size 1 _ _ _ hX
  simp only [List.getElem?_toArray, List.getElem?_cons_zero, List.getElem?_cons_succ] at x0 x1
  have HBW := hide hbW
  have S1 := hide (fun w' (hb : Below w.heap.size w w') => small_any F v l w' (hl.kept (Kept.of_below hb F)) wl)
  have S2 := hide (fun w' (hb : Below w.heap.size w w') => small_any F v2 r w' (hm.kept (Kept.of_below hb F)) wm)
  have HI : Hid (∀ w', Below w.heap.size w w' → OpsAt F w' v l) := fun w' hb => hl.kept (Kept.of_below hb _)
  have HI2 : Hid (∀ w', Below w.heap.size w w' → OpsAt F w' v2 r) := fun w' hb => hm.kept (Kept.of_below hb _)
  have LIVE : Hid (∀ w', Calls Try.prog 11 #[] w' fun e w'' => e = .returned (.bool true) ∧ Below w'.heap.size w' w'') := lives_any
  obtain ⟨ps, hps, hlp⟩ := hl
  obtain ⟨ps2, hps2, hmp⟩ := hm
  obtain ⟨A, c, rfl, g1, g2, _⟩ := FlatAt.shape hlp.1
  obtain ⟨A2, c2, rfl, g4, g5, _⟩ := FlatAt.shape hmp.1
  have hln : ps.length = l.length := by rw [← hps, List.length_map]
  have hrn : ps2.length = r.length := by rw [← hps2, List.length_map]
  obtain ⟨n, hn⟩ : ∃ n, l.length = n := ⟨_, rfl⟩
  obtain ⟨m, hm⟩ : ∃ m, r.length = m := ⟨_, rfl⟩
  rw [hln, hn] at g1 hlp S1 HI ⊢
  rw [hrn, hm] at g4 hmp S2 HI2 ⊢
  unfold maxLen at g2 g5
  have HP := hide hlp
  have HP2 := hide hmp
  have HE := hide hps
  have HE2 := hide hps2
  have HN := hide hn
  have HM := hide hm
  have hln2 := hide (hln.trans hn)
  clear wl wm hln hrn hn hm hps hps2 hlp hmp hX hbW
  go_enter Try.func9, Try.ntmps9
  go_wp2
  rw [← hW]
  clear hW
  go_quiet (fail)
  have HBQ : Hid (Below w.heap.size w (W.drewN nq)) := HBW.out.trans (below_drewN _ _ _)
  clear x0 x1 HBW
  go_wp2_with (fail)
  refine (S1.out _ HBQ.out).mono ?_
  rintro e w1 ⟨b1, rfl, hsm, hb1⟩
  have B1 : Hid (Below w.heap.size w w1) := HBQ.out.trans (Below.mono hb1 HBQ.out.size)
  have HSM1 := hide hsm
  clear hb1 S1 hsm HBQ
  cases b1 with
  | false =>
    go_wp2_with (fail)
    refine (LIVE.out _).mono ?_
    rintro e w2 ⟨rfl, hb2⟩
    have B2 := hide (B1.out.trans (hb2.mono B1.out.size))
    clear hb2
    go_wp2
    go_ret
    exact ⟨rfl, B2.out⟩
  | true =>
    go_wp2_with (fail)
    refine (S2.out _ B1.out).mono ?_
    rintro e w2 ⟨b2, rfl, hsm, hb2⟩
    have B2 : Hid (Below w.heap.size w w2) := B1.out.trans (Below.mono hb2 B1.out.size)
    have HSM2 := hide hsm
    clear hb2 S2 hsm
    cases b2 with
    | false =>
      go_wp2_with (fail)
      refine (LIVE.out _).mono ?_
      rintro e w3 ⟨rfl, hb3⟩
      have B3 := hide (B2.out.trans (hb3.mono B2.out.size))
      clear hb3
      go_wp2
      go_ret
      exact ⟨rfl, B3.out⟩
    | true =>
      have SM : Hid (SmallOps l) := HSM1.out trivial
      have SR : Hid (SmallOps r) := HSM2.out rfl
      have hn300 : n ≤ 300 := by have := SM.out.1; have := HN.out; omega
      have hm300 : m ≤ 300 := by have := SR.out.1; have := HM.out; omega
      clear HSM1 HSM2
      go_wp2_with (fail)
      refine (lb_new w2).mono ?_
      rintro e w3 ⟨g, rfl, hl3⟩
      have B3 : Hid (Below w.heap.size w w3) := B2.out.trans (hl3.2.mono B2.out.size)
      have J1 := hide (lb_join 0 _ l hl3 (HI.out w3 B3.out) SM.out.mild)
      rw [joins_1 l SM.out.1] at J1
      clear hl3
      go_wp2_with (fail)
      refine J1.out.mono ?_
      rintro e w4 ⟨rfl, hl4⟩
      have HL4 := hide hl4
      clear hl4 J1
      obtain ⟨cc, hcc⟩ : ∃ cc, cc = U % (n + 1) := ⟨_, rfl⟩
      obtain ⟨k, hk⟩ : ∃ k, k = V % (n + 1) := ⟨_, rfl⟩
      have hcn : cc < n + 1 := by rw [hcc]; exact Nat.mod_lt _ (by omega)
      have hkn : k < n + 1 := by rw [hk]; exact Nat.mod_lt _ (by omega)
      have hc2 : (U : Int) % ((n : Int) + 1) = (cc : Int) := by rw [hcc, Int.natCast_emod]; rfl
      have hk2 : (V : Int) % ((n : Int) + 1) = (k : Int) := by rw [hk, Int.natCast_emod]; rfl
      clear hcc hk
      go_wp2
      go_quiet (fail)
      have HL5 : Hid (LgB w2 (w4.drewN nq) g l 0) := HL4.out.below (below_drewN _ _ _)
      have J2 := hide (lb_commit (cc : Int) HL5.out)
      rw [show comTo 0 l.length (cc : Int) = cc from by have := HN.out; unfold comTo; simp; omega] at J2
      clear HL4 HL5
      go_wp2_with (fail)
      refine J2.out.mono ?_
      rintro e w6 ⟨ht6, hl6⟩
      obtain ⟨A6, c6, rs6, rfl, _, _⟩ := ht6.one
      have B6 : Hid (Below w.heap.size w w6) := B2.out.trans (hl6.2.mono B2.out.size)
      have HL6 := hide hl6
      clear ht6 hl6 J2
      by_cases hkc : k < cc
      · have J3 := hide (lb_join (k : Int) _ r HL6.out (HI2.out w6 B6.out) SR.out.mild)
        rw [joins_2 l r cc k hkc] at J3
        clear HL6
        go_wp2_with (fail)
        refine J3.out.mono ?_
        rintro e w8 ⟨rfl, hl8⟩
        have J4 := hide (lb_since 0 hl8)
        rw [show l.drop (fromOf l.length 0) = l from by simp [fromOf]] at J4
        clear hl8 J3
        go_wp2_with (fail)
        refine J4.out.mono ?_
        rintro e w9 ⟨ht9, hl9⟩
        obtain ⟨A9, c9, rs9, rfl, hrs9, hf9⟩ := ht9.one
        have B9 : Hid (Below w.heap.size w w9) := B2.out.trans (hl9.2.mono B2.out.size)
        have C9 := hide (same_ops _ _ _ _ l l w9 ⟨rs9, hrs9, hf9.ops⟩ (HI.out w9 B9.out))
        rw [decide_eq_true rfl] at C9
        clear ht9 hl9 hrs9 hf9 J4
        go_wp2_with (fail)
        refine C9.out.mono ?_
        rintro e w10 ⟨rfl, hb10⟩
        have B10 : Hid (Below w.heap.size w w10) := B9.out.trans (hb10.mono B9.out.size)
        clear hb10
        go_wp2_with (fail)
        refine (LIVE.out _).mono ?_
        rintro e w11 ⟨rfl, hb11⟩
        have B11 := hide (B10.out.trans (hb11.mono B10.out.size))
        clear hb11
        go_wp2
        go_ret
        exact ⟨rfl, B11.out⟩
      · have J3 := hide (lb_join (k : Int) _ r HL6.out (HI2.out w6 B6.out) SR.out.mild)
        rw [joins_3 l r cc k (by omega) (by have := HN.out; omega) SM.out.1 SR.out.1] at J3
        clear HL6
        go_wp2_with (fail)
        refine J3.out.mono ?_
        rintro e w8 ⟨rfl, ⟨S, hS⟩, hb8⟩
        have HB8 : Hid (Below w.heap.size w w8) := B2.out.trans (hb8.mono B2.out.size)
        obtain ⟨L2, hL2⟩ : ∃ L2, L2 = l.take k ++ r := ⟨_, rfl⟩
        obtain ⟨nl, hnl⟩ : ∃ nl, nl = k + m := ⟨_, rfl⟩
        rw [← hL2] at hS
        have HNL : Hid (L2.length = nl) := by show _ = _; rw [hL2, hnl]; have := HN.out; have := HM.out; simp; omega
        have e0 : L2.drop (fromOf L2.length 0) = L2 := by simp [fromOf]
        have LR : Hid (Lg w2.heap.size S w8.drew g L2 cc) := hS.later (Kept.drew _ _)
        have HADD : Hid ((k : Int) + (m : Int) = (nl : Int)) := by show _ = _; omega
        have HSL := hide (slice_to (show k ≤ n by omega) g1 A)
        have KP : Hid (∀ w', Below w8.heap.size w8.drew w' → Below w.heap.size w w') := fun w' hb => HB8.out.trans ((below_drewN _ w8 1).trans (hb.mono HB8.out.size))
        have IA : Hid (∀ w', Below w8.heap.size w8.drew w' → FlatAt (fun _ => True) w' 10 (.slice A k c) k (opcells (ps.take k))) := fun w' hb => by
          have h1 := (HP.out.kept (Kept.of_below (KP.out w' hb) F)).mono (G := fun _ => True) fun _ _ _ => trivial
          have h2 := h1.first (k := k) (by have := hln2.out; omega)
          have h3 : (ps.take k).length = k := by have := hln2.out; simp; omega
          have h4 := h2.1
          rw [h3] at h4
          exact h4
        have IB : Hid (∀ w', Below w8.heap.size w8.drew w' → FlatAt (fun _ => True) w' 10 (.slice A2 m c2) m (opcells ps2)) := fun w' hb => by
          have h1 := (HP2.out.kept (Kept.of_below (KP.out w' hb) F)).mono (G := fun _ => True) fun _ _ _ => trivial
          have h4 := h1.1
          have h5 : ps2.length = m := by have := HM.out; have := congrArg List.length HE2.out; simp at this; omega
          rw [h5] at h4
          exact h4
        have BUILT : Hid (∀ w' v', Below w8.heap.size w8.drew w' → w'.ownsRow w8.heap.size 35 10 v' (k + m) (opcells (ps.take k) ++ opcells ps2) → OpsAt (fun _ => True) w' v' L2) := fun w' v' hb ho => by
          have h5 : ps2.length = m := by have := HM.out; have := congrArg List.length HE2.out; simp at this; omega
          have h3 : (ps.take k).length = k := by have := hln2.out; simp; omega
          have hs : ∀ p ∈ ps.take k ++ ps2, StepsAt (fun _ => True) w' p.2 p.1.steps := fun p hp => by
            rcases List.mem_append.1 hp with hp | hp
            · exact ((HP.out.2 p (List.mem_of_mem_take hp)).kept (Kept.of_below (KP.out w' hb) F)).mono fun _ _ _ => trivial
            · exact ((HP2.out.2 p hp).kept (Kept.of_below (KP.out w' hb) F)).mono fun _ _ _ => trivial
          refine ⟨ps.take k ++ ps2, ?_, ?_, hs⟩
          · rw [List.map_append, List.map_take, HE.out, HE2.out, hL2]
          · have := (FlatAt.of_own ho (by
              intro u hu
              have hu' : u ∈ (ps.take k ++ ps2).flatMap fun p => p.1.cells p.2 := by simpa [opcells] using hu
              exact ops_one (fun p hp => FlatAt.oneCell (hs p hp)) u hu')).mono (G := fun _ => True) fun _ _ _ => trivial
            rw [List.length_append, h3, h5, List.flatMap_append]
            exact this
        have hkc2 : ¬ k < cc := hkc
        clear hS hb8 J3 hnl
        go_wp2
        refine wp_region_S (fun j => j == 4 || j == 13 || j == 14 || j == 18 || j == 20 || j == 21 || j == 25 || j == 30) (by kernel_rfl) ?_
        refine wpAnyS_take (i := 0) (d := some 66) (v := ?vap0) rfl rfl (by kernel_rfl) (by kernel_rfl) (by kernel_rfl) (by kernel_rfl) (by kernel_rfl) (fun _ _ _ h => h) (by rfl) ?yap0 ?_
        case yap0 => (intro w' hw'; go_simp; try (with_reducible rfl))
        simp only [Act.put]; try simp only [List.setIfInBounds_toArray]; try simp only [List.set_cons_zero, List.set_cons_succ]
        refine wpAnyS_take (i := 1) (d := some 67) (v := .bool true) rfl rfl (by kernel_rfl) (by kernel_rfl) (by kernel_rfl) (by kernel_rfl) (by kernel_rfl) (fun _ _ _ h => h) (by rfl) ?yap1 ?_
        case yap1 => (intro w' hw'; (first | (go_simp; done) | (go_simp; omega) | (go_simp; simp; omega) | (go_simp; simp; done) | (go_simp; rw [HADD.out]; done) | (go_simp; rw [hadd])))
        simp only [Act.put]; try simp only [List.setIfInBounds_toArray]; try simp only [List.set_cons_zero, List.set_cons_succ]
        refine wpAnyS_take (i := 2) (d := some 68) (v := ?vap2) rfl rfl (by kernel_rfl) (by kernel_rfl) (by kernel_rfl) (by kernel_rfl) (by kernel_rfl) (fun _ _ _ h => h) (by rfl) ?yap2 ?_
        case yap2 => (intro w' hw'; go_simp; try (with_reducible rfl))
        simp only [Act.put]; try simp only [List.setIfInBounds_toArray]; try simp only [List.set_cons_zero, List.set_cons_succ]
        refine wpAnyS_take (i := 3) (d := some 69) (v := ?vap3) rfl rfl (by kernel_rfl) (by kernel_rfl) (by kernel_rfl) (by kernel_rfl) (by kernel_rfl) (fun _ _ _ h => h) (by rfl) ?yap3 ?_
        case yap3 => (intro w' hw'; go_simp; try (with_reducible rfl))
        simp only [Act.put]; try simp only [List.setIfInBounds_toArray]; try simp only [List.set_cons_zero, List.set_cons_succ]
        refine wpAnyS_pure (i := 5) (d := some 71) (v := ?vap5) rfl rfl (by kernel_rfl) (by kernel_rfl) (by kernel_rfl) (by kernel_rfl) (fun _ _ _ h => h) (by rfl) ?yap5 ?_
        case yap5 => (intro w'; go_simp; try (with_reducible rfl))
        simp only [Act.put]; try simp only [List.setIfInBounds_toArray]; try simp only [List.set_cons_zero, List.set_cons_succ]
        refine wpAnyS_pure (i := 6) (d := some 72) (v := ?vap6) rfl rfl (by kernel_rfl) (by kernel_rfl) (by kernel_rfl) (by kernel_rfl) (fun _ _ _ h => h) (by rfl) ?yap6 ?_
        case yap6 => (intro w'; go_simp; try (with_reducible rfl))
        simp only [Act.put]; try simp only [List.setIfInBounds_toArray]; try simp only [List.set_cons_zero, List.set_cons_succ]
        refine wpAnyS_pure (i := 7) (d := some 73) (v := ?vap7) rfl rfl (by kernel_rfl) (by kernel_rfl) (by kernel_rfl) (by kernel_rfl) (fun _ _ _ h => h) (by rfl) ?yap7 ?_
        case yap7 => (intro w'; go_simp; try (with_reducible rfl))
        simp only [Act.put]; try simp only [List.setIfInBounds_toArray]; try simp only [List.set_cons_zero, List.set_cons_succ]
        refine wpAnyS_pure (i := 8) (d := some 74) (v := .int .i64 (nl : Int)) rfl rfl (by kernel_rfl) (by kernel_rfl) (by kernel_rfl) (by kernel_rfl) (fun _ _ _ h => h) (by rfl) ?yap8 ?_
        case yap8 => (intro w'; have hadd := HADD.out; go_simp; rw [IntKind.wrap_i64]; omega)
        simp only [Act.put]; try simp only [List.setIfInBounds_toArray]; try simp only [List.set_cons_zero, List.set_cons_succ]
        refine wpAnyS_write (i := 4) rfl rfl (by kernel_rfl) (by rfl) fun K hK => ?_
        go_simp
        refine (lg_last LR.out).mono ?_
        rintro e wq ⟨rfl, rfl⟩
        rw [HNL.out]
        refine hK.out _ _ ?_
        clear hK K
        try (simp only [Act.put]; try simp only [List.setIfInBounds_toArray]; try simp only [List.set_cons_zero, List.set_cons_succ])
        refine wpAnyS_pure (i := 9) (d := some 75) (v := .bool true) rfl rfl (by kernel_rfl) (by kernel_rfl) (by kernel_rfl) (by kernel_rfl) (fun _ _ _ h => h) (by rfl) ?yap9 ?_
        case yap9 => (intro w'; (first | (go_simp; done) | (go_simp; omega) | (go_simp; simp; omega) | (go_simp; simp; done) | (go_simp; rw [HADD.out]; done) | (go_simp; rw [hadd])))
        simp only [Act.put]; try simp only [List.setIfInBounds_toArray]; try simp only [List.set_cons_zero, List.set_cons_succ]
        refine wpAnyS_pure (i := 10) (d := some 76) (v := ?vap10) rfl rfl (by kernel_rfl) (by kernel_rfl) (by kernel_rfl) (by kernel_rfl) (fun _ _ _ h => h) (by rfl) ?yap10 ?_
        case yap10 => (intro w'; go_simp; try (with_reducible rfl))
        simp only [Act.put]; try simp only [List.setIfInBounds_toArray]; try simp only [List.set_cons_zero, List.set_cons_succ]
        refine wpAnyS_pure (i := 11) (d := some 77) (v := ?vap11) rfl rfl (by kernel_rfl) (by kernel_rfl) (by kernel_rfl) (by kernel_rfl) (fun _ _ _ h => h) (by rfl) ?yap11 ?_
        case yap11 => (intro w'; go_simp; try (with_reducible rfl))
        simp only [Act.put]; try simp only [List.setIfInBounds_toArray]; try simp only [List.set_cons_zero, List.set_cons_succ]
        refine wpAnyS_pure (i := 12) (d := some 78) (v := ?vap12) rfl rfl (by kernel_rfl) (by kernel_rfl) (by kernel_rfl) (by kernel_rfl) (fun _ _ _ h => h) (by rfl) ?yap12 ?_
        case yap12 => (intro w'; go_simp; try (with_reducible rfl))
        simp only [Act.put]; try simp only [List.setIfInBounds_toArray]; try simp only [List.set_cons_zero, List.set_cons_succ]
        refine wpAnyS_pure (i := 15) (d := some 81) (v := ?vap15) rfl rfl (by kernel_rfl) (by kernel_rfl) (by kernel_rfl) (by kernel_rfl) (fun _ _ _ h => h) (by rfl) ?yap15 ?_
        case yap15 => (intro w'; go_simp; try (with_reducible rfl))
        simp only [Act.put]; try simp only [List.setIfInBounds_toArray]; try simp only [List.set_cons_zero, List.set_cons_succ]
        refine wpAnyS_pure (i := 16) (d := some 82) (v := ?vap16) rfl rfl (by kernel_rfl) (by kernel_rfl) (by kernel_rfl) (by kernel_rfl) (fun _ _ _ h => h) (by rfl) ?yap16 ?_
        case yap16 => (intro w'; go_simp; try (with_reducible rfl))
        simp only [Act.put]; try simp only [List.setIfInBounds_toArray]; try simp only [List.set_cons_zero, List.set_cons_succ]
        refine wpAnyS_pure (i := 17) (d := some 83) (v := .slice A k c) rfl rfl (by kernel_rfl) (by kernel_rfl) (by kernel_rfl) (by kernel_rfl) (fun _ _ _ h => h) (by rfl) ?yap17 ?_
        case yap17 => (intro w'; have hsl := HSL.out w'; go_simp; try (with_reducible rfl))
        simp only [Act.put]; try simp only [List.setIfInBounds_toArray]; try simp only [List.set_cons_zero, List.set_cons_succ]
        refine wpAnyS_pure (i := 19) (d := some 85) (v := ?vap19) rfl rfl (by kernel_rfl) (by kernel_rfl) (by kernel_rfl) (by kernel_rfl) (fun _ _ _ h => h) (by rfl) ?yap19 ?_
        case yap19 => (intro w'; go_simp; try (with_reducible rfl))
        simp only [Act.put]; try simp only [List.setIfInBounds_toArray]; try simp only [List.set_cons_zero, List.set_cons_succ]
        refine wpAnyS_pair (i := 13) (j := 14) rfl rfl rfl rfl (by kernel_rfl) (by rfl) (by rfl) (fun K hK => ?_) (fun K hK => ?_)
        · go_simp
          refine (lg_sinceB 0 LR.out).mono ?_
          rintro e w9 ⟨ht9, hb9⟩
          obtain ⟨A9, c9, rs9, rfl, hrs9, hf9⟩ := ht9.one
          rw [e0] at hrs9 hf9 ⊢
          have B9 : Hid (Below w8.heap.size w8.drew w9) := hb9
          have F9 := hide hf9
          have R9 := hide hrs9
          clear ht9 hb9 hf9 hrs9
          rw [HNL.out] at F9 ⊢
          refine hK.out _ _ ?_
          clear hK K
          try (simp only [Act.put]; try simp only [List.setIfInBounds_toArray]; try simp only [List.set_cons_zero, List.set_cons_succ])
          refine wpAnyS_write (i := 14) rfl rfl (by kernel_rfl) (by rfl) fun K hK => ?_
          go_simp
          have BC0 : Hid (Below w8.heap.size w8.drew (w9.alloc (.cells #[] 35 (0, 0)))) := B9.out.alloc B9.out.size _
          have OC0 : Hid (OpsAt (fun i => some i ≠ (some w9.heap.size)) (w9.alloc (.cells #[] 35 (0, 0))) (.slice A9 nl c9) L2) := ⟨rs9, R9.out, (F9.out.ops.mono (G := fun i => some i ≠ (some w9.heap.size)) fun i hi _ e => by have e2 := Option.some.inj e; omega).kept (Kept.of_below ((Below.refl _ _).alloc (Nat.le_refl _) _) _)⟩
          have OW0 : Hid ((w9.alloc (.cells #[] 35 (0, 0))).ownsRow w8.heap.size 35 10 (.slice (some ⟨w9.heap.size, 0, none⟩) 0 0) 0 []) := own_low (ownsRow_lit w9 _ 10) B9.out.size
          refine hK.out _ _ ?_
          generalize hWC : w9.alloc (.cells #[] 35) = WC
          have BC : Hid (Below w8.heap.size w8.drew WC) := by rw [← hWC]; exact BC0.out
          have OC : Hid (OpsAt (fun i => some i ≠ (some w9.heap.size)) WC (.slice A9 nl c9) L2) := by rw [← hWC]; exact OC0.out
          have OW : Hid (WC.ownsRow w8.heap.size 35 10 (.slice (some ⟨w9.heap.size, 0, none⟩) 0 0) 0 []) := by rw [← hWC]; exact OW0.out
          clear hWC BC0 OC0 OW0
          clear hK K
          try (simp only [Act.put]; try simp only [List.setIfInBounds_toArray]; try simp only [List.set_cons_zero, List.set_cons_succ])
          refine wpAnyS_write (i := 18) rfl rfl (by kernel_rfl) (by rfl) fun K hK => ?_
          refine wp_append_gen _ _ 28 (by rfl) w8.heap.size 35 i0 _ 10 96 Try.underlying28 hi hz0 hz1 hz2 rfl (by decide) (.slice (some ⟨w9.heap.size, 0, none⟩) 0 0) 0 [] (by rfl) OW.out (fun _ => True) A k c _ (by rfl) (IA.out WC BC.out) (by unfold maxLen; omega) (by omega) BC.out.size ?_
          intro v11 w11 ho11 hg11 hv11
          obtain ⟨A11, c11, rfl, hc11⟩ := own_slice ho11
          have B11 : Hid (Below w8.heap.size w8.drew w11) := BC.out.grown hg11 BC.out.size (fun q hq => (OW.out.lt q hq).1)
          have O11 : Hid (OpsAt (fun i => some i ≠ (Value.slice A11 (0 + k) c11).ownBlock) w11 (.slice A9 nl c9) L2) := (ops_lt OC.out).imp_kept hg11 (fun i hi hf => hf) (fun i hi hf e => by rcases hv11 with e2 | e2; exact hf (e.trans e2); have e3 := Option.some.inj (e.trans e2); omega)
          have OW11 := hide ho11
          clear ho11 hg11 hv11 OC OW BC
          refine hK.out _ _ ?_
          clear hK K
          try (simp only [Act.put]; try simp only [List.setIfInBounds_toArray]; try simp only [List.set_cons_zero, List.set_cons_succ])
          refine wpAnyS_write (i := 20) rfl rfl (by kernel_rfl) (by rfl) fun K hK => ?_
          refine wp_append_gen _ _ 28 (by rfl) w8.heap.size 35 i0 _ 10 96 Try.underlying28 hi hz0 hz1 hz2 rfl (by decide) (.slice A11 (0 + k) c11) (0 + k) _ (by rfl) OW11.out (fun _ => True) A2 m c2 _ (by rfl) (IB.out w11 B11.out) (by unfold maxLen; omega) (by omega) B11.out.size ?_
          intro v12 w12 ho12 hg12 hv12
          have B12 : Hid (Below w8.heap.size w8.drew w12) := B11.out.grown hg12 B11.out.size (fun q hq => (OW11.out.lt q hq).1)
          have O12 : Hid (OpsAt (fun _ => True) w12 (.slice A9 nl c9) L2) := (O11.out.kept (Kept.of_grown hg12 (fun g e hf => hf e.symm))).mono fun _ _ _ => trivial
          have C12 := hide (same_ops (fun _ => True) (fun _ => True) _ v12 L2 L2 w12 O12.out (BUILT.out w12 v12 B12.out (by simpa using ho12)))
          rw [decide_eq_true rfl] at C12
          clear ho12 hg12 hv12 O11 O12 OW11 B11
          refine hK.out _ _ ?_
          clear hK K
          try (simp only [Act.put]; try simp only [List.setIfInBounds_toArray]; try simp only [List.set_cons_zero, List.set_cons_succ])
          refine wpAnyS_write (i := 21) rfl rfl (by kernel_rfl) (by rfl) fun K hK => ?_
          go_simp
          refine C12.out.mono ?_
          rintro e w13 ⟨rfl, hb13⟩
          have B13 : Hid (Below w8.heap.size w8.drew w13) := B12.out.trans (Below.mono hb13 B12.out.size)
          clear hb13 C12
          refine hK.out _ _ ?_
          clear hK K
          try (simp only [Act.put]; try simp only [List.setIfInBounds_toArray]; try simp only [List.set_cons_zero, List.set_cons_succ])
          refine wpAnyS_pure (i := 22) (d := some 88) (v := ?vapx22) rfl rfl (by kernel_rfl) (by kernel_rfl) (by kernel_rfl) (by kernel_rfl) (fun _ _ _ h => h) (by rfl) ?yapx22 ?_
          case yapx22 => (intro w'; go_simp; try (with_reducible rfl))
          simp only [Act.put]; try simp only [List.setIfInBounds_toArray]; try simp only [List.set_cons_zero, List.set_cons_succ]
          refine wpAnyS_pure (i := 23) (d := some 89) (v := ?vapx23) rfl rfl (by kernel_rfl) (by kernel_rfl) (by kernel_rfl) (by kernel_rfl) (fun _ _ _ h => h) (by rfl) ?yapx23 ?_
          case yapx23 => (intro w'; go_simp; try (with_reducible rfl))
          simp only [Act.put]; try simp only [List.setIfInBounds_toArray]; try simp only [List.set_cons_zero, List.set_cons_succ]
          refine wpAnyS_pure (i := 24) (d := some 90) (v := ?vapx24) rfl rfl (by kernel_rfl) (by kernel_rfl) (by kernel_rfl) (by kernel_rfl) (fun _ _ _ h => h) (by rfl) ?yapx24 ?_
          case yapx24 => (intro w'; go_simp; try (with_reducible rfl))
          simp only [Act.put]; try simp only [List.setIfInBounds_toArray]; try simp only [List.set_cons_zero, List.set_cons_succ]
          refine wpAnyS_pure (i := 26) (d := some 92) (v := ?vapx26) rfl rfl (by kernel_rfl) (by kernel_rfl) (by kernel_rfl) (by kernel_rfl) (fun _ _ _ h => h) (by rfl) ?yapx26 ?_
          case yapx26 => (intro w'; go_simp; try (with_reducible rfl))
          simp only [Act.put]; try simp only [List.setIfInBounds_toArray]; try simp only [List.set_cons_zero, List.set_cons_succ]
          refine wpAnyS_write (i := 25) rfl rfl (by kernel_rfl) (by rfl) fun K hK => ?_
          go_simp
          refine (lg_committed (LR.out.below B13.out)).mono ?_
          rintro e wq ⟨rfl, rfl⟩
          refine hK.out _ _ ?_
          clear hK K
          try (simp only [Act.put]; try simp only [List.setIfInBounds_toArray]; try simp only [List.set_cons_zero, List.set_cons_succ])
          refine wpAnyS_pure (i := 27) (d := some 93) (v := .bool true) rfl rfl (by kernel_rfl) (by kernel_rfl) (by kernel_rfl) (by kernel_rfl) (fun _ _ _ h => h) (by rfl) ?yapx27 ?_
          case yapx27 => (intro w'; (first | (go_simp; done) | (go_simp; omega) | (go_simp; simp; omega) | (go_simp; simp; done) | (go_simp; rw [HADD.out]; done) | (go_simp; rw [hadd])))
          simp only [Act.put]; try simp only [List.setIfInBounds_toArray]; try simp only [List.set_cons_zero, List.set_cons_succ]
          refine wpAnyS_pure (i := 28) (d := some 94) (v := ?vapx28) rfl rfl (by kernel_rfl) (by kernel_rfl) (by kernel_rfl) (by kernel_rfl) (fun _ _ _ h => h) (by rfl) ?yapx28 ?_
          case yapx28 => (intro w'; go_simp; try (with_reducible rfl))
          simp only [Act.put]; try simp only [List.setIfInBounds_toArray]; try simp only [List.set_cons_zero, List.set_cons_succ]
          refine wpAnyS_pure (i := 29) (d := some 95) (v := ?vapx29) rfl rfl (by kernel_rfl) (by kernel_rfl) (by kernel_rfl) (by kernel_rfl) (fun _ _ _ h => h) (by rfl) ?yapx29 ?_
          case yapx29 => (intro w'; go_simp; try (with_reducible rfl))
          simp only [Act.put]; try simp only [List.setIfInBounds_toArray]; try simp only [List.set_cons_zero, List.set_cons_succ]
          refine wpAnyS_write (i := 30) rfl rfl (by kernel_rfl) (by rfl) fun K hK => ?_
          go_simp
          refine (LIVE.out _).mono ?_
          rintro e w14 ⟨rfl, hb14⟩
          have B14 : Hid (Below w8.heap.size w8.drew w14) := B13.out.trans (Below.mono hb14 B13.out.size)
          clear hb14
          refine hK.out _ _ ?_
          clear hK K
          try (simp only [Act.put]; try simp only [List.setIfInBounds_toArray]; try simp only [List.set_cons_zero, List.set_cons_succ])
          refine wpAnyS_pure (i := 31) (d := some 97) (v := ?vapx31) rfl rfl (by kernel_rfl) (by kernel_rfl) (by kernel_rfl) (by kernel_rfl) (fun _ _ _ h => h) (by rfl) ?yapx31 ?_
          case yapx31 => (intro w'; go_simp; try (with_reducible rfl))
          simp only [Act.put]; try simp only [List.setIfInBounds_toArray]; try simp only [List.set_cons_zero, List.set_cons_succ]
          refine wpAnyS_pure (i := 32) (d := some 6) (v := ?vapx32) rfl rfl (by kernel_rfl) (by kernel_rfl) (by kernel_rfl) (by kernel_rfl) (fun _ _ _ h => h) (by rfl) ?yapx32 ?_
          case yapx32 => (intro w'; go_simp; try (with_reducible rfl))
          simp only [Act.put]; try simp only [List.setIfInBounds_toArray]; try simp only [List.set_cons_zero, List.set_cons_succ]
          refine wpAnyS_done (by kernel_rfl) ?_ _
          go_wp2
          go_ret
          exact ⟨rfl, KP.out _ B14.out⟩
        · go_simp
          have BA : Hid (Below w8.heap.size w8.drew (w8.drew.alloc (.cells #[] 35 (0, 0)))) := Below.alloc (Below.refl w8.heap.size w8.drew) (Nat.le_refl _) _
          have OWA : Hid ((w8.drew.alloc (.cells #[] 35 (0, 0))).ownsRow w8.heap.size 35 10 (.slice (some ⟨w8.heap.size, 0, none⟩) 0 0) 0 []) := ownsRow_lit w8.drew _ 10
          refine hK.out _ _ ?_
          try show wpAnyS _ _ _ _ _ _ _ _ (w8.drew.alloc (.cells #[] 35 (0, 0)))
          clear hK K
          try (simp only [Act.put]; try simp only [List.setIfInBounds_toArray]; try simp only [List.set_cons_zero, List.set_cons_succ])
          refine wpAnyS_write (i := 13) rfl rfl (by kernel_rfl) (by rfl) fun K hK => ?_
          go_simp
          refine (lg_sinceB 0 (LR.out.below BA.out)).mono ?_
          rintro e WC ⟨ht9, hb9⟩
          obtain ⟨A9, c9, rs9, rfl, hrs9, hf9⟩ := ht9.one
          rw [e0] at hrs9 hf9 ⊢
          have BC : Hid (Below w8.heap.size w8.drew WC) := BA.out.trans (Below.mono hb9 BA.out.size)
          rw [HNL.out] at hf9 ⊢
          have OC : Hid (OpsAt (fun i => some i ≠ (some w8.heap.size)) WC (.slice A9 nl c9) L2) := ⟨rs9, hrs9, hf9.ops.mono fun i _ hi e => by have e2 := Option.some.inj e; have h2 : (w8.drew.alloc (.cells #[] 35 (0, 0))).heap.size ≤ i := hi; simp at h2; omega⟩
          have OW : Hid (WC.ownsRow w8.heap.size 35 10 (.slice (some ⟨w8.heap.size, 0, none⟩) 0 0) 0 []) := own_kept OWA.out fun q hq => hb9.block q (own_in OWA.out q hq)
          clear ht9 hb9 hf9 hrs9
          refine hK.out _ _ ?_
          clear hK K
          try (simp only [Act.put]; try simp only [List.setIfInBounds_toArray]; try simp only [List.set_cons_zero, List.set_cons_succ])
          refine wpAnyS_write (i := 18) rfl rfl (by kernel_rfl) (by rfl) fun K hK => ?_
          refine wp_append_gen _ _ 28 (by rfl) w8.heap.size 35 i0 _ 10 96 Try.underlying28 hi hz0 hz1 hz2 rfl (by decide) (.slice (some ⟨w8.heap.size, 0, none⟩) 0 0) 0 [] (by rfl) OW.out (fun _ => True) A k c _ (by rfl) (IA.out WC BC.out) (by unfold maxLen; omega) (by omega) BC.out.size ?_
          intro v11 w11 ho11 hg11 hv11
          obtain ⟨A11, c11, rfl, hc11⟩ := own_slice ho11
          have B11 : Hid (Below w8.heap.size w8.drew w11) := BC.out.grown hg11 BC.out.size (fun q hq => (OW.out.lt q hq).1)
          have O11 : Hid (OpsAt (fun i => some i ≠ (Value.slice A11 (0 + k) c11).ownBlock) w11 (.slice A9 nl c9) L2) := (ops_lt OC.out).imp_kept hg11 (fun i hi hf => hf) (fun i hi hf e => by rcases hv11 with e2 | e2; exact hf (e.trans e2); have e3 := Option.some.inj (e.trans e2); omega)
          have OW11 := hide ho11
          clear ho11 hg11 hv11 OC OW BC
          refine hK.out _ _ ?_
          clear hK K
          try (simp only [Act.put]; try simp only [List.setIfInBounds_toArray]; try simp only [List.set_cons_zero, List.set_cons_succ])
          refine wpAnyS_write (i := 20) rfl rfl (by kernel_rfl) (by rfl) fun K hK => ?_
          refine wp_append_gen _ _ 28 (by rfl) w8.heap.size 35 i0 _ 10 96 Try.underlying28 hi hz0 hz1 hz2 rfl (by decide) (.slice A11 (0 + k) c11) (0 + k) _ (by rfl) OW11.out (fun _ => True) A2 m c2 _ (by rfl) (IB.out w11 B11.out) (by unfold maxLen; omega) (by omega) B11.out.size ?_
          intro v12 w12 ho12 hg12 hv12
          have B12 : Hid (Below w8.heap.size w8.drew w12) := B11.out.grown hg12 B11.out.size (fun q hq => (OW11.out.lt q hq).1)
          have O12 : Hid (OpsAt (fun _ => True) w12 (.slice A9 nl c9) L2) := (O11.out.kept (Kept.of_grown hg12 (fun g e hf => hf e.symm))).mono fun _ _ _ => trivial
          have C12 := hide (same_ops (fun _ => True) (fun _ => True) _ v12 L2 L2 w12 O12.out (BUILT.out w12 v12 B12.out (by simpa using ho12)))
          rw [decide_eq_true rfl] at C12
          clear ho12 hg12 hv12 O11 O12 OW11 B11
          refine hK.out _ _ ?_
          clear hK K
          try (simp only [Act.put]; try simp only [List.setIfInBounds_toArray]; try simp only [List.set_cons_zero, List.set_cons_succ])
          refine wpAnyS_write (i := 21) rfl rfl (by kernel_rfl) (by rfl) fun K hK => ?_
          go_simp
          refine C12.out.mono ?_
          rintro e w13 ⟨rfl, hb13⟩
          have B13 : Hid (Below w8.heap.size w8.drew w13) := B12.out.trans (Below.mono hb13 B12.out.size)
          clear hb13 C12
          refine hK.out _ _ ?_
          clear hK K
          try (simp only [Act.put]; try simp only [List.setIfInBounds_toArray]; try simp only [List.set_cons_zero, List.set_cons_succ])
          refine wpAnyS_pure (i := 22) (d := some 88) (v := ?vapy22) rfl rfl (by kernel_rfl) (by kernel_rfl) (by kernel_rfl) (by kernel_rfl) (fun _ _ _ h => h) (by rfl) ?yapy22 ?_
          case yapy22 => (intro w'; go_simp; try (with_reducible rfl))
          simp only [Act.put]; try simp only [List.setIfInBounds_toArray]; try simp only [List.set_cons_zero, List.set_cons_succ]
          refine wpAnyS_pure (i := 23) (d := some 89) (v := ?vapy23) rfl rfl (by kernel_rfl) (by kernel_rfl) (by kernel_rfl) (by kernel_rfl) (fun _ _ _ h => h) (by rfl) ?yapy23 ?_
          case yapy23 => (intro w'; go_simp; try (with_reducible rfl))
          simp only [Act.put]; try simp only [List.setIfInBounds_toArray]; try simp only [List.set_cons_zero, List.set_cons_succ]
          refine wpAnyS_pure (i := 24) (d := some 90) (v := ?vapy24) rfl rfl (by kernel_rfl) (by kernel_rfl) (by kernel_rfl) (by kernel_rfl) (fun _ _ _ h => h) (by rfl) ?yapy24 ?_
          case yapy24 => (intro w'; go_simp; try (with_reducible rfl))
          simp only [Act.put]; try simp only [List.setIfInBounds_toArray]; try simp only [List.set_cons_zero, List.set_cons_succ]
          refine wpAnyS_pure (i := 26) (d := some 92) (v := ?vapy26) rfl rfl (by kernel_rfl) (by kernel_rfl) (by kernel_rfl) (by kernel_rfl) (fun _ _ _ h => h) (by rfl) ?yapy26 ?_
          case yapy26 => (intro w'; go_simp; try (with_reducible rfl))
          simp only [Act.put]; try simp only [List.setIfInBounds_toArray]; try simp only [List.set_cons_zero, List.set_cons_succ]
          refine wpAnyS_write (i := 25) rfl rfl (by kernel_rfl) (by rfl) fun K hK => ?_
          go_simp
          refine (lg_committed (LR.out.below B13.out)).mono ?_
          rintro e wq ⟨rfl, rfl⟩
          refine hK.out _ _ ?_
          clear hK K
          try (simp only [Act.put]; try simp only [List.setIfInBounds_toArray]; try simp only [List.set_cons_zero, List.set_cons_succ])
          refine wpAnyS_pure (i := 27) (d := some 93) (v := .bool true) rfl rfl (by kernel_rfl) (by kernel_rfl) (by kernel_rfl) (by kernel_rfl) (fun _ _ _ h => h) (by rfl) ?yapy27 ?_
          case yapy27 => (intro w'; (first | (go_simp; done) | (go_simp; omega) | (go_simp; simp; omega) | (go_simp; simp; done) | (go_simp; rw [HADD.out]; done) | (go_simp; rw [hadd])))
          simp only [Act.put]; try simp only [List.setIfInBounds_toArray]; try simp only [List.set_cons_zero, List.set_cons_succ]
          refine wpAnyS_pure (i := 28) (d := some 94) (v := ?vapy28) rfl rfl (by kernel_rfl) (by kernel_rfl) (by kernel_rfl) (by kernel_rfl) (fun _ _ _ h => h) (by rfl) ?yapy28 ?_
          case yapy28 => (intro w'; go_simp; try (with_reducible rfl))
          simp only [Act.put]; try simp only [List.setIfInBounds_toArray]; try simp only [List.set_cons_zero, List.set_cons_succ]
          refine wpAnyS_pure (i := 29) (d := some 95) (v := ?vapy29) rfl rfl (by kernel_rfl) (by kernel_rfl) (by kernel_rfl) (by kernel_rfl) (fun _ _ _ h => h) (by rfl) ?yapy29 ?_
          case yapy29 => (intro w'; go_simp; try (with_reducible rfl))
          simp only [Act.put]; try simp only [List.setIfInBounds_toArray]; try simp only [List.set_cons_zero, List.set_cons_succ]
          refine wpAnyS_write (i := 30) rfl rfl (by kernel_rfl) (by rfl) fun K hK => ?_
          go_simp
          refine (LIVE.out _).mono ?_
          rintro e w14 ⟨rfl, hb14⟩
          have B14 : Hid (Below w8.heap.size w8.drew w14) := B13.out.trans (Below.mono hb14 B13.out.size)
          clear hb14
          refine hK.out _ _ ?_
          clear hK K
          try (simp only [Act.put]; try simp only [List.setIfInBounds_toArray]; try simp only [List.set_cons_zero, List.set_cons_succ])
          refine wpAnyS_pure (i := 31) (d := some 97) (v := ?vapy31) rfl rfl (by kernel_rfl) (by kernel_rfl) (by kernel_rfl) (by kernel_rfl) (fun _ _ _ h => h) (by rfl) ?yapy31 ?_
          case yapy31 => (intro w'; go_simp; try (with_reducible rfl))
          simp only [Act.put]; try simp only [List.setIfInBounds_toArray]; try simp only [List.set_cons_zero, List.set_cons_succ]
          refine wpAnyS_pure (i := 32) (d := some 6) (v := ?vapy32) rfl rfl (by kernel_rfl) (by kernel_rfl) (by kernel_rfl) (by kernel_rfl) (fun _ _ _ h => h) (by rfl) ?yapy32 ?_
          case yapy32 => (intro w'; go_simp; try (with_reducible rfl))
          simp only [Act.put]; try simp only [List.setIfInBounds_toArray]; try simp only [List.set_cons_zero, List.set_cons_succ]
          refine wpAnyS_done (by kernel_rfl) ?_ _
          go_wp2
          go_ret
          exact ⟨rfl, KP.out _ B14.out⟩
end Go.Proofs.Ytgjpdfolnkjhfaa
