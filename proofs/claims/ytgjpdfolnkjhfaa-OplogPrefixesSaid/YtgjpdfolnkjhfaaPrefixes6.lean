/- The walk over droverlaw06.OplogPrefixes: how many first ones of any two lists are alike, and whether any two are. -/
import Derived.Test.YtgjpdfolnkjhfaaLives6
namespace Go.Proofs.Ytgjpdfolnkjhfaa
open Go.RowKit

set_option maxHeartbeats 4000000 in
set_option maxRecDepth 100000 in
theorem law_prefixes (F : Nat → Prop) (v : Value) (l : List OpD) (v2 : Value) (m : List OpD) (w : World) (hl : OpsAt F w v l) (wl : ∀ o ∈ l, o.wf) (hm : OpsAt F w v2 m) (wm : ∀ o ∈ m, o.wf) :
    Calls Try.prog 4 #[v, v2] w fun e w' => e = .returned (.bool true) ∧ Below w.heap.size w w' := by
  have S1 := hide (small_any F v l w hl wl)
  have S2 := hide (fun w' (hb : Later w w') => small_any F v2 m w' (hm.kept (Kept.of_below hb F)) wm)
  have P1 := hide (fun w' (hb : Later w w') => prefix_any F F v v2 l m w' (hl.kept (Kept.of_below hb F)) (hm.kept (Kept.of_below hb F)))
  have P2 := hide (fun w' (hb : Later w w') => refprefix_any F F v v2 l m w' (hl.kept (Kept.of_below hb F)) (hm.kept (Kept.of_below hb F)))
  obtain ⟨ps, hps, hl⟩ := hl
  obtain ⟨ps2, hps2, hm⟩ := hm
  obtain ⟨A, c, rfl, h1, h2, _⟩ := FlatAt.shape hl.1
  obtain ⟨A2, c2, rfl, h3, h4, _⟩ := FlatAt.shape hm.1
  unfold maxLen at h2 h4
  obtain ⟨n, hn⟩ : ∃ n, ps.length = n := ⟨_, rfl⟩
  obtain ⟨n2, hn2⟩ : ∃ n2, ps2.length = n2 := ⟨_, rfl⟩
  rw [hn] at h1 hl S1 P1 P2 ⊢
  rw [hn2] at h3 hm S2 P1 P2 ⊢
  have H1 := hide hl
  have H2 := hide hm
  have HN := hide hn
  have HN2 := hide hn2
  generalize pre l m = pq at P1 P2
  clear hl hm hn hn2 hps hps2 wl wm
  have LIVE : Hid (∀ w', Calls Try.prog 11 #[] w' fun e w'' => e = .returned (.bool true) ∧ Below w'.heap.size w' w'') := lives_any
  go_enter Try.func4, Try.ntmps4
  go_wp2_with (fail)
  refine S1.out.mono ?_
  rintro e w1 ⟨b1, rfl, _, hb1⟩
  have L1 := hide hb1
  clear hb1 S1
  cases b1 with
  | false =>
    go_wp2_with (fail)
    refine (LIVE.out _).mono ?_
    rintro e w2 ⟨rfl, hb2⟩
    have L2 := hide (L1.out.trans hb2)
    clear hb2
    go_wp2
    go_ret
    exact ⟨rfl, L2.out⟩
  | true =>
    go_wp2_with (fail)
    refine (S2.out _ L1.out).mono ?_
    rintro e w2 ⟨b2, rfl, _, hb2⟩
    have L2 : Hid (Later w w2) := L1.out.trans hb2
    clear hb2 S2
    cases b2 with
    | false =>
      go_wp2_with (fail)
      refine (LIVE.out _).mono ?_
      rintro e w3 ⟨rfl, hb3⟩
      have L3 := hide (L2.out.trans hb3)
      clear hb3
      go_wp2
      go_ret
      exact ⟨rfl, L3.out⟩
    | true =>
      go_wp2
      go_loopw [20] (fun i wr => ∃ k : Nat, i = .int .i64 (k : Int) ∧ k ≤ n ∧ Later w wr) (fun i _ => n - (intOf i).toNat)
      case atStart => exact ⟨0, rfl, by omega, L2.out⟩
      case round =>
        obtain ⟨w7, rfl⟩ : ∃ w7, w7 = wr := ⟨_, rfl⟩
        obtain ⟨k, rfl, hk, hb⟩ := hrel
        have HB := hide hb
        clear hb
        by_cases hkn : k < n
        · obtain ⟨x, xs, b, off, c', hx, hv, _, _, hbx, hr, hs⟩ := OpsIn.at_ (H1.out.kept (Kept.of_below HB.out F)) (i := k) (by rw [HN.out]; exact hkn)
          rw [HN.out] at hv
          obtain ⟨rfl, rfl⟩ : A = some ⟨b, off, none⟩ ∧ c = c' := by injection hv with e1 _ e3; exact ⟨e1, e3⟩
          obtain ⟨xA, xc, rfl, _, _, _⟩ := FlatAt.shape hs
          obtain ⟨r0, r1, r2, r3, r4, r5, r6, r7, r8, r9⟩ := range_op hr
          obtain ⟨W1, hW1⟩ : ∃ W1, W1 = w7.alloc (.cells (x.cells (.slice xA x.steps.length xc)).toArray 35 (0, 0)) := ⟨_, rfl⟩
          have hLW : Below w7.heap.size w7 W1 := by rw [hW1]; exact (Below.refl _ _).alloc (Nat.le_refl _) _
          have hXW : W1.heap[w7.heap.size]? = some (.cells (x.cells (.slice xA x.steps.length xc)).toArray 35 (0, 0)) := by rw [hW1]; exact heap_alloc_new _ _
          have HXW := hide hXW
          have LW : Hid (Later w7 W1) := hLW
          have HSX : Hid (∀ w', Later W1 w' → StepsAt F w' (.slice xA x.steps.length xc) x.steps) := fun w' hb => hs.kept (Kept.of_below (LW.out.trans hb) F)
          unfold OpD.cells at hW1
          clear hx hv hr hs hLW hXW
          go_wp2
          rw [← hW1]
          clear hW1 r0 r1 r2 r3 r4 r5 r6 r7 r8 r9
          go_loopw [26] (fun i w' => ∃ q : Nat, i = .int .i64 (q : Int) ∧ q ≤ n2 ∧ Later W1 w') (fun i _ => n2 - (intOf i).toNat)
          case atStart => exact ⟨0, rfl, by omega, Later.refl _⟩
          case round =>
            obtain ⟨q, rfl, hq, hb⟩ := hrel
            have HB2 := hide hb
            clear hb
            by_cases hqn : q < n2
            · obtain ⟨y, ys, b2, off2, c2', hy, hv2, _, _, _, hr2, hs2⟩ := OpsIn.at_ (H2.out.kept (Kept.of_below (Later.trans HB.out (LW.out.trans HB2.out)) F)) (i := q) (by rw [HN2.out]; exact hqn)
              rw [HN2.out] at hv2
              obtain ⟨rfl, rfl⟩ : A2 = some ⟨b2, off2, none⟩ ∧ c2 = c2' := by injection hv2 with e1 _ e3; exact ⟨e1, e3⟩
              obtain ⟨yA, yc, rfl, _, _, _⟩ := FlatAt.shape hs2
              obtain ⟨r0, r1, r2, r3, r4, r5, r6, r7, r8, r9⟩ := range_op hr2
              obtain ⟨W2, hW2⟩ : ∃ W2, W2 = wr.alloc (.cells (y.cells (.slice yA y.steps.length yc)).toArray 35 (0, 0)) := ⟨_, rfl⟩
              have hLW : Below wr.heap.size wr W2 := by rw [hW2]; exact (Below.refl _ _).alloc (Nat.le_refl _) _
              have hYW : W2.heap[wr.heap.size]? = some (.cells (y.cells (.slice yA y.steps.length yc)).toArray 35 (0, 0)) := by rw [hW2]; exact heap_alloc_new _ _
              have LW2 : Hid (Later wr W2) := hLW
              have YB : Hid (∀ w', Later W2 w' → w'.heap[wr.heap.size]? = some (.cells (y.cells (.slice yA y.steps.length yc)).toArray 35 (0, 0))) := fun w' hb => (Below.block hb _ (lt_of_block hYW)).trans hYW
              have XB : Hid (∀ w', Later W2 w' → w'.heap[w7.heap.size]? = some (.cells (x.cells (.slice xA x.steps.length xc)).toArray 35 (0, 0))) := fun w' hb => (Below.block (HB2.out.trans (LW2.out.trans hb)) _ (lt_of_block HXW.out)).trans HXW.out
              have CA := hide (fun w' (hb : Later W2 w') => osame_any F F _ _ x y w' (HSX.out w' (HB2.out.trans (LW2.out.trans hb))) (hs2.kept (Kept.of_below (LW2.out.trans hb) F)))
              have CB := hide (fun w' (hb : Later W2 w') => same_op F F _ _ x y w' (HSX.out w' (HB2.out.trans (LW2.out.trans hb))) (hs2.kept (Kept.of_below (LW2.out.trans hb) F)))
              generalize decide (x = y) = dq at CA CB
              have L2 : Hid (Later W2 W2.drew) := Later.drew _
              unfold OpD.cells at hW2
              clear hy hv2 hr2 hs2 hLW hYW
              go_wp2
              rw [← hW2]
              clear hW2 r0 r1 r2 r3 r4 r5 r6 r7 r8 r9
              refine wp_region_L (by kernel_rfl) ?_
              refine wpAnyL_take (i := 0) (d := some 30) (v := .agg (x.cells (.slice xA x.steps.length xc)).toArray) rfl rfl (by kernel_rfl) (by kernel_rfl) (by kernel_rfl) (fun _ _ _ h => h) (by rfl) ?yap0 ?_
              case yap0 => (intro w' hw'; exact exec_load_box 35 _ (by rfl) w7.heap.size 0 (by rfl) 35 _ (XB.out w' (L2.out.trans hw')) 10 _ Try.underlying35 (by rfl) (by kernel_rfl) (x.cells (.slice xA x.steps.length xc)) (by rfl) (by rfl))
              simp only [Act.put]; try simp only [List.setIfInBounds_toArray]; try simp only [List.set_cons_zero, List.set_cons_succ]
              refine wpAnyL_take (i := 1) (d := some 31) (v := .agg (y.cells (.slice yA y.steps.length yc)).toArray) rfl rfl (by kernel_rfl) (by kernel_rfl) (by kernel_rfl) (fun _ _ _ h => h) (by rfl) ?yap1 ?_
              case yap1 => (intro w' hw'; exact exec_load_box 35 _ (by rfl) wr.heap.size 0 (by rfl) 35 _ (YB.out w' (L2.out.trans hw')) 10 _ Try.underlying35 (by rfl) (by kernel_rfl) (y.cells (.slice yA y.steps.length yc)) (by rfl) (by rfl))
              simp only [Act.put]; try simp only [List.setIfInBounds_toArray]; try simp only [List.set_cons_zero, List.set_cons_succ]
              refine wpAnyL_take (i := 3) (d := some 33) (v := .agg (x.cells (.slice xA x.steps.length xc)).toArray) rfl rfl (by kernel_rfl) (by kernel_rfl) (by kernel_rfl) (fun _ _ _ h => h) (by rfl) ?yap3 ?_
              case yap3 => (intro w' hw'; exact exec_load_box 35 _ (by rfl) w7.heap.size 0 (by rfl) 35 _ (XB.out w' (L2.out.trans hw')) 10 _ Try.underlying35 (by rfl) (by kernel_rfl) (x.cells (.slice xA x.steps.length xc)) (by rfl) (by rfl))
              simp only [Act.put]; try simp only [List.setIfInBounds_toArray]; try simp only [List.set_cons_zero, List.set_cons_succ]
              refine wpAnyL_take (i := 4) (d := some 34) (v := .agg (y.cells (.slice yA y.steps.length yc)).toArray) rfl rfl (by kernel_rfl) (by kernel_rfl) (by kernel_rfl) (fun _ _ _ h => h) (by rfl) ?yap4 ?_
              case yap4 => (intro w' hw'; exact exec_load_box 35 _ (by rfl) wr.heap.size 0 (by rfl) 35 _ (YB.out w' (L2.out.trans hw')) 10 _ Try.underlying35 (by rfl) (by kernel_rfl) (y.cells (.slice yA y.steps.length yc)) (by rfl) (by rfl))
              simp only [Act.put]; try simp only [List.setIfInBounds_toArray]; try simp only [List.set_cons_zero, List.set_cons_succ]
              refine wpAnyL_only (i := 2) rfl (by kernel_rfl) (by rfl) fun K hK => ?_
              go_simp
              refine (CA.out _ L2.out).mono ?_
              rintro e w8 ⟨rfl, hb8⟩
              have L8 : Hid (Later W2 w8) := L2.out.trans hb8
              have HB8 := hide hb8
              clear hb8
              refine hK.out _ _ HB8.out ?_
              clear hK K
              try (simp only [Act.put]; try simp only [List.setIfInBounds_toArray]; try simp only [List.set_cons_zero, List.set_cons_succ])
              refine wpAnyL_only (i := 5) rfl (by kernel_rfl) (by rfl) fun K hK => ?_
              go_simp
              refine (CB.out _ L8.out).mono ?_
              rintro e w9 ⟨rfl, hb9⟩
              have L9 : Hid (Later W2 w9) := L8.out.trans hb9
              have HB9 := hide hb9
              clear hb9
              refine hK.out _ _ HB9.out ?_
              clear hK K
              try (simp only [Act.put]; try simp only [List.setIfInBounds_toArray]; try simp only [List.set_cons_zero, List.set_cons_succ])
              refine wpAnyL_take (i := 6) (d := some 36) (v := ?vap6) rfl rfl (by kernel_rfl) (by kernel_rfl) (by kernel_rfl) (fun _ _ _ h => h) (by rfl) ?yap6 ?_
              case yap6 => (intro w' hw'; go_simp; try (with_reducible rfl))
              simp only [Act.put]; try simp only [List.setIfInBounds_toArray]; try simp only [List.set_cons_zero, List.set_cons_succ]
              refine wpAnyL_done (by kernel_rfl) ?_ _
              have hdd : (dq != dq) = false := by simp
              go_wp2
              all_goals go_roundw
              case rel => exact ⟨q + 1, by go_num, by omega, HB2.out.trans (LW2.out.trans L9.out)⟩
              case measure => simp [intOf]; omega
            · go_wp2
              all_goals go_roundw
              case rel => exact ⟨k + 1, by go_num, by omega, HB.out.trans (LW.out.trans HB2.out)⟩
              case measure => simp [intOf]; omega
        · go_wp2_with (fail)
          refine (P1.out _ HB.out).mono ?_
          rintro e w3 ⟨rfl, hb3⟩
          have L3 : Hid (Later w w3) := HB.out.trans hb3
          clear hb3
          go_wp2_with (fail)
          refine (P2.out _ L3.out).mono ?_
          rintro e w4 ⟨rfl, hb4⟩
          have L4 : Hid (Later w w4) := L3.out.trans hb4
          have hpp : ((pq : Int) == (pq : Int)) = true := by simp
          clear hb4
          go_wp2_with (fail)
          refine (LIVE.out _).mono ?_
          rintro e w5 ⟨rfl, hb5⟩
          have L5 := hide (L4.out.trans hb5)
          clear hb5
          go_wp2
          go_ret
          exact ⟨rfl, L5.out⟩
end Go.Proofs.Ytgjpdfolnkjhfaa
