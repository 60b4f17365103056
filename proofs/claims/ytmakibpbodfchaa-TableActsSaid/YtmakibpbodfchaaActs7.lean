/- The walk over droverlaw07.TableActs: whatever is done to a table, it is the document's. -/
import Derived.Test.YtmakibpbodfchaaActsB7
namespace Go.Proofs.Ytmakibpbodfchaa
open Go.RowKit

set_option maxHeartbeats 16000000 in
set_option maxRecDepth 100000 in
theorem law_acts (v : Value) (l : List ActC) (c r : Int) (w : World) (h : ActsAt (· < w.heap.size) w v l) (_ : ∀ x ∈ l, x.wf) (_ : I64 c) (_ : I64 r) :
    Calls Try.prog 3 #[v, .int .i64 c, .int .i64 r] w fun e w' => e = .returned (.bool true) ∧ Below w.heap.size w w' := by
  obtain ⟨A, cp, rfl, hcn, hcm, _⟩ := FlatAt.shape h
  unfold maxLen at hcm
  obtain ⟨n', hn⟩ : ∃ n', n' = l.length := ⟨_, rfl⟩
  rw [← hn] at hcn ⊢
  have HV : Hid (ActsAt (· < w.heap.size) w (.slice A n' cp) l) := by rw [hn]; exact h
  have HN := hide hn
  clear h hn
  by_cases hlong : 200 < n'
  · have hlong' : (200 : Int) < (n' : Int) := by omega
    go_enter Try.func3, Try.ntmps3
    go_wp2_with (fail)
    refine (lives_any _).mono ?_
    rintro e w2 ⟨rfl, hb2⟩
    have HB2 := hide hb2
    clear hb2
    go_wp2
    go_ret
    exact ⟨rfl, HB2.out⟩
  · have hshort : (n' : Int) ≤ 200 := by omega
    clear hlong
    go_enter Try.func3, Try.ntmps3
    go_wp2_with (fail)
    refine (own_new w w (Below.refl _ _)).mono ?_
    rintro e w1 ⟨g, rfl, o1, _, _⟩
    have O1 := hide o1
    clear o1
    go_wp2
    obtain ⟨w2, hw2⟩ : ∃ w2, w2 = w1.alloc (.cells RTab.zero.cells.toArray 34 (0, 0)) := ⟨_, rfl⟩
    have P2 : Hid (Both w w2 g w1.heap.size .zero) := by rw [hw2]; exact Both.start O1.out
    obtain ⟨r', hr'⟩ : ∃ r', r' = w1.heap.size := ⟨_, rfl⟩
    have HW2 := hide hw2
    rw [← hr'] at P2 ⊢
    clear hw2 hr'
    go_loopw [29] (fun v wr => ∃ (k : Nat) (T : Tab), v = .int .i64 (k : Int) ∧ k ≤ n' ∧ Both w wr g r' T) (fun v _ => n' - (intOf v).toNat)
    case atStart => exact ⟨0, _, rfl, by omega, by have h := HW2.out; rw [show (RTab.zero.cells.toArray : Array Value) = _ from rfl] at h; exact h ▸ P2.out⟩
    case round =>
      obtain ⟨k, T, rfl, hk, ho⟩ := hrel
      have HO := hide ho
      clear ho
      by_cases hkn : k < n'
      · obtain ⟨a, b, off, c', hx, hv, hcc, _, hbl, hrange⟩ := ActsAt.at_ (HV.out.kept (kept_at HO.out.1.2.2)) (i := k) (by rw [← HN.out]; exact hkn)
        rw [← HN.out] at hv
        obtain ⟨rfl, rfl⟩ : A = some ⟨b, off, none⟩ ∧ cp = c' := by injection hv with e1 _ e3; exact ⟨e1, e3⟩
        have HR : Hid (wr.rangeAt b (off + k * 7) a.cells) := hrange
        clear hrange hbl hcc hx hv
        have HNE : Hid (wr.heap.size ≠ g) := by
          have := HO.out.1.at_.lt
          show _ ≠ _
          omega
        have HNR : Hid (wr.heap.size ≠ r') := by
          have := HO.out.2.1.lt
          show _ ≠ _
          omega
        clear P2 HW2
        by_cases hkd0 : a.kind = 0
        · have hk0 : (a.kind == 0) = true := by simpa using hkd0
          clear hkd0
          obtain ⟨z0, hz0⟩ : ∃ z0, (startT T a.client a.request).1 = z0 := ⟨_, rfl⟩
          have HZ := hide hz0
          clear hz0
          go_wp2_with (first
            | (refine wpList_load_mid (by rfl) 36 _ (by rfl) b (off + k * 7) (by rfl) _ _ HR.out Try.underlying36 (by rfl) (by kernel_rfl) ?_)
            | (refine wpList_store_act (a := a) (by rfl) _ _ (by rfl) (by rfl) (ActAt.new wr) (by rfl) ?_; intro w2 hx hg; have A2 := hide hx; have P2 := hide (HO.out.later (below_new hg)); have k0 := A2.out.cell0; clear hx hg))
          clear k0
          refine wp_region_R (R := fun a b => Kept (fun i => i = wr.heap.size) a b) (by kernel_rfl) ?_
          refine wpAnyR_take (pre_kept (fun i => i = wr.heap.size)) (i := 0) (d := some 37) (v := ?vasa0) rfl rfl (by kernel_rfl) (by kernel_rfl) (by kernel_rfl) (fun _ _ _ h => h) (by rfl) ?yasa0 ?_
          case yasa0 => (intro w' hw'; go_simp; try (with_reducible rfl))
          simp only [Act.put]; try simp only [List.setIfInBounds_toArray]; try simp only [List.set_cons_zero, List.set_cons_succ]
          refine wpAnyR_take (pre_kept (fun i => i = wr.heap.size)) (i := 1) (d := some 38) (v := ?vasa1) rfl rfl (by kernel_rfl) (by kernel_rfl) (by kernel_rfl) (fun _ _ _ h => h) (by rfl) ?yasa1 ?_
          case yasa1 => (intro w' hw'; go_simp; try (with_reducible rfl))
          simp only [Act.put]; try simp only [List.setIfInBounds_toArray]; try simp only [List.set_cons_zero, List.set_cons_succ]
          refine wpAnyR_take (pre_kept (fun i => i = wr.heap.size)) (i := 2) (d := some 39) (v := ?vasa2) rfl rfl (by kernel_rfl) (by kernel_rfl) (by kernel_rfl) (fun _ _ _ h => h) (by rfl) ?yasa2 ?_
          case yasa2 => (intro w' hw'; have e1 := ((A2.out.later (Below.refl w2.heap.size w2).drew).kept hw').cell1; go_simp; try (with_reducible rfl))
          simp only [Act.put]; try simp only [List.setIfInBounds_toArray]; try simp only [List.set_cons_zero, List.set_cons_succ]
          refine wpAnyR_take (pre_kept (fun i => i = wr.heap.size)) (i := 3) (d := some 40) (v := ?vasa3) rfl rfl (by kernel_rfl) (by kernel_rfl) (by kernel_rfl) (fun _ _ _ h => h) (by rfl) ?yasa3 ?_
          case yasa3 => (intro w' hw'; go_simp; try (with_reducible rfl))
          simp only [Act.put]; try simp only [List.setIfInBounds_toArray]; try simp only [List.set_cons_zero, List.set_cons_succ]
          refine wpAnyR_take (pre_kept (fun i => i = wr.heap.size)) (i := 4) (d := some 41) (v := ?vasa4) rfl rfl (by kernel_rfl) (by kernel_rfl) (by kernel_rfl) (fun _ _ _ h => h) (by rfl) ?yasa4 ?_
          case yasa4 => (intro w' hw'; have e2 := ((A2.out.later (Below.refl w2.heap.size w2).drew).kept hw').cell2; go_simp; try (with_reducible rfl))
          simp only [Act.put]; try simp only [List.setIfInBounds_toArray]; try simp only [List.set_cons_zero, List.set_cons_succ]
          refine wpAnyR_take (pre_kept (fun i => i = wr.heap.size)) (i := 6) (d := some 43) (v := ?vasa6) rfl rfl (by kernel_rfl) (by kernel_rfl) (by kernel_rfl) (fun _ _ _ h => h) (by rfl) ?yasa6 ?_
          case yasa6 => (intro w' hw'; go_simp; try (with_reducible rfl))
          simp only [Act.put]; try simp only [List.setIfInBounds_toArray]; try simp only [List.set_cons_zero, List.set_cons_succ]
          refine wpAnyR_take (pre_kept (fun i => i = wr.heap.size)) (i := 7) (d := some 44) (v := ?vasa7) rfl rfl (by kernel_rfl) (by kernel_rfl) (by kernel_rfl) (fun _ _ _ h => h) (by rfl) ?yasa7 ?_
          case yasa7 => (intro w' hw'; go_simp; try (with_reducible rfl))
          simp only [Act.put]; try simp only [List.setIfInBounds_toArray]; try simp only [List.set_cons_zero, List.set_cons_succ]
          refine wpAnyR_take (pre_kept (fun i => i = wr.heap.size)) (i := 8) (d := some 45) (v := ?vasa8) rfl rfl (by kernel_rfl) (by kernel_rfl) (by kernel_rfl) (fun _ _ _ h => h) (by rfl) ?yasa8 ?_
          case yasa8 => (intro w' hw'; have e1 := ((A2.out.later (Below.refl w2.heap.size w2).drew).kept hw').cell1; go_simp; try (with_reducible rfl))
          simp only [Act.put]; try simp only [List.setIfInBounds_toArray]; try simp only [List.set_cons_zero, List.set_cons_succ]
          refine wpAnyR_take (pre_kept (fun i => i = wr.heap.size)) (i := 9) (d := some 46) (v := ?vasa9) rfl rfl (by kernel_rfl) (by kernel_rfl) (by kernel_rfl) (fun _ _ _ h => h) (by rfl) ?yasa9 ?_
          case yasa9 => (intro w' hw'; go_simp; try (with_reducible rfl))
          simp only [Act.put]; try simp only [List.setIfInBounds_toArray]; try simp only [List.set_cons_zero, List.set_cons_succ]
          refine wpAnyR_take (pre_kept (fun i => i = wr.heap.size)) (i := 10) (d := some 47) (v := ?vasa10) rfl rfl (by kernel_rfl) (by kernel_rfl) (by kernel_rfl) (fun _ _ _ h => h) (by rfl) ?yasa10 ?_
          case yasa10 => (intro w' hw'; have e2 := ((A2.out.later (Below.refl w2.heap.size w2).drew).kept hw').cell2; go_simp; try (with_reducible rfl))
          simp only [Act.put]; try simp only [List.setIfInBounds_toArray]; try simp only [List.set_cons_zero, List.set_cons_succ]
          refine wpAnyR_only (i := 5) rfl (by kernel_rfl) (by rfl) fun K hK => ?_
          go_simp
          refine (both_start (P2.out.later (Below.refl w2.heap.size w2).drew) a.client a.request).mono ?_
          rw [HZ.out]
          rintro e w3 ⟨rfl, p3, hg3⟩
          have P3 := hide p3
          have A3 := hide ((A2.out.later (Below.refl w2.heap.size w2).drew).other hg3 (fun e => HNE.out (Option.some.inj e)))
          have hk9 : Kept (fun i => i = wr.heap.size) _ _ := Kept.of_grown hg3 (fun q e hq => HNE.out ((show q = wr.heap.size from hq).symm.trans (Option.some.inj e).symm))
          refine hK.out _ _ hk9 ?_
          clear p3 hg3 hk9
          clear hK K
          try (simp only [Act.put]; try simp only [List.setIfInBounds_toArray]; try simp only [List.set_cons_zero, List.set_cons_succ])
          refine wpAnyR_only (i := 11) rfl (by kernel_rfl) (by rfl) fun K hK => ?_
          go_simp
          refine (both_refstart a.client a.request P3.out).mono ?_
          rw [HZ.out]
          rintro e w4 ⟨rfl, p4, hg4⟩
          have P4 := hide p4
          have A4 := hide (A3.out.other hg4 (fun e => HNR.out (Option.some.inj e)))
          have hk9 : Kept (fun i => i = wr.heap.size) _ _ := Kept.of_grown hg4 (fun q e hq => HNR.out ((show q = wr.heap.size from hq).symm.trans (Option.some.inj e).symm))
          refine hK.out _ _ hk9 ?_
          clear p4 hg4 hk9
          clear hK K
          try (simp only [Act.put]; try simp only [List.setIfInBounds_toArray]; try simp only [List.set_cons_zero, List.set_cons_succ])
          refine wpAnyR_take (pre_kept (fun i => i = wr.heap.size)) (i := 12) (d := some 49) (v := ?vasa12) rfl rfl (by kernel_rfl) (by kernel_rfl) (by kernel_rfl) (fun _ _ _ h => h) (by rfl) ?yasa12 ?_
          case yasa12 => (intro w' hw'; go_simp; try (with_reducible rfl))
          simp only [Act.put]; try simp only [List.setIfInBounds_toArray]; try simp only [List.set_cons_zero, List.set_cons_succ]
          refine wpAnyR_take (pre_kept (fun i => i = wr.heap.size)) (i := 13) (d := some 11) (v := ?vasa13) rfl rfl (by kernel_rfl) (by kernel_rfl) (by kernel_rfl) (fun _ _ _ h => h) (by rfl) ?yasa13 ?_
          case yasa13 => (intro w' hw'; go_simp; try (with_reducible rfl))
          simp only [Act.put]; try simp only [List.setIfInBounds_toArray]; try simp only [List.set_cons_zero, List.set_cons_succ]
          refine wpAnyR_done (by kernel_rfl) ?_ _
          go_wp2_with (fail)
          have P0 := hide (P4.out)
          have A0 := hide (A4.out)
          refine (both_ask P0.out c r).mono ?_
          rintro e v1 ⟨rfl, p1, hb1⟩
          have P1 := hide p1
          have A1 := hide (A0.out.later hb1)
          clear p1 hb1
          obtain ⟨y0, hy0⟩ : ∃ y0, y0 = (askT (startT T a.client a.request).2 c r).1 := ⟨_, rfl⟩
          obtain ⟨x0, hx0⟩ : ∃ x0, x0 = (askT (startT T a.client a.request).2 c r).2 := ⟨_, rfl⟩
          have HY0 := hide hy0
          have HX0 := hide hx0
          rw [← hy0, ← hx0]
          clear hy0 hx0
          go_wp2_with (refine wpList_store_rep (m := x0) (by rfl) _ _ (by rfl) (by rfl) (RepAt.new v1) (by rfl) ?_; intro v2 hx hg; have P2 := hide (P1.out.later (below_new hg)); have A2 := hide (A1.out.later (below_new hg)); have V2 := hide hx; clear hx hg)
          refine (both_refask P2.out c r).mono ?_
          rw [← HY0.out, ← HX0.out]
          rintro e v3 ⟨rfl, p3, hb3⟩
          have P3 := hide p3
          have A3 := hide (A2.out.later hb3)
          have V3 := hide (V2.out.later hb3)
          clear p3 hb3
          go_wp2_with (refine wpList_store_rep (m := x0) (by rfl) _ _ (by rfl) (by rfl) (RepAt.new v3) (by rfl) ?_; intro v4 hx hg; have P4 := hide (P3.out.later (below_new hg)); have A4 := hide (A3.out.later (below_new hg)); have V4 := hide (V3.out.later (below_new hg)); have W4 := hide hx; have k1 := A4.out.cell1; have k2 := A4.out.cell2; clear hx hg)
          clear k1 k2
          refine (both_ask P4.out a.client a.request).mono ?_
          rintro e v5 ⟨rfl, p5, hb5⟩
          have P5 := hide p5
          have A5 := hide (A4.out.later hb5)
          have V5 := hide (V4.out.later hb5)
          have W5 := hide (W4.out.later hb5)
          clear p5 hb5
          obtain ⟨y1, hy1⟩ : ∃ y1, y1 = (askT (startT T a.client a.request).2 a.client a.request).1 := ⟨_, rfl⟩
          obtain ⟨x1, hx1⟩ : ∃ x1, x1 = (askT (startT T a.client a.request).2 a.client a.request).2 := ⟨_, rfl⟩
          have HY1 := hide hy1
          have HX1 := hide hx1
          rw [← hy1, ← hx1]
          clear hy1 hx1
          go_wp2_with (refine wpList_store_rep (m := x1) (by rfl) _ _ (by rfl) (by rfl) (RepAt.new v5) (by rfl) ?_; intro v6 hx hg; have P6 := hide (P5.out.later (below_new hg)); have A6 := hide (A5.out.later (below_new hg)); have V6 := hide (V5.out.later (below_new hg)); have W6 := hide (W5.out.later (below_new hg)); have X6 := hide hx; have k1 := A6.out.cell1; have k2 := A6.out.cell2; clear hx hg)
          clear k1 k2
          refine (both_refask P6.out a.client a.request).mono ?_
          rw [← HY1.out, ← HX1.out]
          rintro e v7 ⟨rfl, p7, hb7⟩
          have P7 := hide p7
          have A7 := hide (A6.out.later hb7)
          have V7 := hide (V6.out.later hb7)
          have W7 := hide (W6.out.later hb7)
          have X7 := hide (X6.out.later hb7)
          clear p7 hb7
          go_wp2_with (refine wpList_store_rep (m := x1) (by rfl) _ _ (by rfl) (by rfl) (RepAt.new v7) (by rfl) ?_; intro v8 hx hg; have P8 := hide (P7.out.later (below_new hg)); have A8 := hide (A7.out.later (below_new hg)); have V8 := hide (V7.out.later (below_new hg)); have W8 := hide (W7.out.later (below_new hg)); have X8 := hide (X7.out.later (below_new hg)); have Y8 := hide hx; clear hx hg)
          obtain ⟨l1, hl1⟩ : ∃ l1, ((startT T a.client a.request).2.of a.client).last = l1 := ⟨_, rfl⟩
          obtain ⟨d1, hd1⟩ : ∃ d1, ((startT T a.client a.request).2.of a.client).done = d1 := ⟨_, rfl⟩
          have HL1 := hide hl1
          have HD1 := hide hd1
          clear hl1 hd1
          refine wp_region_L (by kernel_rfl) ?_
          refine wpAnyL_take (i := 0) (d := some 107) (v := ?vasb0) rfl rfl (by kernel_rfl) (by kernel_rfl) (by kernel_rfl) (fun _ _ _ h => h) (by rfl) ?yasb0 ?_
          case yasb0 => (intro w' hw'; go_simp; try (with_reducible rfl))
          simp only [Act.put]; try simp only [List.setIfInBounds_toArray]; try simp only [List.set_cons_zero, List.set_cons_succ]
          refine wpAnyL_take (i := 1) (d := some 108) (v := ?vasb1) rfl rfl (by kernel_rfl) (by kernel_rfl) (by kernel_rfl) (fun _ _ _ h => h) (by rfl) ?yasb1 ?_
          case yasb1 => (intro w' hw'; go_simp; try (with_reducible rfl))
          simp only [Act.put]; try simp only [List.setIfInBounds_toArray]; try simp only [List.set_cons_zero, List.set_cons_succ]
          refine wpAnyL_take (i := 2) (d := some 109) (v := ?vasb2) rfl rfl (by kernel_rfl) (by kernel_rfl) (by kernel_rfl) (fun _ _ _ h => h) (by rfl) ?yasb2 ?_
          case yasb2 => (intro w' hw'; go_simp; try (with_reducible rfl))
          simp only [Act.put]; try simp only [List.setIfInBounds_toArray]; try simp only [List.set_cons_zero, List.set_cons_succ]
          refine wpAnyL_take (i := 3) (d := some 110) (v := ?vasb3) rfl rfl (by kernel_rfl) (by kernel_rfl) (by kernel_rfl) (fun _ _ _ h => h) (by rfl) ?yasb3 ?_
          case yasb3 => (intro w' hw'; go_simp; try (with_reducible rfl))
          simp only [Act.put]; try simp only [List.setIfInBounds_toArray]; try simp only [List.set_cons_zero, List.set_cons_succ]
          refine wpAnyL_take (i := 4) (d := some 111) (v := ?vasb4) rfl rfl (by kernel_rfl) (by kernel_rfl) (by kernel_rfl) (fun _ _ _ h => h) (by rfl) ?yasb4 ?_
          case yasb4 => (intro w' hw'; go_simp; try (with_reducible rfl))
          simp only [Act.put]; try simp only [List.setIfInBounds_toArray]; try simp only [List.set_cons_zero, List.set_cons_succ]
          refine wpAnyL_take (i := 5) (d := some 112) (v := ?vasb5) rfl rfl (by kernel_rfl) (by kernel_rfl) (by kernel_rfl) (fun _ _ _ h => h) (by rfl) ?yasb5 ?_
          case yasb5 => (intro w' hw'; go_simp; try (with_reducible rfl))
          simp only [Act.put]; try simp only [List.setIfInBounds_toArray]; try simp only [List.set_cons_zero, List.set_cons_succ]
          refine wpAnyL_take (i := 6) (d := some 113) (v := ?vasb6) rfl rfl (by kernel_rfl) (by kernel_rfl) (by kernel_rfl) (fun _ _ _ h => h) (by rfl) ?yasb6 ?_
          case yasb6 => (intro w' hw'; go_simp; try (with_reducible rfl))
          simp only [Act.put]; try simp only [List.setIfInBounds_toArray]; try simp only [List.set_cons_zero, List.set_cons_succ]
          refine wpAnyL_take (i := 7) (d := some 114) (v := ?vasb7) rfl rfl (by kernel_rfl) (by kernel_rfl) (by kernel_rfl) (fun _ _ _ h => h) (by rfl) ?yasb7 ?_
          case yasb7 => (intro w' hw'; go_simp; try (with_reducible rfl))
          simp only [Act.put]; try simp only [List.setIfInBounds_toArray]; try simp only [List.set_cons_zero, List.set_cons_succ]
          refine wpAnyL_take (i := 8) (d := some 115) (v := x0.val) rfl rfl (by kernel_rfl) (by kernel_rfl) (by kernel_rfl) (fun _ _ _ h => h) (by rfl) ?yasb8 ?_
          case yasb8 => (intro w' hw'; exact exec_load_rep _ (by rfl) (by rfl) (V8.out.later ((Below.refl v8.heap.size v8).drew.trans hw')))
          simp only [Act.put]; try simp only [List.setIfInBounds_toArray]; try simp only [List.set_cons_zero, List.set_cons_succ]
          refine wpAnyL_take (i := 9) (d := some 116) (v := x0.val) rfl rfl (by kernel_rfl) (by kernel_rfl) (by kernel_rfl) (fun _ _ _ h => h) (by rfl) ?yasb9 ?_
          case yasb9 => (intro w' hw'; exact exec_load_rep _ (by rfl) (by rfl) (W8.out.later ((Below.refl v8.heap.size v8).drew.trans hw')))
          simp only [Act.put]; try simp only [List.setIfInBounds_toArray]; try simp only [List.set_cons_zero, List.set_cons_succ]
          refine wpAnyL_take (i := 10) (d := some 117) (v := .bool false) rfl rfl (by kernel_rfl) (by kernel_rfl) (by kernel_rfl) (fun _ _ _ h => h) (by rfl) ?yasb10 ?_
          case yasb10 => (intro w' hw'; exact exec_neq_rep _ _ _ (by rfl) (by rfl) (by rfl) (by simp))
          simp only [Act.put]; try simp only [List.setIfInBounds_toArray]; try simp only [List.set_cons_zero, List.set_cons_succ]
          refine wpAnyL_take (i := 11) (d := some 118) (v := ?vasb11) rfl rfl (by kernel_rfl) (by kernel_rfl) (by kernel_rfl) (fun _ _ _ h => h) (by rfl) ?yasb11 ?_
          case yasb11 => (intro w' hw'; go_simp; try (with_reducible rfl))
          simp only [Act.put]; try simp only [List.setIfInBounds_toArray]; try simp only [List.set_cons_zero, List.set_cons_succ]
          refine wpAnyL_take (i := 12) (d := some 119) (v := ?vasb12) rfl rfl (by kernel_rfl) (by kernel_rfl) (by kernel_rfl) (fun _ _ _ h => h) (by rfl) ?yasb12 ?_
          case yasb12 => (intro w' hw'; go_simp; try (with_reducible rfl))
          simp only [Act.put]; try simp only [List.setIfInBounds_toArray]; try simp only [List.set_cons_zero, List.set_cons_succ]
          refine wpAnyL_take (i := 13) (d := some 120) (v := ?vasb13) rfl rfl (by kernel_rfl) (by kernel_rfl) (by kernel_rfl) (fun _ _ _ h => h) (by rfl) ?yasb13 ?_
          case yasb13 => (intro w' hw'; go_simp; try (with_reducible rfl))
          simp only [Act.put]; try simp only [List.setIfInBounds_toArray]; try simp only [List.set_cons_zero, List.set_cons_succ]
          refine wpAnyL_take (i := 14) (d := some 121) (v := ?vasb14) rfl rfl (by kernel_rfl) (by kernel_rfl) (by kernel_rfl) (fun _ _ _ h => h) (by rfl) ?yasb14 ?_
          case yasb14 => (intro w' hw'; go_simp; try (with_reducible rfl))
          simp only [Act.put]; try simp only [List.setIfInBounds_toArray]; try simp only [List.set_cons_zero, List.set_cons_succ]
          refine wpAnyL_take (i := 15) (d := some 122) (v := ?vasb15) rfl rfl (by kernel_rfl) (by kernel_rfl) (by kernel_rfl) (fun _ _ _ h => h) (by rfl) ?yasb15 ?_
          case yasb15 => (intro w' hw'; go_simp; try (with_reducible rfl))
          simp only [Act.put]; try simp only [List.setIfInBounds_toArray]; try simp only [List.set_cons_zero, List.set_cons_succ]
          refine wpAnyL_take (i := 16) (d := some 123) (v := ?vasb16) rfl rfl (by kernel_rfl) (by kernel_rfl) (by kernel_rfl) (fun _ _ _ h => h) (by rfl) ?yasb16 ?_
          case yasb16 => (intro w' hw'; go_simp; try (with_reducible rfl))
          simp only [Act.put]; try simp only [List.setIfInBounds_toArray]; try simp only [List.set_cons_zero, List.set_cons_succ]
          refine wpAnyL_take (i := 17) (d := some 124) (v := ?vasb17) rfl rfl (by kernel_rfl) (by kernel_rfl) (by kernel_rfl) (fun _ _ _ h => h) (by rfl) ?yasb17 ?_
          case yasb17 => (intro w' hw'; go_simp; try (with_reducible rfl))
          simp only [Act.put]; try simp only [List.setIfInBounds_toArray]; try simp only [List.set_cons_zero, List.set_cons_succ]
          refine wpAnyL_take (i := 18) (d := some 125) (v := x1.val) rfl rfl (by kernel_rfl) (by kernel_rfl) (by kernel_rfl) (fun _ _ _ h => h) (by rfl) ?yasb18 ?_
          case yasb18 => (intro w' hw'; exact exec_load_rep _ (by rfl) (by rfl) (X8.out.later ((Below.refl v8.heap.size v8).drew.trans hw')))
          simp only [Act.put]; try simp only [List.setIfInBounds_toArray]; try simp only [List.set_cons_zero, List.set_cons_succ]
          refine wpAnyL_take (i := 19) (d := some 126) (v := x1.val) rfl rfl (by kernel_rfl) (by kernel_rfl) (by kernel_rfl) (fun _ _ _ h => h) (by rfl) ?yasb19 ?_
          case yasb19 => (intro w' hw'; exact exec_load_rep _ (by rfl) (by rfl) (Y8.out.later ((Below.refl v8.heap.size v8).drew.trans hw')))
          simp only [Act.put]; try simp only [List.setIfInBounds_toArray]; try simp only [List.set_cons_zero, List.set_cons_succ]
          refine wpAnyL_take (i := 20) (d := some 127) (v := .bool false) rfl rfl (by kernel_rfl) (by kernel_rfl) (by kernel_rfl) (fun _ _ _ h => h) (by rfl) ?yasb20 ?_
          case yasb20 => (intro w' hw'; exact exec_neq_rep _ _ _ (by rfl) (by rfl) (by rfl) (by simp))
          simp only [Act.put]; try simp only [List.setIfInBounds_toArray]; try simp only [List.set_cons_zero, List.set_cons_succ]
          refine wpAnyL_take (i := 21) (d := some 128) (v := ?vasb21) rfl rfl (by kernel_rfl) (by kernel_rfl) (by kernel_rfl) (fun _ _ _ h => h) (by rfl) ?yasb21 ?_
          case yasb21 => (intro w' hw'; go_simp; try (with_reducible rfl))
          simp only [Act.put]; try simp only [List.setIfInBounds_toArray]; try simp only [List.set_cons_zero, List.set_cons_succ]
          refine wpAnyL_take (i := 22) (d := some 129) (v := ?vasb22) rfl rfl (by kernel_rfl) (by kernel_rfl) (by kernel_rfl) (fun _ _ _ h => h) (by rfl) ?yasb22 ?_
          case yasb22 => (intro w' hw'; go_simp; try (with_reducible rfl))
          simp only [Act.put]; try simp only [List.setIfInBounds_toArray]; try simp only [List.set_cons_zero, List.set_cons_succ]
          refine wpAnyL_take (i := 23) (d := some 130) (v := ?vasb23) rfl rfl (by kernel_rfl) (by kernel_rfl) (by kernel_rfl) (fun _ _ _ h => h) (by rfl) ?yasb23 ?_
          case yasb23 => (intro w' hw'; go_simp; try (with_reducible rfl))
          simp only [Act.put]; try simp only [List.setIfInBounds_toArray]; try simp only [List.set_cons_zero, List.set_cons_succ]
          refine wpAnyL_take (i := 24) (d := some 131) (v := ?vasb24) rfl rfl (by kernel_rfl) (by kernel_rfl) (by kernel_rfl) (fun _ _ _ h => h) (by rfl) ?yasb24 ?_
          case yasb24 => (intro w' hw'; go_simp; try (with_reducible rfl))
          simp only [Act.put]; try simp only [List.setIfInBounds_toArray]; try simp only [List.set_cons_zero, List.set_cons_succ]
          refine wpAnyL_take (i := 25) (d := some 132) (v := ?vasb25) rfl rfl (by kernel_rfl) (by kernel_rfl) (by kernel_rfl) (fun _ _ _ h => h) (by rfl) ?yasb25 ?_
          case yasb25 => (intro w' hw'; have e1 := (A8.out.later ((Below.refl v8.heap.size v8).drew.trans hw')).cell1; go_simp; try (with_reducible rfl))
          simp only [Act.put]; try simp only [List.setIfInBounds_toArray]; try simp only [List.set_cons_zero, List.set_cons_succ]
          refine wpAnyL_take (i := 27) (d := some 134) (v := ?vasb27) rfl rfl (by kernel_rfl) (by kernel_rfl) (by kernel_rfl) (fun _ _ _ h => h) (by rfl) ?yasb27 ?_
          case yasb27 => (intro w' hw'; go_simp; try (with_reducible rfl))
          simp only [Act.put]; try simp only [List.setIfInBounds_toArray]; try simp only [List.set_cons_zero, List.set_cons_succ]
          refine wpAnyL_take (i := 28) (d := some 135) (v := ?vasb28) rfl rfl (by kernel_rfl) (by kernel_rfl) (by kernel_rfl) (fun _ _ _ h => h) (by rfl) ?yasb28 ?_
          case yasb28 => (intro w' hw'; go_simp; try (with_reducible rfl))
          simp only [Act.put]; try simp only [List.setIfInBounds_toArray]; try simp only [List.set_cons_zero, List.set_cons_succ]
          refine wpAnyL_take (i := 29) (d := some 136) (v := ?vasb29) rfl rfl (by kernel_rfl) (by kernel_rfl) (by kernel_rfl) (fun _ _ _ h => h) (by rfl) ?yasb29 ?_
          case yasb29 => (intro w' hw'; have e1 := (A8.out.later ((Below.refl v8.heap.size v8).drew.trans hw')).cell1; go_simp; try (with_reducible rfl))
          simp only [Act.put]; try simp only [List.setIfInBounds_toArray]; try simp only [List.set_cons_zero, List.set_cons_succ]
          refine wpAnyL_only (i := 26) rfl (by kernel_rfl) (by rfl) fun K hK => ?_
          go_simp
          refine (both_last (P8.out.later (Below.refl v8.heap.size v8).drew) a.client).mono ?_
          rw [HL1.out]
          rintro e u1 ⟨rfl, p1, hb1⟩
          have Q1 := hide p1
          have HB1 := hide ((Below.refl v8.heap.size v8).drew.trans hb1)
          refine hK.out _ _ hb1 ?_
          clear p1 hb1
          clear hK K
          try (simp only [Act.put]; try simp only [List.setIfInBounds_toArray]; try simp only [List.set_cons_zero, List.set_cons_succ])
          refine wpAnyL_only (i := 30) rfl (by kernel_rfl) (by rfl) fun K hK => ?_
          go_simp
          refine (both_reflast Q1.out a.client).mono ?_
          rw [HL1.out]
          rintro e u2 ⟨rfl, p2, hb2⟩
          have Q2 := hide p2
          have HB2 := hide (HB1.out.trans (hb2.mono HB1.out.size))
          refine hK.out _ _ hb2 ?_
          clear p2 hb2
          clear hK K
          try (simp only [Act.put]; try simp only [List.setIfInBounds_toArray]; try simp only [List.set_cons_zero, List.set_cons_succ])
          refine wpAnyL_take (i := 31) (d := some 138) (v := ?vasb31) rfl rfl (by kernel_rfl) (by kernel_rfl) (by kernel_rfl) (fun _ _ _ h => h) (by rfl) ?yasb31 ?_
          case yasb31 => (intro w' hw'; go_simp; try (with_reducible rfl))
          simp only [Act.put]; try simp only [List.setIfInBounds_toArray]; try simp only [List.set_cons_zero, List.set_cons_succ]
          refine wpAnyL_take (i := 32) (d := some 139) (v := ?vasb32) rfl rfl (by kernel_rfl) (by kernel_rfl) (by kernel_rfl) (fun _ _ _ h => h) (by rfl) ?yasb32 ?_
          case yasb32 => (intro w' hw'; go_simp; try (with_reducible rfl))
          simp only [Act.put]; try simp only [List.setIfInBounds_toArray]; try simp only [List.set_cons_zero, List.set_cons_succ]
          refine wpAnyL_take (i := 33) (d := some 140) (v := ?vasb33) rfl rfl (by kernel_rfl) (by kernel_rfl) (by kernel_rfl) (fun _ _ _ h => h) (by rfl) ?yasb33 ?_
          case yasb33 => (intro w' hw'; go_simp; try (with_reducible rfl))
          simp only [Act.put]; try simp only [List.setIfInBounds_toArray]; try simp only [List.set_cons_zero, List.set_cons_succ]
          refine wpAnyL_take (i := 34) (d := some 141) (v := ?vasb34) rfl rfl (by kernel_rfl) (by kernel_rfl) (by kernel_rfl) (fun _ _ _ h => h) (by rfl) ?yasb34 ?_
          case yasb34 => (intro w' hw'; go_simp; try (with_reducible rfl))
          simp only [Act.put]; try simp only [List.setIfInBounds_toArray]; try simp only [List.set_cons_zero, List.set_cons_succ]
          refine wpAnyL_take (i := 35) (d := some 142) (v := ?vasb35) rfl rfl (by kernel_rfl) (by kernel_rfl) (by kernel_rfl) (fun _ _ _ h => h) (by rfl) ?yasb35 ?_
          case yasb35 => (intro w' hw'; go_simp; try (with_reducible rfl))
          simp only [Act.put]; try simp only [List.setIfInBounds_toArray]; try simp only [List.set_cons_zero, List.set_cons_succ]
          refine wpAnyL_take (i := 36) (d := some 143) (v := ?vasb36) rfl rfl (by kernel_rfl) (by kernel_rfl) (by kernel_rfl) (fun _ _ _ h => h) (by rfl) ?yasb36 ?_
          case yasb36 => (intro w' hw'; have e1 := (A8.out.later (HB2.out.trans (Below.mono hw' HB2.out.size))).cell1; go_simp; try (with_reducible rfl))
          simp only [Act.put]; try simp only [List.setIfInBounds_toArray]; try simp only [List.set_cons_zero, List.set_cons_succ]
          refine wpAnyL_take (i := 38) (d := some 145) (v := ?vasb38) rfl rfl (by kernel_rfl) (by kernel_rfl) (by kernel_rfl) (fun _ _ _ h => h) (by rfl) ?yasb38 ?_
          case yasb38 => (intro w' hw'; go_simp; try (with_reducible rfl))
          simp only [Act.put]; try simp only [List.setIfInBounds_toArray]; try simp only [List.set_cons_zero, List.set_cons_succ]
          refine wpAnyL_take (i := 39) (d := some 146) (v := ?vasb39) rfl rfl (by kernel_rfl) (by kernel_rfl) (by kernel_rfl) (fun _ _ _ h => h) (by rfl) ?yasb39 ?_
          case yasb39 => (intro w' hw'; go_simp; try (with_reducible rfl))
          simp only [Act.put]; try simp only [List.setIfInBounds_toArray]; try simp only [List.set_cons_zero, List.set_cons_succ]
          refine wpAnyL_take (i := 40) (d := some 147) (v := ?vasb40) rfl rfl (by kernel_rfl) (by kernel_rfl) (by kernel_rfl) (fun _ _ _ h => h) (by rfl) ?yasb40 ?_
          case yasb40 => (intro w' hw'; have e1 := (A8.out.later (HB2.out.trans (Below.mono hw' HB2.out.size))).cell1; go_simp; try (with_reducible rfl))
          simp only [Act.put]; try simp only [List.setIfInBounds_toArray]; try simp only [List.set_cons_zero, List.set_cons_succ]
          refine wpAnyL_only (i := 37) rfl (by kernel_rfl) (by rfl) fun K hK => ?_
          go_simp
          refine (both_done Q2.out a.client).mono ?_
          rw [HD1.out]
          rintro e u3 ⟨rfl, p3, hb3⟩
          have Q3 := hide p3
          have HB3 := hide (HB2.out.trans (hb3.mono HB2.out.size))
          refine hK.out _ _ hb3 ?_
          clear p3 hb3
          clear hK K
          try (simp only [Act.put]; try simp only [List.setIfInBounds_toArray]; try simp only [List.set_cons_zero, List.set_cons_succ])
          refine wpAnyL_only (i := 41) rfl (by kernel_rfl) (by rfl) fun K hK => ?_
          go_simp
          refine (both_refdone Q3.out a.client).mono ?_
          rw [HD1.out]
          rintro e u4 ⟨rfl, p4, rfl⟩
          have Q4 := hide p4
          refine hK.out _ _ (Later.refl _) ?_
          clear p4
          clear hK K
          try (simp only [Act.put]; try simp only [List.setIfInBounds_toArray]; try simp only [List.set_cons_zero, List.set_cons_succ])
          refine wpAnyL_take (i := 42) (d := some 149) (v := ?vasb42) rfl rfl (by kernel_rfl) (by kernel_rfl) (by kernel_rfl) (fun _ _ _ h => h) (by rfl) ?yasb42 ?_
          case yasb42 => (intro w' hw'; go_simp; try (with_reducible rfl))
          simp only [Act.put]; try simp only [List.setIfInBounds_toArray]; try simp only [List.set_cons_zero, List.set_cons_succ]
          refine wpAnyL_take (i := 43) (d := some 150) (v := ?vasb43) rfl rfl (by kernel_rfl) (by kernel_rfl) (by kernel_rfl) (fun _ _ _ h => h) (by rfl) ?yasb43 ?_
          case yasb43 => (intro w' hw'; go_simp; try (with_reducible rfl))
          simp only [Act.put]; try simp only [List.setIfInBounds_toArray]; try simp only [List.set_cons_zero, List.set_cons_succ]
          refine wpAnyL_done (by kernel_rfl) ?_ _
          go_wp2
          go_roundw
          case rel => exact ⟨k + 1, _, by go_num, by omega, Q4.out⟩
          case measure => simp [intOf]; omega
          
        by_cases hkd1 : a.kind = 1
        · have hk0 : (a.kind == 0) = false := by simpa using hkd0
          have hk1 : (a.kind == 1) = true := by simpa using hkd1
          clear hkd0 hkd1
          obtain ⟨z0, hz0⟩ : ∃ z0, (finishT T a.client a.request a.rep).1 = z0 := ⟨_, rfl⟩
          have HZ := hide hz0
          clear hz0
          go_wp2_with (first
            | (refine wpList_load_mid (by rfl) 36 _ (by rfl) b (off + k * 7) (by rfl) _ _ HR.out Try.underlying36 (by rfl) (by kernel_rfl) ?_)
            | (refine wpList_store_act (a := a) (by rfl) _ _ (by rfl) (by rfl) (ActAt.new wr) (by rfl) ?_; intro w2 hx hg; have A2 := hide hx; have P2 := hide (HO.out.later (below_new hg)); have k0 := A2.out.cell0; clear hx hg))
          clear k0
          refine wp_region_R (R := fun a b => Kept (fun i => i = wr.heap.size) a b) (by kernel_rfl) ?_
          refine wpAnyR_take (pre_kept (fun i => i = wr.heap.size)) (i := 0) (d := some 52) (v := ?vafa0) rfl rfl (by kernel_rfl) (by kernel_rfl) (by kernel_rfl) (fun _ _ _ h => h) (by rfl) ?yafa0 ?_
          case yafa0 => (intro w' hw'; go_simp; try (with_reducible rfl))
          simp only [Act.put]; try simp only [List.setIfInBounds_toArray]; try simp only [List.set_cons_zero, List.set_cons_succ]
          refine wpAnyR_take (pre_kept (fun i => i = wr.heap.size)) (i := 1) (d := some 53) (v := ?vafa1) rfl rfl (by kernel_rfl) (by kernel_rfl) (by kernel_rfl) (fun _ _ _ h => h) (by rfl) ?yafa1 ?_
          case yafa1 => (intro w' hw'; go_simp; try (with_reducible rfl))
          simp only [Act.put]; try simp only [List.setIfInBounds_toArray]; try simp only [List.set_cons_zero, List.set_cons_succ]
          refine wpAnyR_take (pre_kept (fun i => i = wr.heap.size)) (i := 2) (d := some 54) (v := ?vafa2) rfl rfl (by kernel_rfl) (by kernel_rfl) (by kernel_rfl) (fun _ _ _ h => h) (by rfl) ?yafa2 ?_
          case yafa2 => (intro w' hw'; have e1 := ((A2.out.later (Below.refl w2.heap.size w2).drew).kept hw').cell1; go_simp; try (with_reducible rfl))
          simp only [Act.put]; try simp only [List.setIfInBounds_toArray]; try simp only [List.set_cons_zero, List.set_cons_succ]
          refine wpAnyR_take (pre_kept (fun i => i = wr.heap.size)) (i := 3) (d := some 55) (v := ?vafa3) rfl rfl (by kernel_rfl) (by kernel_rfl) (by kernel_rfl) (fun _ _ _ h => h) (by rfl) ?yafa3 ?_
          case yafa3 => (intro w' hw'; go_simp; try (with_reducible rfl))
          simp only [Act.put]; try simp only [List.setIfInBounds_toArray]; try simp only [List.set_cons_zero, List.set_cons_succ]
          refine wpAnyR_take (pre_kept (fun i => i = wr.heap.size)) (i := 4) (d := some 56) (v := ?vafa4) rfl rfl (by kernel_rfl) (by kernel_rfl) (by kernel_rfl) (fun _ _ _ h => h) (by rfl) ?yafa4 ?_
          case yafa4 => (intro w' hw'; have e2 := ((A2.out.later (Below.refl w2.heap.size w2).drew).kept hw').cell2; go_simp; try (with_reducible rfl))
          simp only [Act.put]; try simp only [List.setIfInBounds_toArray]; try simp only [List.set_cons_zero, List.set_cons_succ]
          refine wpAnyR_take (pre_kept (fun i => i = wr.heap.size)) (i := 5) (d := some 57) (v := ?vafa5) rfl rfl (by kernel_rfl) (by kernel_rfl) (by kernel_rfl) (fun _ _ _ h => h) (by rfl) ?yafa5 ?_
          case yafa5 => (intro w' hw'; go_simp; try (with_reducible rfl))
          simp only [Act.put]; try simp only [List.setIfInBounds_toArray]; try simp only [List.set_cons_zero, List.set_cons_succ]
          refine wpAnyR_take (pre_kept (fun i => i = wr.heap.size)) (i := 6) (d := some 58) (v := a.rep.val) rfl rfl (by kernel_rfl) (by kernel_rfl) (by kernel_rfl) (fun _ _ _ h => h) (by rfl) ?yafa6 ?_
          case yafa6 => (intro w' hw'; exact exec_load_arep _ (by rfl) (by rfl) ((A2.out.later (Below.refl w2.heap.size w2).drew).kept hw'))
          simp only [Act.put]; try simp only [List.setIfInBounds_toArray]; try simp only [List.set_cons_zero, List.set_cons_succ]
          refine wpAnyR_take (pre_kept (fun i => i = wr.heap.size)) (i := 8) (d := some 60) (v := ?vafa8) rfl rfl (by kernel_rfl) (by kernel_rfl) (by kernel_rfl) (fun _ _ _ h => h) (by rfl) ?yafa8 ?_
          case yafa8 => (intro w' hw'; go_simp; try (with_reducible rfl))
          simp only [Act.put]; try simp only [List.setIfInBounds_toArray]; try simp only [List.set_cons_zero, List.set_cons_succ]
          refine wpAnyR_take (pre_kept (fun i => i = wr.heap.size)) (i := 9) (d := some 61) (v := ?vafa9) rfl rfl (by kernel_rfl) (by kernel_rfl) (by kernel_rfl) (fun _ _ _ h => h) (by rfl) ?yafa9 ?_
          case yafa9 => (intro w' hw'; go_simp; try (with_reducible rfl))
          simp only [Act.put]; try simp only [List.setIfInBounds_toArray]; try simp only [List.set_cons_zero, List.set_cons_succ]
          refine wpAnyR_take (pre_kept (fun i => i = wr.heap.size)) (i := 10) (d := some 62) (v := ?vafa10) rfl rfl (by kernel_rfl) (by kernel_rfl) (by kernel_rfl) (fun _ _ _ h => h) (by rfl) ?yafa10 ?_
          case yafa10 => (intro w' hw'; have e1 := ((A2.out.later (Below.refl w2.heap.size w2).drew).kept hw').cell1; go_simp; try (with_reducible rfl))
          simp only [Act.put]; try simp only [List.setIfInBounds_toArray]; try simp only [List.set_cons_zero, List.set_cons_succ]
          refine wpAnyR_take (pre_kept (fun i => i = wr.heap.size)) (i := 11) (d := some 63) (v := ?vafa11) rfl rfl (by kernel_rfl) (by kernel_rfl) (by kernel_rfl) (fun _ _ _ h => h) (by rfl) ?yafa11 ?_
          case yafa11 => (intro w' hw'; go_simp; try (with_reducible rfl))
          simp only [Act.put]; try simp only [List.setIfInBounds_toArray]; try simp only [List.set_cons_zero, List.set_cons_succ]
          refine wpAnyR_take (pre_kept (fun i => i = wr.heap.size)) (i := 12) (d := some 64) (v := ?vafa12) rfl rfl (by kernel_rfl) (by kernel_rfl) (by kernel_rfl) (fun _ _ _ h => h) (by rfl) ?yafa12 ?_
          case yafa12 => (intro w' hw'; have e2 := ((A2.out.later (Below.refl w2.heap.size w2).drew).kept hw').cell2; go_simp; try (with_reducible rfl))
          simp only [Act.put]; try simp only [List.setIfInBounds_toArray]; try simp only [List.set_cons_zero, List.set_cons_succ]
          refine wpAnyR_take (pre_kept (fun i => i = wr.heap.size)) (i := 13) (d := some 65) (v := ?vafa13) rfl rfl (by kernel_rfl) (by kernel_rfl) (by kernel_rfl) (fun _ _ _ h => h) (by rfl) ?yafa13 ?_
          case yafa13 => (intro w' hw'; go_simp; try (with_reducible rfl))
          simp only [Act.put]; try simp only [List.setIfInBounds_toArray]; try simp only [List.set_cons_zero, List.set_cons_succ]
          refine wpAnyR_take (pre_kept (fun i => i = wr.heap.size)) (i := 14) (d := some 66) (v := a.rep.val) rfl rfl (by kernel_rfl) (by kernel_rfl) (by kernel_rfl) (fun _ _ _ h => h) (by rfl) ?yafa14 ?_
          case yafa14 => (intro w' hw'; exact exec_load_arep _ (by rfl) (by rfl) ((A2.out.later (Below.refl w2.heap.size w2).drew).kept hw'))
          simp only [Act.put]; try simp only [List.setIfInBounds_toArray]; try simp only [List.set_cons_zero, List.set_cons_succ]
          refine wpAnyR_only (i := 7) rfl (by kernel_rfl) (by rfl) fun K hK => ?_
          go_simp
          refine (both_finish (P2.out.later (Below.refl w2.heap.size w2).drew) a.client a.request a.rep).mono ?_
          rw [HZ.out]
          rintro e w3 ⟨rfl, p3, hg3⟩
          have P3 := hide p3
          have A3 := hide ((A2.out.later (Below.refl w2.heap.size w2).drew).other hg3 (fun e => HNE.out (Option.some.inj e)))
          have hk9 : Kept (fun i => i = wr.heap.size) _ _ := Kept.of_grown hg3 (fun q e hq => HNE.out ((show q = wr.heap.size from hq).symm.trans (Option.some.inj e).symm))
          refine hK.out _ _ hk9 ?_
          clear p3 hg3 hk9
          clear hK K
          try (simp only [Act.put]; try simp only [List.setIfInBounds_toArray]; try simp only [List.set_cons_zero, List.set_cons_succ])
          refine wpAnyR_only (i := 15) rfl (by kernel_rfl) (by rfl) fun K hK => ?_
          go_simp
          refine (both_reffinish a.client a.request a.rep P3.out).mono ?_
          rw [HZ.out]
          rintro e w4 ⟨rfl, p4, hg4⟩
          have P4 := hide p4
          have A4 := hide (A3.out.other hg4 (fun e => HNR.out (Option.some.inj e)))
          have hk9 : Kept (fun i => i = wr.heap.size) _ _ := Kept.of_grown hg4 (fun q e hq => HNR.out ((show q = wr.heap.size from hq).symm.trans (Option.some.inj e).symm))
          refine hK.out _ _ hk9 ?_
          clear p4 hg4 hk9
          clear hK K
          try (simp only [Act.put]; try simp only [List.setIfInBounds_toArray]; try simp only [List.set_cons_zero, List.set_cons_succ])
          refine wpAnyR_take (pre_kept (fun i => i = wr.heap.size)) (i := 16) (d := some 68) (v := ?vafa16) rfl rfl (by kernel_rfl) (by kernel_rfl) (by kernel_rfl) (fun _ _ _ h => h) (by rfl) ?yafa16 ?_
          case yafa16 => (intro w' hw'; go_simp; try (with_reducible rfl))
          simp only [Act.put]; try simp only [List.setIfInBounds_toArray]; try simp only [List.set_cons_zero, List.set_cons_succ]
          refine wpAnyR_take (pre_kept (fun i => i = wr.heap.size)) (i := 17) (d := some 11) (v := ?vafa17) rfl rfl (by kernel_rfl) (by kernel_rfl) (by kernel_rfl) (fun _ _ _ h => h) (by rfl) ?yafa17 ?_
          case yafa17 => (intro w' hw'; go_simp; try (with_reducible rfl))
          simp only [Act.put]; try simp only [List.setIfInBounds_toArray]; try simp only [List.set_cons_zero, List.set_cons_succ]
          refine wpAnyR_done (by kernel_rfl) ?_ _
          go_wp2_with (fail)
          have P0 := hide (P4.out)
          have A0 := hide (A4.out)
          refine (both_ask P0.out c r).mono ?_
          rintro e v1 ⟨rfl, p1, hb1⟩
          have P1 := hide p1
          have A1 := hide (A0.out.later hb1)
          clear p1 hb1
          obtain ⟨y0, hy0⟩ : ∃ y0, y0 = (askT (finishT T a.client a.request a.rep).2 c r).1 := ⟨_, rfl⟩
          obtain ⟨x0, hx0⟩ : ∃ x0, x0 = (askT (finishT T a.client a.request a.rep).2 c r).2 := ⟨_, rfl⟩
          have HY0 := hide hy0
          have HX0 := hide hx0
          rw [← hy0, ← hx0]
          clear hy0 hx0
          go_wp2_with (refine wpList_store_rep (m := x0) (by rfl) _ _ (by rfl) (by rfl) (RepAt.new v1) (by rfl) ?_; intro v2 hx hg; have P2 := hide (P1.out.later (below_new hg)); have A2 := hide (A1.out.later (below_new hg)); have V2 := hide hx; clear hx hg)
          refine (both_refask P2.out c r).mono ?_
          rw [← HY0.out, ← HX0.out]
          rintro e v3 ⟨rfl, p3, hb3⟩
          have P3 := hide p3
          have A3 := hide (A2.out.later hb3)
          have V3 := hide (V2.out.later hb3)
          clear p3 hb3
          go_wp2_with (refine wpList_store_rep (m := x0) (by rfl) _ _ (by rfl) (by rfl) (RepAt.new v3) (by rfl) ?_; intro v4 hx hg; have P4 := hide (P3.out.later (below_new hg)); have A4 := hide (A3.out.later (below_new hg)); have V4 := hide (V3.out.later (below_new hg)); have W4 := hide hx; have k1 := A4.out.cell1; have k2 := A4.out.cell2; clear hx hg)
          clear k1 k2
          refine (both_ask P4.out a.client a.request).mono ?_
          rintro e v5 ⟨rfl, p5, hb5⟩
          have P5 := hide p5
          have A5 := hide (A4.out.later hb5)
          have V5 := hide (V4.out.later hb5)
          have W5 := hide (W4.out.later hb5)
          clear p5 hb5
          obtain ⟨y1, hy1⟩ : ∃ y1, y1 = (askT (finishT T a.client a.request a.rep).2 a.client a.request).1 := ⟨_, rfl⟩
          obtain ⟨x1, hx1⟩ : ∃ x1, x1 = (askT (finishT T a.client a.request a.rep).2 a.client a.request).2 := ⟨_, rfl⟩
          have HY1 := hide hy1
          have HX1 := hide hx1
          rw [← hy1, ← hx1]
          clear hy1 hx1
          go_wp2_with (refine wpList_store_rep (m := x1) (by rfl) _ _ (by rfl) (by rfl) (RepAt.new v5) (by rfl) ?_; intro v6 hx hg; have P6 := hide (P5.out.later (below_new hg)); have A6 := hide (A5.out.later (below_new hg)); have V6 := hide (V5.out.later (below_new hg)); have W6 := hide (W5.out.later (below_new hg)); have X6 := hide hx; have k1 := A6.out.cell1; have k2 := A6.out.cell2; clear hx hg)
          clear k1 k2
          refine (both_refask P6.out a.client a.request).mono ?_
          rw [← HY1.out, ← HX1.out]
          rintro e v7 ⟨rfl, p7, hb7⟩
          have P7 := hide p7
          have A7 := hide (A6.out.later hb7)
          have V7 := hide (V6.out.later hb7)
          have W7 := hide (W6.out.later hb7)
          have X7 := hide (X6.out.later hb7)
          clear p7 hb7
          go_wp2_with (refine wpList_store_rep (m := x1) (by rfl) _ _ (by rfl) (by rfl) (RepAt.new v7) (by rfl) ?_; intro v8 hx hg; have P8 := hide (P7.out.later (below_new hg)); have A8 := hide (A7.out.later (below_new hg)); have V8 := hide (V7.out.later (below_new hg)); have W8 := hide (W7.out.later (below_new hg)); have X8 := hide (X7.out.later (below_new hg)); have Y8 := hide hx; clear hx hg)
          obtain ⟨l1, hl1⟩ : ∃ l1, ((finishT T a.client a.request a.rep).2.of a.client).last = l1 := ⟨_, rfl⟩
          obtain ⟨d1, hd1⟩ : ∃ d1, ((finishT T a.client a.request a.rep).2.of a.client).done = d1 := ⟨_, rfl⟩
          have HL1 := hide hl1
          have HD1 := hide hd1
          clear hl1 hd1
          refine wp_region_L (by kernel_rfl) ?_
          refine wpAnyL_take (i := 0) (d := some 107) (v := ?vafb0) rfl rfl (by kernel_rfl) (by kernel_rfl) (by kernel_rfl) (fun _ _ _ h => h) (by rfl) ?yafb0 ?_
          case yafb0 => (intro w' hw'; go_simp; try (with_reducible rfl))
          simp only [Act.put]; try simp only [List.setIfInBounds_toArray]; try simp only [List.set_cons_zero, List.set_cons_succ]
          refine wpAnyL_take (i := 1) (d := some 108) (v := ?vafb1) rfl rfl (by kernel_rfl) (by kernel_rfl) (by kernel_rfl) (fun _ _ _ h => h) (by rfl) ?yafb1 ?_
          case yafb1 => (intro w' hw'; go_simp; try (with_reducible rfl))
          simp only [Act.put]; try simp only [List.setIfInBounds_toArray]; try simp only [List.set_cons_zero, List.set_cons_succ]
          refine wpAnyL_take (i := 2) (d := some 109) (v := ?vafb2) rfl rfl (by kernel_rfl) (by kernel_rfl) (by kernel_rfl) (fun _ _ _ h => h) (by rfl) ?yafb2 ?_
          case yafb2 => (intro w' hw'; go_simp; try (with_reducible rfl))
          simp only [Act.put]; try simp only [List.setIfInBounds_toArray]; try simp only [List.set_cons_zero, List.set_cons_succ]
          refine wpAnyL_take (i := 3) (d := some 110) (v := ?vafb3) rfl rfl (by kernel_rfl) (by kernel_rfl) (by kernel_rfl) (fun _ _ _ h => h) (by rfl) ?yafb3 ?_
          case yafb3 => (intro w' hw'; go_simp; try (with_reducible rfl))
          simp only [Act.put]; try simp only [List.setIfInBounds_toArray]; try simp only [List.set_cons_zero, List.set_cons_succ]
          refine wpAnyL_take (i := 4) (d := some 111) (v := ?vafb4) rfl rfl (by kernel_rfl) (by kernel_rfl) (by kernel_rfl) (fun _ _ _ h => h) (by rfl) ?yafb4 ?_
          case yafb4 => (intro w' hw'; go_simp; try (with_reducible rfl))
          simp only [Act.put]; try simp only [List.setIfInBounds_toArray]; try simp only [List.set_cons_zero, List.set_cons_succ]
          refine wpAnyL_take (i := 5) (d := some 112) (v := ?vafb5) rfl rfl (by kernel_rfl) (by kernel_rfl) (by kernel_rfl) (fun _ _ _ h => h) (by rfl) ?yafb5 ?_
          case yafb5 => (intro w' hw'; go_simp; try (with_reducible rfl))
          simp only [Act.put]; try simp only [List.setIfInBounds_toArray]; try simp only [List.set_cons_zero, List.set_cons_succ]
          refine wpAnyL_take (i := 6) (d := some 113) (v := ?vafb6) rfl rfl (by kernel_rfl) (by kernel_rfl) (by kernel_rfl) (fun _ _ _ h => h) (by rfl) ?yafb6 ?_
          case yafb6 => (intro w' hw'; go_simp; try (with_reducible rfl))
          simp only [Act.put]; try simp only [List.setIfInBounds_toArray]; try simp only [List.set_cons_zero, List.set_cons_succ]
          refine wpAnyL_take (i := 7) (d := some 114) (v := ?vafb7) rfl rfl (by kernel_rfl) (by kernel_rfl) (by kernel_rfl) (fun _ _ _ h => h) (by rfl) ?yafb7 ?_
          case yafb7 => (intro w' hw'; go_simp; try (with_reducible rfl))
          simp only [Act.put]; try simp only [List.setIfInBounds_toArray]; try simp only [List.set_cons_zero, List.set_cons_succ]
          refine wpAnyL_take (i := 8) (d := some 115) (v := x0.val) rfl rfl (by kernel_rfl) (by kernel_rfl) (by kernel_rfl) (fun _ _ _ h => h) (by rfl) ?yafb8 ?_
          case yafb8 => (intro w' hw'; exact exec_load_rep _ (by rfl) (by rfl) (V8.out.later ((Below.refl v8.heap.size v8).drew.trans hw')))
          simp only [Act.put]; try simp only [List.setIfInBounds_toArray]; try simp only [List.set_cons_zero, List.set_cons_succ]
          refine wpAnyL_take (i := 9) (d := some 116) (v := x0.val) rfl rfl (by kernel_rfl) (by kernel_rfl) (by kernel_rfl) (fun _ _ _ h => h) (by rfl) ?yafb9 ?_
          case yafb9 => (intro w' hw'; exact exec_load_rep _ (by rfl) (by rfl) (W8.out.later ((Below.refl v8.heap.size v8).drew.trans hw')))
          simp only [Act.put]; try simp only [List.setIfInBounds_toArray]; try simp only [List.set_cons_zero, List.set_cons_succ]
          refine wpAnyL_take (i := 10) (d := some 117) (v := .bool false) rfl rfl (by kernel_rfl) (by kernel_rfl) (by kernel_rfl) (fun _ _ _ h => h) (by rfl) ?yafb10 ?_
          case yafb10 => (intro w' hw'; exact exec_neq_rep _ _ _ (by rfl) (by rfl) (by rfl) (by simp))
          simp only [Act.put]; try simp only [List.setIfInBounds_toArray]; try simp only [List.set_cons_zero, List.set_cons_succ]
          refine wpAnyL_take (i := 11) (d := some 118) (v := ?vafb11) rfl rfl (by kernel_rfl) (by kernel_rfl) (by kernel_rfl) (fun _ _ _ h => h) (by rfl) ?yafb11 ?_
          case yafb11 => (intro w' hw'; go_simp; try (with_reducible rfl))
          simp only [Act.put]; try simp only [List.setIfInBounds_toArray]; try simp only [List.set_cons_zero, List.set_cons_succ]
          refine wpAnyL_take (i := 12) (d := some 119) (v := ?vafb12) rfl rfl (by kernel_rfl) (by kernel_rfl) (by kernel_rfl) (fun _ _ _ h => h) (by rfl) ?yafb12 ?_
          case yafb12 => (intro w' hw'; go_simp; try (with_reducible rfl))
          simp only [Act.put]; try simp only [List.setIfInBounds_toArray]; try simp only [List.set_cons_zero, List.set_cons_succ]
          refine wpAnyL_take (i := 13) (d := some 120) (v := ?vafb13) rfl rfl (by kernel_rfl) (by kernel_rfl) (by kernel_rfl) (fun _ _ _ h => h) (by rfl) ?yafb13 ?_
          case yafb13 => (intro w' hw'; go_simp; try (with_reducible rfl))
          simp only [Act.put]; try simp only [List.setIfInBounds_toArray]; try simp only [List.set_cons_zero, List.set_cons_succ]
          refine wpAnyL_take (i := 14) (d := some 121) (v := ?vafb14) rfl rfl (by kernel_rfl) (by kernel_rfl) (by kernel_rfl) (fun _ _ _ h => h) (by rfl) ?yafb14 ?_
          case yafb14 => (intro w' hw'; go_simp; try (with_reducible rfl))
          simp only [Act.put]; try simp only [List.setIfInBounds_toArray]; try simp only [List.set_cons_zero, List.set_cons_succ]
          refine wpAnyL_take (i := 15) (d := some 122) (v := ?vafb15) rfl rfl (by kernel_rfl) (by kernel_rfl) (by kernel_rfl) (fun _ _ _ h => h) (by rfl) ?yafb15 ?_
          case yafb15 => (intro w' hw'; go_simp; try (with_reducible rfl))
          simp only [Act.put]; try simp only [List.setIfInBounds_toArray]; try simp only [List.set_cons_zero, List.set_cons_succ]
          refine wpAnyL_take (i := 16) (d := some 123) (v := ?vafb16) rfl rfl (by kernel_rfl) (by kernel_rfl) (by kernel_rfl) (fun _ _ _ h => h) (by rfl) ?yafb16 ?_
          case yafb16 => (intro w' hw'; go_simp; try (with_reducible rfl))
          simp only [Act.put]; try simp only [List.setIfInBounds_toArray]; try simp only [List.set_cons_zero, List.set_cons_succ]
          refine wpAnyL_take (i := 17) (d := some 124) (v := ?vafb17) rfl rfl (by kernel_rfl) (by kernel_rfl) (by kernel_rfl) (fun _ _ _ h => h) (by rfl) ?yafb17 ?_
          case yafb17 => (intro w' hw'; go_simp; try (with_reducible rfl))
          simp only [Act.put]; try simp only [List.setIfInBounds_toArray]; try simp only [List.set_cons_zero, List.set_cons_succ]
          refine wpAnyL_take (i := 18) (d := some 125) (v := x1.val) rfl rfl (by kernel_rfl) (by kernel_rfl) (by kernel_rfl) (fun _ _ _ h => h) (by rfl) ?yafb18 ?_
          case yafb18 => (intro w' hw'; exact exec_load_rep _ (by rfl) (by rfl) (X8.out.later ((Below.refl v8.heap.size v8).drew.trans hw')))
          simp only [Act.put]; try simp only [List.setIfInBounds_toArray]; try simp only [List.set_cons_zero, List.set_cons_succ]
          refine wpAnyL_take (i := 19) (d := some 126) (v := x1.val) rfl rfl (by kernel_rfl) (by kernel_rfl) (by kernel_rfl) (fun _ _ _ h => h) (by rfl) ?yafb19 ?_
          case yafb19 => (intro w' hw'; exact exec_load_rep _ (by rfl) (by rfl) (Y8.out.later ((Below.refl v8.heap.size v8).drew.trans hw')))
          simp only [Act.put]; try simp only [List.setIfInBounds_toArray]; try simp only [List.set_cons_zero, List.set_cons_succ]
          refine wpAnyL_take (i := 20) (d := some 127) (v := .bool false) rfl rfl (by kernel_rfl) (by kernel_rfl) (by kernel_rfl) (fun _ _ _ h => h) (by rfl) ?yafb20 ?_
          case yafb20 => (intro w' hw'; exact exec_neq_rep _ _ _ (by rfl) (by rfl) (by rfl) (by simp))
          simp only [Act.put]; try simp only [List.setIfInBounds_toArray]; try simp only [List.set_cons_zero, List.set_cons_succ]
          refine wpAnyL_take (i := 21) (d := some 128) (v := ?vafb21) rfl rfl (by kernel_rfl) (by kernel_rfl) (by kernel_rfl) (fun _ _ _ h => h) (by rfl) ?yafb21 ?_
          case yafb21 => (intro w' hw'; go_simp; try (with_reducible rfl))
          simp only [Act.put]; try simp only [List.setIfInBounds_toArray]; try simp only [List.set_cons_zero, List.set_cons_succ]
          refine wpAnyL_take (i := 22) (d := some 129) (v := ?vafb22) rfl rfl (by kernel_rfl) (by kernel_rfl) (by kernel_rfl) (fun _ _ _ h => h) (by rfl) ?yafb22 ?_
          case yafb22 => (intro w' hw'; go_simp; try (with_reducible rfl))
          simp only [Act.put]; try simp only [List.setIfInBounds_toArray]; try simp only [List.set_cons_zero, List.set_cons_succ]
          refine wpAnyL_take (i := 23) (d := some 130) (v := ?vafb23) rfl rfl (by kernel_rfl) (by kernel_rfl) (by kernel_rfl) (fun _ _ _ h => h) (by rfl) ?yafb23 ?_
          case yafb23 => (intro w' hw'; go_simp; try (with_reducible rfl))
          simp only [Act.put]; try simp only [List.setIfInBounds_toArray]; try simp only [List.set_cons_zero, List.set_cons_succ]
          refine wpAnyL_take (i := 24) (d := some 131) (v := ?vafb24) rfl rfl (by kernel_rfl) (by kernel_rfl) (by kernel_rfl) (fun _ _ _ h => h) (by rfl) ?yafb24 ?_
          case yafb24 => (intro w' hw'; go_simp; try (with_reducible rfl))
          simp only [Act.put]; try simp only [List.setIfInBounds_toArray]; try simp only [List.set_cons_zero, List.set_cons_succ]
          refine wpAnyL_take (i := 25) (d := some 132) (v := ?vafb25) rfl rfl (by kernel_rfl) (by kernel_rfl) (by kernel_rfl) (fun _ _ _ h => h) (by rfl) ?yafb25 ?_
          case yafb25 => (intro w' hw'; have e1 := (A8.out.later ((Below.refl v8.heap.size v8).drew.trans hw')).cell1; go_simp; try (with_reducible rfl))
          simp only [Act.put]; try simp only [List.setIfInBounds_toArray]; try simp only [List.set_cons_zero, List.set_cons_succ]
          refine wpAnyL_take (i := 27) (d := some 134) (v := ?vafb27) rfl rfl (by kernel_rfl) (by kernel_rfl) (by kernel_rfl) (fun _ _ _ h => h) (by rfl) ?yafb27 ?_
          case yafb27 => (intro w' hw'; go_simp; try (with_reducible rfl))
          simp only [Act.put]; try simp only [List.setIfInBounds_toArray]; try simp only [List.set_cons_zero, List.set_cons_succ]
          refine wpAnyL_take (i := 28) (d := some 135) (v := ?vafb28) rfl rfl (by kernel_rfl) (by kernel_rfl) (by kernel_rfl) (fun _ _ _ h => h) (by rfl) ?yafb28 ?_
          case yafb28 => (intro w' hw'; go_simp; try (with_reducible rfl))
          simp only [Act.put]; try simp only [List.setIfInBounds_toArray]; try simp only [List.set_cons_zero, List.set_cons_succ]
          refine wpAnyL_take (i := 29) (d := some 136) (v := ?vafb29) rfl rfl (by kernel_rfl) (by kernel_rfl) (by kernel_rfl) (fun _ _ _ h => h) (by rfl) ?yafb29 ?_
          case yafb29 => (intro w' hw'; have e1 := (A8.out.later ((Below.refl v8.heap.size v8).drew.trans hw')).cell1; go_simp; try (with_reducible rfl))
          simp only [Act.put]; try simp only [List.setIfInBounds_toArray]; try simp only [List.set_cons_zero, List.set_cons_succ]
          refine wpAnyL_only (i := 26) rfl (by kernel_rfl) (by rfl) fun K hK => ?_
          go_simp
          refine (both_last (P8.out.later (Below.refl v8.heap.size v8).drew) a.client).mono ?_
          rw [HL1.out]
          rintro e u1 ⟨rfl, p1, hb1⟩
          have Q1 := hide p1
          have HB1 := hide ((Below.refl v8.heap.size v8).drew.trans hb1)
          refine hK.out _ _ hb1 ?_
          clear p1 hb1
          clear hK K
          try (simp only [Act.put]; try simp only [List.setIfInBounds_toArray]; try simp only [List.set_cons_zero, List.set_cons_succ])
          refine wpAnyL_only (i := 30) rfl (by kernel_rfl) (by rfl) fun K hK => ?_
          go_simp
          refine (both_reflast Q1.out a.client).mono ?_
          rw [HL1.out]
          rintro e u2 ⟨rfl, p2, hb2⟩
          have Q2 := hide p2
          have HB2 := hide (HB1.out.trans (hb2.mono HB1.out.size))
          refine hK.out _ _ hb2 ?_
          clear p2 hb2
          clear hK K
          try (simp only [Act.put]; try simp only [List.setIfInBounds_toArray]; try simp only [List.set_cons_zero, List.set_cons_succ])
          refine wpAnyL_take (i := 31) (d := some 138) (v := ?vafb31) rfl rfl (by kernel_rfl) (by kernel_rfl) (by kernel_rfl) (fun _ _ _ h => h) (by rfl) ?yafb31 ?_
          case yafb31 => (intro w' hw'; go_simp; try (with_reducible rfl))
          simp only [Act.put]; try simp only [List.setIfInBounds_toArray]; try simp only [List.set_cons_zero, List.set_cons_succ]
          refine wpAnyL_take (i := 32) (d := some 139) (v := ?vafb32) rfl rfl (by kernel_rfl) (by kernel_rfl) (by kernel_rfl) (fun _ _ _ h => h) (by rfl) ?yafb32 ?_
          case yafb32 => (intro w' hw'; go_simp; try (with_reducible rfl))
          simp only [Act.put]; try simp only [List.setIfInBounds_toArray]; try simp only [List.set_cons_zero, List.set_cons_succ]
          refine wpAnyL_take (i := 33) (d := some 140) (v := ?vafb33) rfl rfl (by kernel_rfl) (by kernel_rfl) (by kernel_rfl) (fun _ _ _ h => h) (by rfl) ?yafb33 ?_
          case yafb33 => (intro w' hw'; go_simp; try (with_reducible rfl))
          simp only [Act.put]; try simp only [List.setIfInBounds_toArray]; try simp only [List.set_cons_zero, List.set_cons_succ]
          refine wpAnyL_take (i := 34) (d := some 141) (v := ?vafb34) rfl rfl (by kernel_rfl) (by kernel_rfl) (by kernel_rfl) (fun _ _ _ h => h) (by rfl) ?yafb34 ?_
          case yafb34 => (intro w' hw'; go_simp; try (with_reducible rfl))
          simp only [Act.put]; try simp only [List.setIfInBounds_toArray]; try simp only [List.set_cons_zero, List.set_cons_succ]
          refine wpAnyL_take (i := 35) (d := some 142) (v := ?vafb35) rfl rfl (by kernel_rfl) (by kernel_rfl) (by kernel_rfl) (fun _ _ _ h => h) (by rfl) ?yafb35 ?_
          case yafb35 => (intro w' hw'; go_simp; try (with_reducible rfl))
          simp only [Act.put]; try simp only [List.setIfInBounds_toArray]; try simp only [List.set_cons_zero, List.set_cons_succ]
          refine wpAnyL_take (i := 36) (d := some 143) (v := ?vafb36) rfl rfl (by kernel_rfl) (by kernel_rfl) (by kernel_rfl) (fun _ _ _ h => h) (by rfl) ?yafb36 ?_
          case yafb36 => (intro w' hw'; have e1 := (A8.out.later (HB2.out.trans (Below.mono hw' HB2.out.size))).cell1; go_simp; try (with_reducible rfl))
          simp only [Act.put]; try simp only [List.setIfInBounds_toArray]; try simp only [List.set_cons_zero, List.set_cons_succ]
          refine wpAnyL_take (i := 38) (d := some 145) (v := ?vafb38) rfl rfl (by kernel_rfl) (by kernel_rfl) (by kernel_rfl) (fun _ _ _ h => h) (by rfl) ?yafb38 ?_
          case yafb38 => (intro w' hw'; go_simp; try (with_reducible rfl))
          simp only [Act.put]; try simp only [List.setIfInBounds_toArray]; try simp only [List.set_cons_zero, List.set_cons_succ]
          refine wpAnyL_take (i := 39) (d := some 146) (v := ?vafb39) rfl rfl (by kernel_rfl) (by kernel_rfl) (by kernel_rfl) (fun _ _ _ h => h) (by rfl) ?yafb39 ?_
          case yafb39 => (intro w' hw'; go_simp; try (with_reducible rfl))
          simp only [Act.put]; try simp only [List.setIfInBounds_toArray]; try simp only [List.set_cons_zero, List.set_cons_succ]
          refine wpAnyL_take (i := 40) (d := some 147) (v := ?vafb40) rfl rfl (by kernel_rfl) (by kernel_rfl) (by kernel_rfl) (fun _ _ _ h => h) (by rfl) ?yafb40 ?_
          case yafb40 => (intro w' hw'; have e1 := (A8.out.later (HB2.out.trans (Below.mono hw' HB2.out.size))).cell1; go_simp; try (with_reducible rfl))
          simp only [Act.put]; try simp only [List.setIfInBounds_toArray]; try simp only [List.set_cons_zero, List.set_cons_succ]
          refine wpAnyL_only (i := 37) rfl (by kernel_rfl) (by rfl) fun K hK => ?_
          go_simp
          refine (both_done Q2.out a.client).mono ?_
          rw [HD1.out]
          rintro e u3 ⟨rfl, p3, hb3⟩
          have Q3 := hide p3
          have HB3 := hide (HB2.out.trans (hb3.mono HB2.out.size))
          refine hK.out _ _ hb3 ?_
          clear p3 hb3
          clear hK K
          try (simp only [Act.put]; try simp only [List.setIfInBounds_toArray]; try simp only [List.set_cons_zero, List.set_cons_succ])
          refine wpAnyL_only (i := 41) rfl (by kernel_rfl) (by rfl) fun K hK => ?_
          go_simp
          refine (both_refdone Q3.out a.client).mono ?_
          rw [HD1.out]
          rintro e u4 ⟨rfl, p4, rfl⟩
          have Q4 := hide p4
          refine hK.out _ _ (Later.refl _) ?_
          clear p4
          clear hK K
          try (simp only [Act.put]; try simp only [List.setIfInBounds_toArray]; try simp only [List.set_cons_zero, List.set_cons_succ])
          refine wpAnyL_take (i := 42) (d := some 149) (v := ?vafb42) rfl rfl (by kernel_rfl) (by kernel_rfl) (by kernel_rfl) (fun _ _ _ h => h) (by rfl) ?yafb42 ?_
          case yafb42 => (intro w' hw'; go_simp; try (with_reducible rfl))
          simp only [Act.put]; try simp only [List.setIfInBounds_toArray]; try simp only [List.set_cons_zero, List.set_cons_succ]
          refine wpAnyL_take (i := 43) (d := some 150) (v := ?vafb43) rfl rfl (by kernel_rfl) (by kernel_rfl) (by kernel_rfl) (fun _ _ _ h => h) (by rfl) ?yafb43 ?_
          case yafb43 => (intro w' hw'; go_simp; try (with_reducible rfl))
          simp only [Act.put]; try simp only [List.setIfInBounds_toArray]; try simp only [List.set_cons_zero, List.set_cons_succ]
          refine wpAnyL_done (by kernel_rfl) ?_ _
          go_wp2
          go_roundw
          case rel => exact ⟨k + 1, _, by go_num, by omega, Q4.out⟩
          case measure => simp [intOf]; omega
          
        by_cases hkd2 : a.kind = 2
        · have hk0 : (a.kind == 0) = false := by simpa using hkd0
          have hk1 : (a.kind == 1) = false := by simpa using hkd1
          have hk2 : (a.kind == 2) = true := by simpa using hkd2
          clear hkd0 hkd1 hkd2
          go_wp2_with (first
            | (refine wpList_load_mid (by rfl) 36 _ (by rfl) b (off + k * 7) (by rfl) _ _ HR.out Try.underlying36 (by rfl) (by kernel_rfl) ?_)
            | (refine wpList_store_act (a := a) (by rfl) _ _ (by rfl) (by rfl) (ActAt.new wr) (by rfl) ?_; intro w2 hx hg; have A2 := hide hx; have P2 := hide (HO.out.later (below_new hg)); have k0 := A2.out.cell0; clear hx hg))
          clear k0
          refine (both_forget P2.out).mono ?_
          rintro e w3 ⟨rfl, p3, hg3⟩
          have P3 := hide p3
          have A3 := hide (A2.out.other hg3 (fun e => HNE.out (Option.some.inj e)))
          clear p3 hg3
          go_wp2_with (fail)
          refine (both_refforget P3.out).mono ?_
          rintro e w4 ⟨rfl, p4, hg4⟩
          have P4 := hide p4
          have A4 := hide (A3.out.other hg4 (fun e => HNR.out (Option.some.inj e)))
          clear p4 hg4
          go_wp2_with (fail)
          have P0 := hide (P4.out)
          have A0 := hide (A4.out)
          refine (both_ask P0.out c r).mono ?_
          rintro e v1 ⟨rfl, p1, hb1⟩
          have P1 := hide p1
          have A1 := hide (A0.out.later hb1)
          clear p1 hb1
          obtain ⟨y0, hy0⟩ : ∃ y0, y0 = (askT T.forgotten c r).1 := ⟨_, rfl⟩
          obtain ⟨x0, hx0⟩ : ∃ x0, x0 = (askT T.forgotten c r).2 := ⟨_, rfl⟩
          have HY0 := hide hy0
          have HX0 := hide hx0
          rw [← hy0, ← hx0]
          clear hy0 hx0
          go_wp2_with (refine wpList_store_rep (m := x0) (by rfl) _ _ (by rfl) (by rfl) (RepAt.new v1) (by rfl) ?_; intro v2 hx hg; have P2 := hide (P1.out.later (below_new hg)); have A2 := hide (A1.out.later (below_new hg)); have V2 := hide hx; clear hx hg)
          refine (both_refask P2.out c r).mono ?_
          rw [← HY0.out, ← HX0.out]
          rintro e v3 ⟨rfl, p3, hb3⟩
          have P3 := hide p3
          have A3 := hide (A2.out.later hb3)
          have V3 := hide (V2.out.later hb3)
          clear p3 hb3
          go_wp2_with (refine wpList_store_rep (m := x0) (by rfl) _ _ (by rfl) (by rfl) (RepAt.new v3) (by rfl) ?_; intro v4 hx hg; have P4 := hide (P3.out.later (below_new hg)); have A4 := hide (A3.out.later (below_new hg)); have V4 := hide (V3.out.later (below_new hg)); have W4 := hide hx; have k1 := A4.out.cell1; have k2 := A4.out.cell2; clear hx hg)
          clear k1 k2
          refine (both_ask P4.out a.client a.request).mono ?_
          rintro e v5 ⟨rfl, p5, hb5⟩
          have P5 := hide p5
          have A5 := hide (A4.out.later hb5)
          have V5 := hide (V4.out.later hb5)
          have W5 := hide (W4.out.later hb5)
          clear p5 hb5
          obtain ⟨y1, hy1⟩ : ∃ y1, y1 = (askT T.forgotten a.client a.request).1 := ⟨_, rfl⟩
          obtain ⟨x1, hx1⟩ : ∃ x1, x1 = (askT T.forgotten a.client a.request).2 := ⟨_, rfl⟩
          have HY1 := hide hy1
          have HX1 := hide hx1
          rw [← hy1, ← hx1]
          clear hy1 hx1
          go_wp2_with (refine wpList_store_rep (m := x1) (by rfl) _ _ (by rfl) (by rfl) (RepAt.new v5) (by rfl) ?_; intro v6 hx hg; have P6 := hide (P5.out.later (below_new hg)); have A6 := hide (A5.out.later (below_new hg)); have V6 := hide (V5.out.later (below_new hg)); have W6 := hide (W5.out.later (below_new hg)); have X6 := hide hx; have k1 := A6.out.cell1; have k2 := A6.out.cell2; clear hx hg)
          clear k1 k2
          refine (both_refask P6.out a.client a.request).mono ?_
          rw [← HY1.out, ← HX1.out]
          rintro e v7 ⟨rfl, p7, hb7⟩
          have P7 := hide p7
          have A7 := hide (A6.out.later hb7)
          have V7 := hide (V6.out.later hb7)
          have W7 := hide (W6.out.later hb7)
          have X7 := hide (X6.out.later hb7)
          clear p7 hb7
          go_wp2_with (refine wpList_store_rep (m := x1) (by rfl) _ _ (by rfl) (by rfl) (RepAt.new v7) (by rfl) ?_; intro v8 hx hg; have P8 := hide (P7.out.later (below_new hg)); have A8 := hide (A7.out.later (below_new hg)); have V8 := hide (V7.out.later (below_new hg)); have W8 := hide (W7.out.later (below_new hg)); have X8 := hide (X7.out.later (below_new hg)); have Y8 := hide hx; clear hx hg)
          obtain ⟨l1, hl1⟩ : ∃ l1, (T.forgotten.of a.client).last = l1 := ⟨_, rfl⟩
          obtain ⟨d1, hd1⟩ : ∃ d1, (T.forgotten.of a.client).done = d1 := ⟨_, rfl⟩
          have HL1 := hide hl1
          have HD1 := hide hd1
          clear hl1 hd1
          refine wp_region_L (by kernel_rfl) ?_
          refine wpAnyL_take (i := 0) (d := some 107) (v := ?vagb0) rfl rfl (by kernel_rfl) (by kernel_rfl) (by kernel_rfl) (fun _ _ _ h => h) (by rfl) ?yagb0 ?_
          case yagb0 => (intro w' hw'; go_simp; try (with_reducible rfl))
          simp only [Act.put]; try simp only [List.setIfInBounds_toArray]; try simp only [List.set_cons_zero, List.set_cons_succ]
          refine wpAnyL_take (i := 1) (d := some 108) (v := ?vagb1) rfl rfl (by kernel_rfl) (by kernel_rfl) (by kernel_rfl) (fun _ _ _ h => h) (by rfl) ?yagb1 ?_
          case yagb1 => (intro w' hw'; go_simp; try (with_reducible rfl))
          simp only [Act.put]; try simp only [List.setIfInBounds_toArray]; try simp only [List.set_cons_zero, List.set_cons_succ]
          refine wpAnyL_take (i := 2) (d := some 109) (v := ?vagb2) rfl rfl (by kernel_rfl) (by kernel_rfl) (by kernel_rfl) (fun _ _ _ h => h) (by rfl) ?yagb2 ?_
          case yagb2 => (intro w' hw'; go_simp; try (with_reducible rfl))
          simp only [Act.put]; try simp only [List.setIfInBounds_toArray]; try simp only [List.set_cons_zero, List.set_cons_succ]
          refine wpAnyL_take (i := 3) (d := some 110) (v := ?vagb3) rfl rfl (by kernel_rfl) (by kernel_rfl) (by kernel_rfl) (fun _ _ _ h => h) (by rfl) ?yagb3 ?_
          case yagb3 => (intro w' hw'; go_simp; try (with_reducible rfl))
          simp only [Act.put]; try simp only [List.setIfInBounds_toArray]; try simp only [List.set_cons_zero, List.set_cons_succ]
          refine wpAnyL_take (i := 4) (d := some 111) (v := ?vagb4) rfl rfl (by kernel_rfl) (by kernel_rfl) (by kernel_rfl) (fun _ _ _ h => h) (by rfl) ?yagb4 ?_
          case yagb4 => (intro w' hw'; go_simp; try (with_reducible rfl))
          simp only [Act.put]; try simp only [List.setIfInBounds_toArray]; try simp only [List.set_cons_zero, List.set_cons_succ]
          refine wpAnyL_take (i := 5) (d := some 112) (v := ?vagb5) rfl rfl (by kernel_rfl) (by kernel_rfl) (by kernel_rfl) (fun _ _ _ h => h) (by rfl) ?yagb5 ?_
          case yagb5 => (intro w' hw'; go_simp; try (with_reducible rfl))
          simp only [Act.put]; try simp only [List.setIfInBounds_toArray]; try simp only [List.set_cons_zero, List.set_cons_succ]
          refine wpAnyL_take (i := 6) (d := some 113) (v := ?vagb6) rfl rfl (by kernel_rfl) (by kernel_rfl) (by kernel_rfl) (fun _ _ _ h => h) (by rfl) ?yagb6 ?_
          case yagb6 => (intro w' hw'; go_simp; try (with_reducible rfl))
          simp only [Act.put]; try simp only [List.setIfInBounds_toArray]; try simp only [List.set_cons_zero, List.set_cons_succ]
          refine wpAnyL_take (i := 7) (d := some 114) (v := ?vagb7) rfl rfl (by kernel_rfl) (by kernel_rfl) (by kernel_rfl) (fun _ _ _ h => h) (by rfl) ?yagb7 ?_
          case yagb7 => (intro w' hw'; go_simp; try (with_reducible rfl))
          simp only [Act.put]; try simp only [List.setIfInBounds_toArray]; try simp only [List.set_cons_zero, List.set_cons_succ]
          refine wpAnyL_take (i := 8) (d := some 115) (v := x0.val) rfl rfl (by kernel_rfl) (by kernel_rfl) (by kernel_rfl) (fun _ _ _ h => h) (by rfl) ?yagb8 ?_
          case yagb8 => (intro w' hw'; exact exec_load_rep _ (by rfl) (by rfl) (V8.out.later ((Below.refl v8.heap.size v8).drew.trans hw')))
          simp only [Act.put]; try simp only [List.setIfInBounds_toArray]; try simp only [List.set_cons_zero, List.set_cons_succ]
          refine wpAnyL_take (i := 9) (d := some 116) (v := x0.val) rfl rfl (by kernel_rfl) (by kernel_rfl) (by kernel_rfl) (fun _ _ _ h => h) (by rfl) ?yagb9 ?_
          case yagb9 => (intro w' hw'; exact exec_load_rep _ (by rfl) (by rfl) (W8.out.later ((Below.refl v8.heap.size v8).drew.trans hw')))
          simp only [Act.put]; try simp only [List.setIfInBounds_toArray]; try simp only [List.set_cons_zero, List.set_cons_succ]
          refine wpAnyL_take (i := 10) (d := some 117) (v := .bool false) rfl rfl (by kernel_rfl) (by kernel_rfl) (by kernel_rfl) (fun _ _ _ h => h) (by rfl) ?yagb10 ?_
          case yagb10 => (intro w' hw'; exact exec_neq_rep _ _ _ (by rfl) (by rfl) (by rfl) (by simp))
          simp only [Act.put]; try simp only [List.setIfInBounds_toArray]; try simp only [List.set_cons_zero, List.set_cons_succ]
          refine wpAnyL_take (i := 11) (d := some 118) (v := ?vagb11) rfl rfl (by kernel_rfl) (by kernel_rfl) (by kernel_rfl) (fun _ _ _ h => h) (by rfl) ?yagb11 ?_
          case yagb11 => (intro w' hw'; go_simp; try (with_reducible rfl))
          simp only [Act.put]; try simp only [List.setIfInBounds_toArray]; try simp only [List.set_cons_zero, List.set_cons_succ]
          refine wpAnyL_take (i := 12) (d := some 119) (v := ?vagb12) rfl rfl (by kernel_rfl) (by kernel_rfl) (by kernel_rfl) (fun _ _ _ h => h) (by rfl) ?yagb12 ?_
          case yagb12 => (intro w' hw'; go_simp; try (with_reducible rfl))
          simp only [Act.put]; try simp only [List.setIfInBounds_toArray]; try simp only [List.set_cons_zero, List.set_cons_succ]
          refine wpAnyL_take (i := 13) (d := some 120) (v := ?vagb13) rfl rfl (by kernel_rfl) (by kernel_rfl) (by kernel_rfl) (fun _ _ _ h => h) (by rfl) ?yagb13 ?_
          case yagb13 => (intro w' hw'; go_simp; try (with_reducible rfl))
          simp only [Act.put]; try simp only [List.setIfInBounds_toArray]; try simp only [List.set_cons_zero, List.set_cons_succ]
          refine wpAnyL_take (i := 14) (d := some 121) (v := ?vagb14) rfl rfl (by kernel_rfl) (by kernel_rfl) (by kernel_rfl) (fun _ _ _ h => h) (by rfl) ?yagb14 ?_
          case yagb14 => (intro w' hw'; go_simp; try (with_reducible rfl))
          simp only [Act.put]; try simp only [List.setIfInBounds_toArray]; try simp only [List.set_cons_zero, List.set_cons_succ]
          refine wpAnyL_take (i := 15) (d := some 122) (v := ?vagb15) rfl rfl (by kernel_rfl) (by kernel_rfl) (by kernel_rfl) (fun _ _ _ h => h) (by rfl) ?yagb15 ?_
          case yagb15 => (intro w' hw'; go_simp; try (with_reducible rfl))
          simp only [Act.put]; try simp only [List.setIfInBounds_toArray]; try simp only [List.set_cons_zero, List.set_cons_succ]
          refine wpAnyL_take (i := 16) (d := some 123) (v := ?vagb16) rfl rfl (by kernel_rfl) (by kernel_rfl) (by kernel_rfl) (fun _ _ _ h => h) (by rfl) ?yagb16 ?_
          case yagb16 => (intro w' hw'; go_simp; try (with_reducible rfl))
          simp only [Act.put]; try simp only [List.setIfInBounds_toArray]; try simp only [List.set_cons_zero, List.set_cons_succ]
          refine wpAnyL_take (i := 17) (d := some 124) (v := ?vagb17) rfl rfl (by kernel_rfl) (by kernel_rfl) (by kernel_rfl) (fun _ _ _ h => h) (by rfl) ?yagb17 ?_
          case yagb17 => (intro w' hw'; go_simp; try (with_reducible rfl))
          simp only [Act.put]; try simp only [List.setIfInBounds_toArray]; try simp only [List.set_cons_zero, List.set_cons_succ]
          refine wpAnyL_take (i := 18) (d := some 125) (v := x1.val) rfl rfl (by kernel_rfl) (by kernel_rfl) (by kernel_rfl) (fun _ _ _ h => h) (by rfl) ?yagb18 ?_
          case yagb18 => (intro w' hw'; exact exec_load_rep _ (by rfl) (by rfl) (X8.out.later ((Below.refl v8.heap.size v8).drew.trans hw')))
          simp only [Act.put]; try simp only [List.setIfInBounds_toArray]; try simp only [List.set_cons_zero, List.set_cons_succ]
          refine wpAnyL_take (i := 19) (d := some 126) (v := x1.val) rfl rfl (by kernel_rfl) (by kernel_rfl) (by kernel_rfl) (fun _ _ _ h => h) (by rfl) ?yagb19 ?_
          case yagb19 => (intro w' hw'; exact exec_load_rep _ (by rfl) (by rfl) (Y8.out.later ((Below.refl v8.heap.size v8).drew.trans hw')))
          simp only [Act.put]; try simp only [List.setIfInBounds_toArray]; try simp only [List.set_cons_zero, List.set_cons_succ]
          refine wpAnyL_take (i := 20) (d := some 127) (v := .bool false) rfl rfl (by kernel_rfl) (by kernel_rfl) (by kernel_rfl) (fun _ _ _ h => h) (by rfl) ?yagb20 ?_
          case yagb20 => (intro w' hw'; exact exec_neq_rep _ _ _ (by rfl) (by rfl) (by rfl) (by simp))
          simp only [Act.put]; try simp only [List.setIfInBounds_toArray]; try simp only [List.set_cons_zero, List.set_cons_succ]
          refine wpAnyL_take (i := 21) (d := some 128) (v := ?vagb21) rfl rfl (by kernel_rfl) (by kernel_rfl) (by kernel_rfl) (fun _ _ _ h => h) (by rfl) ?yagb21 ?_
          case yagb21 => (intro w' hw'; go_simp; try (with_reducible rfl))
          simp only [Act.put]; try simp only [List.setIfInBounds_toArray]; try simp only [List.set_cons_zero, List.set_cons_succ]
          refine wpAnyL_take (i := 22) (d := some 129) (v := ?vagb22) rfl rfl (by kernel_rfl) (by kernel_rfl) (by kernel_rfl) (fun _ _ _ h => h) (by rfl) ?yagb22 ?_
          case yagb22 => (intro w' hw'; go_simp; try (with_reducible rfl))
          simp only [Act.put]; try simp only [List.setIfInBounds_toArray]; try simp only [List.set_cons_zero, List.set_cons_succ]
          refine wpAnyL_take (i := 23) (d := some 130) (v := ?vagb23) rfl rfl (by kernel_rfl) (by kernel_rfl) (by kernel_rfl) (fun _ _ _ h => h) (by rfl) ?yagb23 ?_
          case yagb23 => (intro w' hw'; go_simp; try (with_reducible rfl))
          simp only [Act.put]; try simp only [List.setIfInBounds_toArray]; try simp only [List.set_cons_zero, List.set_cons_succ]
          refine wpAnyL_take (i := 24) (d := some 131) (v := ?vagb24) rfl rfl (by kernel_rfl) (by kernel_rfl) (by kernel_rfl) (fun _ _ _ h => h) (by rfl) ?yagb24 ?_
          case yagb24 => (intro w' hw'; go_simp; try (with_reducible rfl))
          simp only [Act.put]; try simp only [List.setIfInBounds_toArray]; try simp only [List.set_cons_zero, List.set_cons_succ]
          refine wpAnyL_take (i := 25) (d := some 132) (v := ?vagb25) rfl rfl (by kernel_rfl) (by kernel_rfl) (by kernel_rfl) (fun _ _ _ h => h) (by rfl) ?yagb25 ?_
          case yagb25 => (intro w' hw'; have e1 := (A8.out.later ((Below.refl v8.heap.size v8).drew.trans hw')).cell1; go_simp; try (with_reducible rfl))
          simp only [Act.put]; try simp only [List.setIfInBounds_toArray]; try simp only [List.set_cons_zero, List.set_cons_succ]
          refine wpAnyL_take (i := 27) (d := some 134) (v := ?vagb27) rfl rfl (by kernel_rfl) (by kernel_rfl) (by kernel_rfl) (fun _ _ _ h => h) (by rfl) ?yagb27 ?_
          case yagb27 => (intro w' hw'; go_simp; try (with_reducible rfl))
          simp only [Act.put]; try simp only [List.setIfInBounds_toArray]; try simp only [List.set_cons_zero, List.set_cons_succ]
          refine wpAnyL_take (i := 28) (d := some 135) (v := ?vagb28) rfl rfl (by kernel_rfl) (by kernel_rfl) (by kernel_rfl) (fun _ _ _ h => h) (by rfl) ?yagb28 ?_
          case yagb28 => (intro w' hw'; go_simp; try (with_reducible rfl))
          simp only [Act.put]; try simp only [List.setIfInBounds_toArray]; try simp only [List.set_cons_zero, List.set_cons_succ]
          refine wpAnyL_take (i := 29) (d := some 136) (v := ?vagb29) rfl rfl (by kernel_rfl) (by kernel_rfl) (by kernel_rfl) (fun _ _ _ h => h) (by rfl) ?yagb29 ?_
          case yagb29 => (intro w' hw'; have e1 := (A8.out.later ((Below.refl v8.heap.size v8).drew.trans hw')).cell1; go_simp; try (with_reducible rfl))
          simp only [Act.put]; try simp only [List.setIfInBounds_toArray]; try simp only [List.set_cons_zero, List.set_cons_succ]
          refine wpAnyL_only (i := 26) rfl (by kernel_rfl) (by rfl) fun K hK => ?_
          go_simp
          refine (both_last (P8.out.later (Below.refl v8.heap.size v8).drew) a.client).mono ?_
          rw [HL1.out]
          rintro e u1 ⟨rfl, p1, hb1⟩
          have Q1 := hide p1
          have HB1 := hide ((Below.refl v8.heap.size v8).drew.trans hb1)
          refine hK.out _ _ hb1 ?_
          clear p1 hb1
          clear hK K
          try (simp only [Act.put]; try simp only [List.setIfInBounds_toArray]; try simp only [List.set_cons_zero, List.set_cons_succ])
          refine wpAnyL_only (i := 30) rfl (by kernel_rfl) (by rfl) fun K hK => ?_
          go_simp
          refine (both_reflast Q1.out a.client).mono ?_
          rw [HL1.out]
          rintro e u2 ⟨rfl, p2, hb2⟩
          have Q2 := hide p2
          have HB2 := hide (HB1.out.trans (hb2.mono HB1.out.size))
          refine hK.out _ _ hb2 ?_
          clear p2 hb2
          clear hK K
          try (simp only [Act.put]; try simp only [List.setIfInBounds_toArray]; try simp only [List.set_cons_zero, List.set_cons_succ])
          refine wpAnyL_take (i := 31) (d := some 138) (v := ?vagb31) rfl rfl (by kernel_rfl) (by kernel_rfl) (by kernel_rfl) (fun _ _ _ h => h) (by rfl) ?yagb31 ?_
          case yagb31 => (intro w' hw'; go_simp; try (with_reducible rfl))
          simp only [Act.put]; try simp only [List.setIfInBounds_toArray]; try simp only [List.set_cons_zero, List.set_cons_succ]
          refine wpAnyL_take (i := 32) (d := some 139) (v := ?vagb32) rfl rfl (by kernel_rfl) (by kernel_rfl) (by kernel_rfl) (fun _ _ _ h => h) (by rfl) ?yagb32 ?_
          case yagb32 => (intro w' hw'; go_simp; try (with_reducible rfl))
          simp only [Act.put]; try simp only [List.setIfInBounds_toArray]; try simp only [List.set_cons_zero, List.set_cons_succ]
          refine wpAnyL_take (i := 33) (d := some 140) (v := ?vagb33) rfl rfl (by kernel_rfl) (by kernel_rfl) (by kernel_rfl) (fun _ _ _ h => h) (by rfl) ?yagb33 ?_
          case yagb33 => (intro w' hw'; go_simp; try (with_reducible rfl))
          simp only [Act.put]; try simp only [List.setIfInBounds_toArray]; try simp only [List.set_cons_zero, List.set_cons_succ]
          refine wpAnyL_take (i := 34) (d := some 141) (v := ?vagb34) rfl rfl (by kernel_rfl) (by kernel_rfl) (by kernel_rfl) (fun _ _ _ h => h) (by rfl) ?yagb34 ?_
          case yagb34 => (intro w' hw'; go_simp; try (with_reducible rfl))
          simp only [Act.put]; try simp only [List.setIfInBounds_toArray]; try simp only [List.set_cons_zero, List.set_cons_succ]
          refine wpAnyL_take (i := 35) (d := some 142) (v := ?vagb35) rfl rfl (by kernel_rfl) (by kernel_rfl) (by kernel_rfl) (fun _ _ _ h => h) (by rfl) ?yagb35 ?_
          case yagb35 => (intro w' hw'; go_simp; try (with_reducible rfl))
          simp only [Act.put]; try simp only [List.setIfInBounds_toArray]; try simp only [List.set_cons_zero, List.set_cons_succ]
          refine wpAnyL_take (i := 36) (d := some 143) (v := ?vagb36) rfl rfl (by kernel_rfl) (by kernel_rfl) (by kernel_rfl) (fun _ _ _ h => h) (by rfl) ?yagb36 ?_
          case yagb36 => (intro w' hw'; have e1 := (A8.out.later (HB2.out.trans (Below.mono hw' HB2.out.size))).cell1; go_simp; try (with_reducible rfl))
          simp only [Act.put]; try simp only [List.setIfInBounds_toArray]; try simp only [List.set_cons_zero, List.set_cons_succ]
          refine wpAnyL_take (i := 38) (d := some 145) (v := ?vagb38) rfl rfl (by kernel_rfl) (by kernel_rfl) (by kernel_rfl) (fun _ _ _ h => h) (by rfl) ?yagb38 ?_
          case yagb38 => (intro w' hw'; go_simp; try (with_reducible rfl))
          simp only [Act.put]; try simp only [List.setIfInBounds_toArray]; try simp only [List.set_cons_zero, List.set_cons_succ]
          refine wpAnyL_take (i := 39) (d := some 146) (v := ?vagb39) rfl rfl (by kernel_rfl) (by kernel_rfl) (by kernel_rfl) (fun _ _ _ h => h) (by rfl) ?yagb39 ?_
          case yagb39 => (intro w' hw'; go_simp; try (with_reducible rfl))
          simp only [Act.put]; try simp only [List.setIfInBounds_toArray]; try simp only [List.set_cons_zero, List.set_cons_succ]
          refine wpAnyL_take (i := 40) (d := some 147) (v := ?vagb40) rfl rfl (by kernel_rfl) (by kernel_rfl) (by kernel_rfl) (fun _ _ _ h => h) (by rfl) ?yagb40 ?_
          case yagb40 => (intro w' hw'; have e1 := (A8.out.later (HB2.out.trans (Below.mono hw' HB2.out.size))).cell1; go_simp; try (with_reducible rfl))
          simp only [Act.put]; try simp only [List.setIfInBounds_toArray]; try simp only [List.set_cons_zero, List.set_cons_succ]
          refine wpAnyL_only (i := 37) rfl (by kernel_rfl) (by rfl) fun K hK => ?_
          go_simp
          refine (both_done Q2.out a.client).mono ?_
          rw [HD1.out]
          rintro e u3 ⟨rfl, p3, hb3⟩
          have Q3 := hide p3
          have HB3 := hide (HB2.out.trans (hb3.mono HB2.out.size))
          refine hK.out _ _ hb3 ?_
          clear p3 hb3
          clear hK K
          try (simp only [Act.put]; try simp only [List.setIfInBounds_toArray]; try simp only [List.set_cons_zero, List.set_cons_succ])
          refine wpAnyL_only (i := 41) rfl (by kernel_rfl) (by rfl) fun K hK => ?_
          go_simp
          refine (both_refdone Q3.out a.client).mono ?_
          rw [HD1.out]
          rintro e u4 ⟨rfl, p4, rfl⟩
          have Q4 := hide p4
          refine hK.out _ _ (Later.refl _) ?_
          clear p4
          clear hK K
          try (simp only [Act.put]; try simp only [List.setIfInBounds_toArray]; try simp only [List.set_cons_zero, List.set_cons_succ])
          refine wpAnyL_take (i := 42) (d := some 149) (v := ?vagb42) rfl rfl (by kernel_rfl) (by kernel_rfl) (by kernel_rfl) (fun _ _ _ h => h) (by rfl) ?yagb42 ?_
          case yagb42 => (intro w' hw'; go_simp; try (with_reducible rfl))
          simp only [Act.put]; try simp only [List.setIfInBounds_toArray]; try simp only [List.set_cons_zero, List.set_cons_succ]
          refine wpAnyL_take (i := 43) (d := some 150) (v := ?vagb43) rfl rfl (by kernel_rfl) (by kernel_rfl) (by kernel_rfl) (fun _ _ _ h => h) (by rfl) ?yagb43 ?_
          case yagb43 => (intro w' hw'; go_simp; try (with_reducible rfl))
          simp only [Act.put]; try simp only [List.setIfInBounds_toArray]; try simp only [List.set_cons_zero, List.set_cons_succ]
          refine wpAnyL_done (by kernel_rfl) ?_ _
          go_wp2
          go_roundw
          case rel => exact ⟨k + 1, _, by go_num, by omega, Q4.out⟩
          case measure => simp [intOf]; omega
          
        · have hk0 : (a.kind == 0) = false := by simpa using hkd0
          have hk1 : (a.kind == 1) = false := by simpa using hkd1
          have hk2 : (a.kind == 2) = false := by simpa using hkd2
          clear hkd0 hkd1 hkd2
          go_wp2_with (first
            | (refine wpList_load_mid (by rfl) 36 _ (by rfl) b (off + k * 7) (by rfl) _ _ HR.out Try.underlying36 (by rfl) (by kernel_rfl) ?_)
            | (refine wpList_store_act (a := a) (by rfl) _ _ (by rfl) (by rfl) (ActAt.new wr) (by rfl) ?_; intro w2 hx hg; have A2 := hide hx; have P2 := hide (HO.out.later (below_new hg)); have k0 := A2.out.cell0; clear hx hg))
          clear k0
          have P0 := hide (P2.out)
          have A0 := hide (A2.out)
          refine (both_ask P0.out c r).mono ?_
          rintro e v1 ⟨rfl, p1, hb1⟩
          have P1 := hide p1
          have A1 := hide (A0.out.later hb1)
          clear p1 hb1
          obtain ⟨y0, hy0⟩ : ∃ y0, y0 = (askT T c r).1 := ⟨_, rfl⟩
          obtain ⟨x0, hx0⟩ : ∃ x0, x0 = (askT T c r).2 := ⟨_, rfl⟩
          have HY0 := hide hy0
          have HX0 := hide hx0
          rw [← hy0, ← hx0]
          clear hy0 hx0
          go_wp2_with (refine wpList_store_rep (m := x0) (by rfl) _ _ (by rfl) (by rfl) (RepAt.new v1) (by rfl) ?_; intro v2 hx hg; have P2 := hide (P1.out.later (below_new hg)); have A2 := hide (A1.out.later (below_new hg)); have V2 := hide hx; clear hx hg)
          refine (both_refask P2.out c r).mono ?_
          rw [← HY0.out, ← HX0.out]
          rintro e v3 ⟨rfl, p3, hb3⟩
          have P3 := hide p3
          have A3 := hide (A2.out.later hb3)
          have V3 := hide (V2.out.later hb3)
          clear p3 hb3
          go_wp2_with (refine wpList_store_rep (m := x0) (by rfl) _ _ (by rfl) (by rfl) (RepAt.new v3) (by rfl) ?_; intro v4 hx hg; have P4 := hide (P3.out.later (below_new hg)); have A4 := hide (A3.out.later (below_new hg)); have V4 := hide (V3.out.later (below_new hg)); have W4 := hide hx; have k1 := A4.out.cell1; have k2 := A4.out.cell2; clear hx hg)
          clear k1 k2
          refine (both_ask P4.out a.client a.request).mono ?_
          rintro e v5 ⟨rfl, p5, hb5⟩
          have P5 := hide p5
          have A5 := hide (A4.out.later hb5)
          have V5 := hide (V4.out.later hb5)
          have W5 := hide (W4.out.later hb5)
          clear p5 hb5
          obtain ⟨y1, hy1⟩ : ∃ y1, y1 = (askT T a.client a.request).1 := ⟨_, rfl⟩
          obtain ⟨x1, hx1⟩ : ∃ x1, x1 = (askT T a.client a.request).2 := ⟨_, rfl⟩
          have HY1 := hide hy1
          have HX1 := hide hx1
          rw [← hy1, ← hx1]
          clear hy1 hx1
          go_wp2_with (refine wpList_store_rep (m := x1) (by rfl) _ _ (by rfl) (by rfl) (RepAt.new v5) (by rfl) ?_; intro v6 hx hg; have P6 := hide (P5.out.later (below_new hg)); have A6 := hide (A5.out.later (below_new hg)); have V6 := hide (V5.out.later (below_new hg)); have W6 := hide (W5.out.later (below_new hg)); have X6 := hide hx; have k1 := A6.out.cell1; have k2 := A6.out.cell2; clear hx hg)
          clear k1 k2
          refine (both_refask P6.out a.client a.request).mono ?_
          rw [← HY1.out, ← HX1.out]
          rintro e v7 ⟨rfl, p7, hb7⟩
          have P7 := hide p7
          have A7 := hide (A6.out.later hb7)
          have V7 := hide (V6.out.later hb7)
          have W7 := hide (W6.out.later hb7)
          have X7 := hide (X6.out.later hb7)
          clear p7 hb7
          go_wp2_with (refine wpList_store_rep (m := x1) (by rfl) _ _ (by rfl) (by rfl) (RepAt.new v7) (by rfl) ?_; intro v8 hx hg; have P8 := hide (P7.out.later (below_new hg)); have A8 := hide (A7.out.later (below_new hg)); have V8 := hide (V7.out.later (below_new hg)); have W8 := hide (W7.out.later (below_new hg)); have X8 := hide (X7.out.later (below_new hg)); have Y8 := hide hx; clear hx hg)
          obtain ⟨l1, hl1⟩ : ∃ l1, (T.of a.client).last = l1 := ⟨_, rfl⟩
          obtain ⟨d1, hd1⟩ : ∃ d1, (T.of a.client).done = d1 := ⟨_, rfl⟩
          have HL1 := hide hl1
          have HD1 := hide hd1
          clear hl1 hd1
          refine wp_region_L (by kernel_rfl) ?_
          refine wpAnyL_take (i := 0) (d := some 107) (v := ?vahb0) rfl rfl (by kernel_rfl) (by kernel_rfl) (by kernel_rfl) (fun _ _ _ h => h) (by rfl) ?yahb0 ?_
          case yahb0 => (intro w' hw'; go_simp; try (with_reducible rfl))
          simp only [Act.put]; try simp only [List.setIfInBounds_toArray]; try simp only [List.set_cons_zero, List.set_cons_succ]
          refine wpAnyL_take (i := 1) (d := some 108) (v := ?vahb1) rfl rfl (by kernel_rfl) (by kernel_rfl) (by kernel_rfl) (fun _ _ _ h => h) (by rfl) ?yahb1 ?_
          case yahb1 => (intro w' hw'; go_simp; try (with_reducible rfl))
          simp only [Act.put]; try simp only [List.setIfInBounds_toArray]; try simp only [List.set_cons_zero, List.set_cons_succ]
          refine wpAnyL_take (i := 2) (d := some 109) (v := ?vahb2) rfl rfl (by kernel_rfl) (by kernel_rfl) (by kernel_rfl) (fun _ _ _ h => h) (by rfl) ?yahb2 ?_
          case yahb2 => (intro w' hw'; go_simp; try (with_reducible rfl))
          simp only [Act.put]; try simp only [List.setIfInBounds_toArray]; try simp only [List.set_cons_zero, List.set_cons_succ]
          refine wpAnyL_take (i := 3) (d := some 110) (v := ?vahb3) rfl rfl (by kernel_rfl) (by kernel_rfl) (by kernel_rfl) (fun _ _ _ h => h) (by rfl) ?yahb3 ?_
          case yahb3 => (intro w' hw'; go_simp; try (with_reducible rfl))
          simp only [Act.put]; try simp only [List.setIfInBounds_toArray]; try simp only [List.set_cons_zero, List.set_cons_succ]
          refine wpAnyL_take (i := 4) (d := some 111) (v := ?vahb4) rfl rfl (by kernel_rfl) (by kernel_rfl) (by kernel_rfl) (fun _ _ _ h => h) (by rfl) ?yahb4 ?_
          case yahb4 => (intro w' hw'; go_simp; try (with_reducible rfl))
          simp only [Act.put]; try simp only [List.setIfInBounds_toArray]; try simp only [List.set_cons_zero, List.set_cons_succ]
          refine wpAnyL_take (i := 5) (d := some 112) (v := ?vahb5) rfl rfl (by kernel_rfl) (by kernel_rfl) (by kernel_rfl) (fun _ _ _ h => h) (by rfl) ?yahb5 ?_
          case yahb5 => (intro w' hw'; go_simp; try (with_reducible rfl))
          simp only [Act.put]; try simp only [List.setIfInBounds_toArray]; try simp only [List.set_cons_zero, List.set_cons_succ]
          refine wpAnyL_take (i := 6) (d := some 113) (v := ?vahb6) rfl rfl (by kernel_rfl) (by kernel_rfl) (by kernel_rfl) (fun _ _ _ h => h) (by rfl) ?yahb6 ?_
          case yahb6 => (intro w' hw'; go_simp; try (with_reducible rfl))
          simp only [Act.put]; try simp only [List.setIfInBounds_toArray]; try simp only [List.set_cons_zero, List.set_cons_succ]
          refine wpAnyL_take (i := 7) (d := some 114) (v := ?vahb7) rfl rfl (by kernel_rfl) (by kernel_rfl) (by kernel_rfl) (fun _ _ _ h => h) (by rfl) ?yahb7 ?_
          case yahb7 => (intro w' hw'; go_simp; try (with_reducible rfl))
          simp only [Act.put]; try simp only [List.setIfInBounds_toArray]; try simp only [List.set_cons_zero, List.set_cons_succ]
          refine wpAnyL_take (i := 8) (d := some 115) (v := x0.val) rfl rfl (by kernel_rfl) (by kernel_rfl) (by kernel_rfl) (fun _ _ _ h => h) (by rfl) ?yahb8 ?_
          case yahb8 => (intro w' hw'; exact exec_load_rep _ (by rfl) (by rfl) (V8.out.later ((Below.refl v8.heap.size v8).drew.trans hw')))
          simp only [Act.put]; try simp only [List.setIfInBounds_toArray]; try simp only [List.set_cons_zero, List.set_cons_succ]
          refine wpAnyL_take (i := 9) (d := some 116) (v := x0.val) rfl rfl (by kernel_rfl) (by kernel_rfl) (by kernel_rfl) (fun _ _ _ h => h) (by rfl) ?yahb9 ?_
          case yahb9 => (intro w' hw'; exact exec_load_rep _ (by rfl) (by rfl) (W8.out.later ((Below.refl v8.heap.size v8).drew.trans hw')))
          simp only [Act.put]; try simp only [List.setIfInBounds_toArray]; try simp only [List.set_cons_zero, List.set_cons_succ]
          refine wpAnyL_take (i := 10) (d := some 117) (v := .bool false) rfl rfl (by kernel_rfl) (by kernel_rfl) (by kernel_rfl) (fun _ _ _ h => h) (by rfl) ?yahb10 ?_
          case yahb10 => (intro w' hw'; exact exec_neq_rep _ _ _ (by rfl) (by rfl) (by rfl) (by simp))
          simp only [Act.put]; try simp only [List.setIfInBounds_toArray]; try simp only [List.set_cons_zero, List.set_cons_succ]
          refine wpAnyL_take (i := 11) (d := some 118) (v := ?vahb11) rfl rfl (by kernel_rfl) (by kernel_rfl) (by kernel_rfl) (fun _ _ _ h => h) (by rfl) ?yahb11 ?_
          case yahb11 => (intro w' hw'; go_simp; try (with_reducible rfl))
          simp only [Act.put]; try simp only [List.setIfInBounds_toArray]; try simp only [List.set_cons_zero, List.set_cons_succ]
          refine wpAnyL_take (i := 12) (d := some 119) (v := ?vahb12) rfl rfl (by kernel_rfl) (by kernel_rfl) (by kernel_rfl) (fun _ _ _ h => h) (by rfl) ?yahb12 ?_
          case yahb12 => (intro w' hw'; go_simp; try (with_reducible rfl))
          simp only [Act.put]; try simp only [List.setIfInBounds_toArray]; try simp only [List.set_cons_zero, List.set_cons_succ]
          refine wpAnyL_take (i := 13) (d := some 120) (v := ?vahb13) rfl rfl (by kernel_rfl) (by kernel_rfl) (by kernel_rfl) (fun _ _ _ h => h) (by rfl) ?yahb13 ?_
          case yahb13 => (intro w' hw'; go_simp; try (with_reducible rfl))
          simp only [Act.put]; try simp only [List.setIfInBounds_toArray]; try simp only [List.set_cons_zero, List.set_cons_succ]
          refine wpAnyL_take (i := 14) (d := some 121) (v := ?vahb14) rfl rfl (by kernel_rfl) (by kernel_rfl) (by kernel_rfl) (fun _ _ _ h => h) (by rfl) ?yahb14 ?_
          case yahb14 => (intro w' hw'; go_simp; try (with_reducible rfl))
          simp only [Act.put]; try simp only [List.setIfInBounds_toArray]; try simp only [List.set_cons_zero, List.set_cons_succ]
          refine wpAnyL_take (i := 15) (d := some 122) (v := ?vahb15) rfl rfl (by kernel_rfl) (by kernel_rfl) (by kernel_rfl) (fun _ _ _ h => h) (by rfl) ?yahb15 ?_
          case yahb15 => (intro w' hw'; go_simp; try (with_reducible rfl))
          simp only [Act.put]; try simp only [List.setIfInBounds_toArray]; try simp only [List.set_cons_zero, List.set_cons_succ]
          refine wpAnyL_take (i := 16) (d := some 123) (v := ?vahb16) rfl rfl (by kernel_rfl) (by kernel_rfl) (by kernel_rfl) (fun _ _ _ h => h) (by rfl) ?yahb16 ?_
          case yahb16 => (intro w' hw'; go_simp; try (with_reducible rfl))
          simp only [Act.put]; try simp only [List.setIfInBounds_toArray]; try simp only [List.set_cons_zero, List.set_cons_succ]
          refine wpAnyL_take (i := 17) (d := some 124) (v := ?vahb17) rfl rfl (by kernel_rfl) (by kernel_rfl) (by kernel_rfl) (fun _ _ _ h => h) (by rfl) ?yahb17 ?_
          case yahb17 => (intro w' hw'; go_simp; try (with_reducible rfl))
          simp only [Act.put]; try simp only [List.setIfInBounds_toArray]; try simp only [List.set_cons_zero, List.set_cons_succ]
          refine wpAnyL_take (i := 18) (d := some 125) (v := x1.val) rfl rfl (by kernel_rfl) (by kernel_rfl) (by kernel_rfl) (fun _ _ _ h => h) (by rfl) ?yahb18 ?_
          case yahb18 => (intro w' hw'; exact exec_load_rep _ (by rfl) (by rfl) (X8.out.later ((Below.refl v8.heap.size v8).drew.trans hw')))
          simp only [Act.put]; try simp only [List.setIfInBounds_toArray]; try simp only [List.set_cons_zero, List.set_cons_succ]
          refine wpAnyL_take (i := 19) (d := some 126) (v := x1.val) rfl rfl (by kernel_rfl) (by kernel_rfl) (by kernel_rfl) (fun _ _ _ h => h) (by rfl) ?yahb19 ?_
          case yahb19 => (intro w' hw'; exact exec_load_rep _ (by rfl) (by rfl) (Y8.out.later ((Below.refl v8.heap.size v8).drew.trans hw')))
          simp only [Act.put]; try simp only [List.setIfInBounds_toArray]; try simp only [List.set_cons_zero, List.set_cons_succ]
          refine wpAnyL_take (i := 20) (d := some 127) (v := .bool false) rfl rfl (by kernel_rfl) (by kernel_rfl) (by kernel_rfl) (fun _ _ _ h => h) (by rfl) ?yahb20 ?_
          case yahb20 => (intro w' hw'; exact exec_neq_rep _ _ _ (by rfl) (by rfl) (by rfl) (by simp))
          simp only [Act.put]; try simp only [List.setIfInBounds_toArray]; try simp only [List.set_cons_zero, List.set_cons_succ]
          refine wpAnyL_take (i := 21) (d := some 128) (v := ?vahb21) rfl rfl (by kernel_rfl) (by kernel_rfl) (by kernel_rfl) (fun _ _ _ h => h) (by rfl) ?yahb21 ?_
          case yahb21 => (intro w' hw'; go_simp; try (with_reducible rfl))
          simp only [Act.put]; try simp only [List.setIfInBounds_toArray]; try simp only [List.set_cons_zero, List.set_cons_succ]
          refine wpAnyL_take (i := 22) (d := some 129) (v := ?vahb22) rfl rfl (by kernel_rfl) (by kernel_rfl) (by kernel_rfl) (fun _ _ _ h => h) (by rfl) ?yahb22 ?_
          case yahb22 => (intro w' hw'; go_simp; try (with_reducible rfl))
          simp only [Act.put]; try simp only [List.setIfInBounds_toArray]; try simp only [List.set_cons_zero, List.set_cons_succ]
          refine wpAnyL_take (i := 23) (d := some 130) (v := ?vahb23) rfl rfl (by kernel_rfl) (by kernel_rfl) (by kernel_rfl) (fun _ _ _ h => h) (by rfl) ?yahb23 ?_
          case yahb23 => (intro w' hw'; go_simp; try (with_reducible rfl))
          simp only [Act.put]; try simp only [List.setIfInBounds_toArray]; try simp only [List.set_cons_zero, List.set_cons_succ]
          refine wpAnyL_take (i := 24) (d := some 131) (v := ?vahb24) rfl rfl (by kernel_rfl) (by kernel_rfl) (by kernel_rfl) (fun _ _ _ h => h) (by rfl) ?yahb24 ?_
          case yahb24 => (intro w' hw'; go_simp; try (with_reducible rfl))
          simp only [Act.put]; try simp only [List.setIfInBounds_toArray]; try simp only [List.set_cons_zero, List.set_cons_succ]
          refine wpAnyL_take (i := 25) (d := some 132) (v := ?vahb25) rfl rfl (by kernel_rfl) (by kernel_rfl) (by kernel_rfl) (fun _ _ _ h => h) (by rfl) ?yahb25 ?_
          case yahb25 => (intro w' hw'; have e1 := (A8.out.later ((Below.refl v8.heap.size v8).drew.trans hw')).cell1; go_simp; try (with_reducible rfl))
          simp only [Act.put]; try simp only [List.setIfInBounds_toArray]; try simp only [List.set_cons_zero, List.set_cons_succ]
          refine wpAnyL_take (i := 27) (d := some 134) (v := ?vahb27) rfl rfl (by kernel_rfl) (by kernel_rfl) (by kernel_rfl) (fun _ _ _ h => h) (by rfl) ?yahb27 ?_
          case yahb27 => (intro w' hw'; go_simp; try (with_reducible rfl))
          simp only [Act.put]; try simp only [List.setIfInBounds_toArray]; try simp only [List.set_cons_zero, List.set_cons_succ]
          refine wpAnyL_take (i := 28) (d := some 135) (v := ?vahb28) rfl rfl (by kernel_rfl) (by kernel_rfl) (by kernel_rfl) (fun _ _ _ h => h) (by rfl) ?yahb28 ?_
          case yahb28 => (intro w' hw'; go_simp; try (with_reducible rfl))
          simp only [Act.put]; try simp only [List.setIfInBounds_toArray]; try simp only [List.set_cons_zero, List.set_cons_succ]
          refine wpAnyL_take (i := 29) (d := some 136) (v := ?vahb29) rfl rfl (by kernel_rfl) (by kernel_rfl) (by kernel_rfl) (fun _ _ _ h => h) (by rfl) ?yahb29 ?_
          case yahb29 => (intro w' hw'; have e1 := (A8.out.later ((Below.refl v8.heap.size v8).drew.trans hw')).cell1; go_simp; try (with_reducible rfl))
          simp only [Act.put]; try simp only [List.setIfInBounds_toArray]; try simp only [List.set_cons_zero, List.set_cons_succ]
          refine wpAnyL_only (i := 26) rfl (by kernel_rfl) (by rfl) fun K hK => ?_
          go_simp
          refine (both_last (P8.out.later (Below.refl v8.heap.size v8).drew) a.client).mono ?_
          rw [HL1.out]
          rintro e u1 ⟨rfl, p1, hb1⟩
          have Q1 := hide p1
          have HB1 := hide ((Below.refl v8.heap.size v8).drew.trans hb1)
          refine hK.out _ _ hb1 ?_
          clear p1 hb1
          clear hK K
          try (simp only [Act.put]; try simp only [List.setIfInBounds_toArray]; try simp only [List.set_cons_zero, List.set_cons_succ])
          refine wpAnyL_only (i := 30) rfl (by kernel_rfl) (by rfl) fun K hK => ?_
          go_simp
          refine (both_reflast Q1.out a.client).mono ?_
          rw [HL1.out]
          rintro e u2 ⟨rfl, p2, hb2⟩
          have Q2 := hide p2
          have HB2 := hide (HB1.out.trans (hb2.mono HB1.out.size))
          refine hK.out _ _ hb2 ?_
          clear p2 hb2
          clear hK K
          try (simp only [Act.put]; try simp only [List.setIfInBounds_toArray]; try simp only [List.set_cons_zero, List.set_cons_succ])
          refine wpAnyL_take (i := 31) (d := some 138) (v := ?vahb31) rfl rfl (by kernel_rfl) (by kernel_rfl) (by kernel_rfl) (fun _ _ _ h => h) (by rfl) ?yahb31 ?_
          case yahb31 => (intro w' hw'; go_simp; try (with_reducible rfl))
          simp only [Act.put]; try simp only [List.setIfInBounds_toArray]; try simp only [List.set_cons_zero, List.set_cons_succ]
          refine wpAnyL_take (i := 32) (d := some 139) (v := ?vahb32) rfl rfl (by kernel_rfl) (by kernel_rfl) (by kernel_rfl) (fun _ _ _ h => h) (by rfl) ?yahb32 ?_
          case yahb32 => (intro w' hw'; go_simp; try (with_reducible rfl))
          simp only [Act.put]; try simp only [List.setIfInBounds_toArray]; try simp only [List.set_cons_zero, List.set_cons_succ]
          refine wpAnyL_take (i := 33) (d := some 140) (v := ?vahb33) rfl rfl (by kernel_rfl) (by kernel_rfl) (by kernel_rfl) (fun _ _ _ h => h) (by rfl) ?yahb33 ?_
          case yahb33 => (intro w' hw'; go_simp; try (with_reducible rfl))
          simp only [Act.put]; try simp only [List.setIfInBounds_toArray]; try simp only [List.set_cons_zero, List.set_cons_succ]
          refine wpAnyL_take (i := 34) (d := some 141) (v := ?vahb34) rfl rfl (by kernel_rfl) (by kernel_rfl) (by kernel_rfl) (fun _ _ _ h => h) (by rfl) ?yahb34 ?_
          case yahb34 => (intro w' hw'; go_simp; try (with_reducible rfl))
          simp only [Act.put]; try simp only [List.setIfInBounds_toArray]; try simp only [List.set_cons_zero, List.set_cons_succ]
          refine wpAnyL_take (i := 35) (d := some 142) (v := ?vahb35) rfl rfl (by kernel_rfl) (by kernel_rfl) (by kernel_rfl) (fun _ _ _ h => h) (by rfl) ?yahb35 ?_
          case yahb35 => (intro w' hw'; go_simp; try (with_reducible rfl))
          simp only [Act.put]; try simp only [List.setIfInBounds_toArray]; try simp only [List.set_cons_zero, List.set_cons_succ]
          refine wpAnyL_take (i := 36) (d := some 143) (v := ?vahb36) rfl rfl (by kernel_rfl) (by kernel_rfl) (by kernel_rfl) (fun _ _ _ h => h) (by rfl) ?yahb36 ?_
          case yahb36 => (intro w' hw'; have e1 := (A8.out.later (HB2.out.trans (Below.mono hw' HB2.out.size))).cell1; go_simp; try (with_reducible rfl))
          simp only [Act.put]; try simp only [List.setIfInBounds_toArray]; try simp only [List.set_cons_zero, List.set_cons_succ]
          refine wpAnyL_take (i := 38) (d := some 145) (v := ?vahb38) rfl rfl (by kernel_rfl) (by kernel_rfl) (by kernel_rfl) (fun _ _ _ h => h) (by rfl) ?yahb38 ?_
          case yahb38 => (intro w' hw'; go_simp; try (with_reducible rfl))
          simp only [Act.put]; try simp only [List.setIfInBounds_toArray]; try simp only [List.set_cons_zero, List.set_cons_succ]
          refine wpAnyL_take (i := 39) (d := some 146) (v := ?vahb39) rfl rfl (by kernel_rfl) (by kernel_rfl) (by kernel_rfl) (fun _ _ _ h => h) (by rfl) ?yahb39 ?_
          case yahb39 => (intro w' hw'; go_simp; try (with_reducible rfl))
          simp only [Act.put]; try simp only [List.setIfInBounds_toArray]; try simp only [List.set_cons_zero, List.set_cons_succ]
          refine wpAnyL_take (i := 40) (d := some 147) (v := ?vahb40) rfl rfl (by kernel_rfl) (by kernel_rfl) (by kernel_rfl) (fun _ _ _ h => h) (by rfl) ?yahb40 ?_
          case yahb40 => (intro w' hw'; have e1 := (A8.out.later (HB2.out.trans (Below.mono hw' HB2.out.size))).cell1; go_simp; try (with_reducible rfl))
          simp only [Act.put]; try simp only [List.setIfInBounds_toArray]; try simp only [List.set_cons_zero, List.set_cons_succ]
          refine wpAnyL_only (i := 37) rfl (by kernel_rfl) (by rfl) fun K hK => ?_
          go_simp
          refine (both_done Q2.out a.client).mono ?_
          rw [HD1.out]
          rintro e u3 ⟨rfl, p3, hb3⟩
          have Q3 := hide p3
          have HB3 := hide (HB2.out.trans (hb3.mono HB2.out.size))
          refine hK.out _ _ hb3 ?_
          clear p3 hb3
          clear hK K
          try (simp only [Act.put]; try simp only [List.setIfInBounds_toArray]; try simp only [List.set_cons_zero, List.set_cons_succ])
          refine wpAnyL_only (i := 41) rfl (by kernel_rfl) (by rfl) fun K hK => ?_
          go_simp
          refine (both_refdone Q3.out a.client).mono ?_
          rw [HD1.out]
          rintro e u4 ⟨rfl, p4, rfl⟩
          have Q4 := hide p4
          refine hK.out _ _ (Later.refl _) ?_
          clear p4
          clear hK K
          try (simp only [Act.put]; try simp only [List.setIfInBounds_toArray]; try simp only [List.set_cons_zero, List.set_cons_succ])
          refine wpAnyL_take (i := 42) (d := some 149) (v := ?vahb42) rfl rfl (by kernel_rfl) (by kernel_rfl) (by kernel_rfl) (fun _ _ _ h => h) (by rfl) ?yahb42 ?_
          case yahb42 => (intro w' hw'; go_simp; try (with_reducible rfl))
          simp only [Act.put]; try simp only [List.setIfInBounds_toArray]; try simp only [List.set_cons_zero, List.set_cons_succ]
          refine wpAnyL_take (i := 43) (d := some 150) (v := ?vahb43) rfl rfl (by kernel_rfl) (by kernel_rfl) (by kernel_rfl) (fun _ _ _ h => h) (by rfl) ?yahb43 ?_
          case yahb43 => (intro w' hw'; go_simp; try (with_reducible rfl))
          simp only [Act.put]; try simp only [List.setIfInBounds_toArray]; try simp only [List.set_cons_zero, List.set_cons_succ]
          refine wpAnyL_done (by kernel_rfl) ?_ _
          go_wp2
          go_roundw
          case rel => exact ⟨k + 1, _, by go_num, by omega, Q4.out⟩
          case measure => simp [intOf]; omega
          
      · have hlt : decide (k < n') = false := by simpa using hkn
        go_wp2_with (fail)
        refine (lives_any _).mono ?_
        rintro e w2 ⟨rfl, hb2⟩
        have HL := hide (HO.out.later hb2)
        clear hb2
        go_wp2
        go_ret
        exact ⟨rfl, HL.out.1.2.2⟩
end Go.Proofs.Ytmakibpbodfchaa
