/- The walk over droverlaw10.VrMerges: incarnations of any two, and which messages are of elder ones. -/
import Derived.Test.YtflphpjfmbkeiaaLives10
import Derived.Test.YtflphpjfmbkeiaaRefFresh
import Derived.Test.YtflphpjfmbkeiaaSame
namespace Go.Proofs.Ytflphpjfmbkeiaa
open Go.RowKit

set_option maxHeartbeats 4000000 in
set_option maxRecDepth 100000 in
theorem small_any {F : Nat → Prop} {w : World} {v : Value} {ps : List MsgV} (h : MsgsIn F w v ps) (hw : ∀ p ∈ ps, p.m.wf) :
    Calls Try.prog 8 #[v] w fun e w' => ∃ b : Bool, e = .returned (.bool b) ∧ (b = true → ps.length ≤ 60 ∧ ∀ p ∈ ps, p.m.lightN 200 ∧ p.m.incs.length ≤ 200) ∧ Later w w' := by
  obtain ⟨A, cap, rfl, h1, h2, _⟩ := FlatAt.shape h.1
  unfold maxLen at h2
  have H := hide h
  have HW := hide hw
  clear h hw
  obtain ⟨n, hn⟩ : ∃ n, ps.length = n := ⟨_, rfl⟩
  have HN := hide hn
  rw [hn] at H h1 ⊢
  clear hn
  by_cases hlong : 60 < n
  · go_enter Try.func8, Try.ntmps8
    go_wp2
    go_ret
    exact ⟨false, rfl, (fun h => by cases h), Below.refl _ _⟩
  · go_enter Try.func8, Try.ntmps8
    go_wp2
    go_loopw [10] (fun j wr => ∃ k : Nat, k ≤ n ∧ j = .int .i64 (k : Int) ∧ (∀ p ∈ ps.take k, p.m.lightN 200 ∧ p.m.incs.length ≤ 200) ∧ Later w wr) (fun j _ => n - (Go.RowKit.intOf j).toNat)
    case atStart => exact ⟨0, by omega, rfl, by simp, Below.refl _ _⟩
    case round =>
      obtain ⟨k, hk, rfl, hall, hb⟩ := hrel
      have HA := hide hall
      have HB := hide hb
      clear hall hb
      by_cases hkn : k < n
      · obtain ⟨p, b, off, c', hx, hv, _, _, _, hr, hli⟩ := MsgsIn.at_ (MsgsIn.kept (by rw [← HN.out] at H; exact H.out) (Kept.of_below HB.out _)) (k := k) (by rw [HN.out]; exact hkn)
        obtain ⟨rfl, rfl⟩ : A = some ⟨b, off, none⟩ ∧ cap = c' := by injection hv with e1 _ e3; exact ⟨e1, e3⟩
        have hwx := HW.out p (List.mem_of_getElem? hx)
        have HPX := hide hx
        have HR := hide hr
        obtain ⟨m, s, o, i⟩ := p
        obtain ⟨iA, ic, hiv, hic, hic2, _⟩ := FlatAt.shape hli.2.2
        unfold maxLen at hic2
        obtain ⟨k1, k2, k3⟩ := hli.cell
        have HZ : Hid ((wr.alloc (.cells zcells 40 (0, 0))).heap[wr.heap.size]? = some (.cells zcells 40 (0, 0))) := heap_alloc_new _ _
        have C := hide (fun w' (hb : Below wr.heap.size wr w') => stepsn_any 200 (by decide) (by decide) _ m s o i w' hwx (hli.kept (Kept.of_below hb _)))
        have HIV := hide hiv
        clear hx hv hr hli hwx hiv
        go_wp2_with (first
          | (refine wpList_load_mid (by rfl) 40 _ (by rfl) b (off + k * 34) (by rfl) _ _ HR.out Try.underlying40 (by rfl) (by kernel_rfl) ?_)
          | (refine wpList_store_box (by rfl) 40 _ _ (by rfl) (wr.heap.size) 0 ((m.cells s o i).toArray) (by rfl) (by rfl) 40 (zcells) (HZ.out) (by kernel_rfl) (by exact Nat.le_of_ble_eq_true rfl) (by exact m.one k1 k2 k3) ?_; intro w2 hb2 hg2; rw [put_zmsg] at hb2)
          | (refine wpList_load_box (by rfl) 40 _ (by rfl) (wr.heap.size) 0 (by rfl) 40 _ (hb2) 34 _ Try.underlying40 (by rfl) (by kernel_rfl) (m.cells s o i) (by rfl) (by rfl) ?_))
        have hB2 : Below wr.heap.size wr w2 := ((Below.refl _ _).alloc (Nat.le_refl _) _).grown hg2 (by simp) (fun k hk => by have := Option.some.inj hk; omega)
        refine (C.out w2 hB2).mono ?_
        rintro e w3 ⟨q, rfl, hq2, hb3⟩
        have HQ := hide hq2
        have c33 := box_cell ((Below.block hb3 _ (lt_of_block hb2)).trans hb2) 33 (.slice iA m.incs.length ic) (by rw [← HIV.out]; rfl)
        have HB3 : Hid (Later w w3) := HB.out.trans (Later.trans hB2 hb3)
        clear hb2 hg2 hB2 hb3 C hq2
        by_cases hq1 : 200 < q
        · go_wp2
          go_ret
          exact ⟨false, rfl, (fun h => by cases h), HB3.out⟩
        · have hq3 : decide (200 < q) = false := by simpa using hq1
          by_cases hi2 : 200 < m.incs.length
          · go_wp2
            go_ret
            exact ⟨false, rfl, (fun h => by cases h), HB3.out⟩
          · have hnx : ∀ p ∈ ps.take (k + 1), p.m.lightN 200 ∧ p.m.incs.length ≤ 200 := by
              intro p hp
              rw [List.take_add_one, HPX.out] at hp
              rcases List.mem_append.1 hp with hp | hp
              · exact HA.out p hp
              · obtain rfl : p = ⟨m, s, o, i⟩ := by simpa using hp
                exact ⟨HQ.out (by omega), by show m.incs.length ≤ 200; omega⟩
            have HNX := hide hnx
            clear hnx
            go_wp2
            go_roundw
            case rel => exact ⟨k + 1, by omega, by go_num, HNX.out, HB3.out⟩
            case measure => simp [Go.RowKit.intOf]; omega
      · obtain rfl : k = n := by omega
        go_wp2
        go_ret
        exact ⟨true, rfl, fun _ => ⟨by omega, fun p hp => HA.out p (by rw [List.take_of_length_le (by have := HN.out; omega)]; exact hp)⟩, HB.out⟩

set_option maxHeartbeats 8000000 in
set_option maxRecDepth 100000 in
theorem law_merges (u : Value) (a : List Int) (v : Value) (b : List Int) (vl : Value) (ps : List MsgV) (w : World) (ha : SlI (· < w.heap.size) w u a) (_fa : Fit a) (hb : SlI (· < w.heap.size) w v b) (_fb : Fit b) (hL : MsgsIn (· < w.heap.size) w vl ps) (hwf : ∀ p ∈ ps, p.m.wf) :
    Calls Try.prog 3 #[u, v, vl] w fun e w' => e = .returned (.bool true) ∧ Below w.heap.size w w' := by
  have LV := hide lives_any
  have CSM := hide (small_any hL hwf)
  obtain ⟨A, ca, rfl, h1, h2⟩ := ha.shape
  obtain ⟨A2, cb, rfl, h3, h4⟩ := hb.shape
  obtain ⟨A3, cl, rfl, h5, h6, _⟩ := FlatAt.shape hL.1
  have HA : Hid (∀ w', Later w w' → SlI (· < w.heap.size) w' (.slice A a.length ca) a) := fun w' h => ha.kept (Kept.of_below h _)
  have HBB : Hid (∀ w', Later w w' → SlI (· < w.heap.size) w' (.slice A2 b.length cb) b) := fun w' h => hb.kept (Kept.of_below h _)
  have HLM : Hid (∀ w', Later w w' → MsgsIn (· < w.heap.size) w' (.slice A3 ps.length cl) ps) := fun w' h => hL.kept (Kept.of_below h _)
  have HWF := hide hwf
  obtain ⟨n, hn⟩ : ∃ n, a.length = n := ⟨_, rfl⟩
  obtain ⟨n2, hn2⟩ : ∃ n, b.length = n := ⟨_, rfl⟩
  obtain ⟨n3, hn3⟩ : ∃ n, ps.length = n := ⟨_, rfl⟩
  have l1 : n ≤ maxLen := by omega
  have l2 : n2 ≤ maxLen := by omega
  have l3 : n3 ≤ maxLen := by omega
  unfold maxLen at l1 l2 l3
  rw [hn] at HA ⊢
  rw [hn2] at HBB ⊢
  rw [hn3] at HLM CSM ⊢
  have HN := hide hn
  have HN2 := hide hn2
  have HN3 := hide hn3
  clear ha hb hL hwf h1 h2 h3 h4 h5 h6 hn hn2 hn3 _fa _fb
  by_cases g1 : 200 < n
  · go_enter Try.func3, Try.ntmps3
    go_wp2_with (fail)
    refine (LV.out _).mono ?_
    rintro e w6 ⟨rfl, hl⟩
    have L7 := hide hl
    clear hl
    go_wp2
    go_ret
    exact ⟨rfl, L7.out⟩
  by_cases g2 : 200 < n2
  · go_enter Try.func3, Try.ntmps3
    go_wp2_with (fail)
    refine (LV.out _).mono ?_
    rintro e w6 ⟨rfl, hl⟩
    have L7 := hide hl
    clear hl
    go_wp2
    go_ret
    exact ⟨rfl, L7.out⟩
  go_enter Try.func3, Try.ntmps3
  go_wp2_with (fail)
  refine CSM.out.mono ?_
  rintro e w1 ⟨sm, rfl, hsm, hl⟩
  have HSM := hide hsm
  have L1 := hide hl
  clear hsm hl CSM
  cases sm
  · go_wp2_with (fail)
    refine (LV.out _).mono ?_
    rintro e w6 ⟨rfl, hl⟩
    have L7 : Hid (Later w w6) := L1.out.trans hl
    clear hl
    go_wp2
    go_ret
    exact ⟨rfl, L7.out⟩
  have h60 : n3 ≤ 60 := (HSM.out (by trivial)).1
  have HSP : Hid (∀ p ∈ ps, p.m.lightN 200 ∧ p.m.incs.length ≤ 200 ∧ I64 p.m.src) := fun p hp => ⟨((HSM.out (by trivial)).2 p hp).1, ((HSM.out (by trivial)).2 p hp).2, (HWF.out p hp).2.1⟩
  have C1 := hide (fresh_any (HLM.out w1 L1.out) (HA.out w1 L1.out) (by have := HN3.out; omega) HSP.out)
  go_wp2_with (fail)
  refine C1.out.mono ?_
  rintro e w2 ⟨vx, qx, rfl, hx, hxe, hl⟩
  have L2 : Hid (Later w w2) := L1.out.trans hl
  have C2 := hide (reffresh_any (HLM.out w2 L2.out) (HA.out w2 L2.out) (by have := HN3.out; omega) HSP.out)
  have HX2 := hide hx
  have HXE := hide hxe
  clear hx hxe hl C1
  go_wp2_with (fail)
  refine C2.out.mono ?_
  rintro e w3 ⟨vy, qy, rfl, hy, hye, hl⟩
  have L3 : Hid (Later w w3) := L2.out.trans hl
  have HX := hide (HX2.out.kept (Kept.of_below hl _))
  have HY := hide hy
  have hxy : qx.map MsgV.m = qy.map MsgV.m := by rw [HXE.out, hye]
  have hlen : qx.length = qy.length := by have h := congrArg List.length hxy; simpa using h
  have HXY := hide hxy
  clear hl hy hye hxy C2 HX2 HXE
  obtain ⟨B1, d1, rfl, h1, h2, _⟩ := FlatAt.shape HX.out.1
  obtain ⟨B2, d2, rfl, h3, h4, _⟩ := FlatAt.shape HY.out.1
  obtain ⟨n4, hn4⟩ : ∃ n, qx.length = n := ⟨_, rfl⟩
  have hn5 : qy.length = n4 := by omega
  have HN4 := hide hn4
  have HN5 := hide hn5
  have l4 : n4 ≤ maxLen := by omega
  unfold maxLen at l4
  rw [hn4] at HX ⊢
  rw [hn5] at HY ⊢
  have hnn : ((n4 : Int) != (n4 : Int)) = false := by simp
  clear hlen h1 h2 h3 h4 hn4 hn5
  go_wp2
  obtain ⟨AX, hAX⟩ : ∃ x, x = B1 := ⟨_, rfl⟩
  obtain ⟨AY, hAY⟩ : ∃ x, x = B2 := ⟨_, rfl⟩
  clear hAX hAY AX AY
  go_loopw [39] (fun j wr => ∃ k : Nat, k ≤ n4 ∧ j = .int .i64 (k : Int) ∧ Later w3 wr) (fun j _ => n4 - (Go.RowKit.intOf j).toNat)
  case atStart => exact ⟨0, by omega, rfl, Below.refl _ _⟩
  case round =>
    obtain ⟨k, hk, rfl, hb⟩ := hrel
    have HB := hide hb
    clear hb
    by_cases hkn : k < n4
    · obtain ⟨p1, b1, o1, c1, hx1, hv1, _, _, hlt1, hr1, hli1⟩ := MsgsIn.at_ (MsgsIn.kept (by rw [← HN4.out] at HX; exact HX.out) (Kept.of_below HB.out _)) (k := k) (by rw [HN4.out]; exact hkn)
      obtain ⟨p2, b2, o2, c2, hx2, hv2, _, _, hlt2, hr2, hli2⟩ := MsgsIn.at_ (MsgsIn.kept (by rw [← HN5.out] at HY; exact HY.out) (Kept.of_below HB.out _)) (k := k) (by rw [HN5.out]; exact hkn)
      obtain ⟨rfl, rfl⟩ : B1 = some ⟨b1, o1, none⟩ ∧ d1 = c1 := by injection hv1 with e1 _ e3; exact ⟨e1, e3⟩
      obtain ⟨rfl, rfl⟩ : B2 = some ⟨b2, o2, none⟩ ∧ d2 = c2 := by injection hv2 with e1 _ e3; exact ⟨e1, e3⟩
      have heq : p1.m = p2.m := by
        have h := congrArg (fun l => l[k]?) HXY.out
        simp only [List.getElem?_map, hx1, hx2, Option.map_some, Option.some.injEq] at h
        exact h
      have HEQ := hide heq
      have HR1 : Hid (∀ w', Later wr w' → w'.rangeAt b1 (o1 + k * 34) (p1.m.cells p1.s p1.o p1.i)) := fun w' h j u hj => (Below.cell h (p := ⟨b1, o1 + k * 34 + j, none⟩) hlt1).trans (hr1 j u hj)
      have HR2 : Hid (∀ w', Later wr w' → w'.rangeAt b2 (o2 + k * 34) (p2.m.cells p2.s p2.o p2.i)) := fun w' h j u hj => (Below.cell h (p := ⟨b2, o2 + k * 34 + j, none⟩) hlt2).trans (hr2 j u hj)
      have HLI1 := hide hli1
      have HLI2 := hide hli2
      have D0 : Hid (Later wr wr.drew) := (Below.refl _ _).drew
      clear hx1 hv1 hr1 hli1 hx2 hv2 hr2 hli2 heq hlt1 hlt2
      go_wp2
      refine wp_region_L (by kernel_rfl) ?_
      refine wpAnyL_take (i := 0) (d := some 42) (v := ?vaa0) rfl rfl (by kernel_rfl) (by kernel_rfl) (by kernel_rfl) (fun _ _ _ h => h) (by rfl) ?yaa0 ?_
      case yaa0 => (intro w' hw'; go_simp; try (with_reducible rfl))
      simp only [Act.put]; try simp only [List.setIfInBounds_toArray]; try simp only [List.set_cons_zero, List.set_cons_succ]
      refine wpAnyL_take (i := 1) (d := some 43) (v := ?vaa1) rfl rfl (by kernel_rfl) (by kernel_rfl) (by kernel_rfl) (fun _ _ _ h => h) (by rfl) ?yaa1 ?_
      case yaa1 => (intro w' hw'; go_simp; try (with_reducible rfl))
      simp only [Act.put]; try simp only [List.setIfInBounds_toArray]; try simp only [List.set_cons_zero, List.set_cons_succ]
      refine wpAnyL_take (i := 2) (d := some 44) (v := ?vaa2) rfl rfl (by kernel_rfl) (by kernel_rfl) (by kernel_rfl) (fun _ _ _ h => h) (by rfl) ?yaa2 ?_
      case yaa2 => (intro w' hw'; go_simp; try (with_reducible rfl))
      simp only [Act.put]; try simp only [List.setIfInBounds_toArray]; try simp only [List.set_cons_zero, List.set_cons_succ]
      refine wpAnyL_take (i := 3) (d := some 45) (v := .agg (p1.m.cells p1.s p1.o p1.i).toArray) rfl rfl (by kernel_rfl) (by kernel_rfl) (by kernel_rfl) (fun _ _ _ h => h) (by rfl) ?yaa3 ?_
      case yaa3 => (intro w' hw'; exact exec_load_range 40 _ (by rfl) b1 (o1 + k * 34) (by rfl) (p1.m.cells p1.s p1.o p1.i) (HR1.out w' (D0.out.trans hw')) _ Try.underlying40 (by rfl) (by kernel_rfl))
      simp only [Act.put]; try simp only [List.setIfInBounds_toArray]; try simp only [List.set_cons_zero, List.set_cons_succ]
      refine wpAnyL_take (i := 4) (d := some 46) (v := ?vaa4) rfl rfl (by kernel_rfl) (by kernel_rfl) (by kernel_rfl) (fun _ _ _ h => h) (by rfl) ?yaa4 ?_
      case yaa4 => (intro w' hw'; go_simp; try (with_reducible rfl))
      simp only [Act.put]; try simp only [List.setIfInBounds_toArray]; try simp only [List.set_cons_zero, List.set_cons_succ]
      refine wpAnyL_take (i := 5) (d := some 47) (v := ?vaa5) rfl rfl (by kernel_rfl) (by kernel_rfl) (by kernel_rfl) (fun _ _ _ h => h) (by rfl) ?yaa5 ?_
      case yaa5 => (intro w' hw'; go_simp; try (with_reducible rfl))
      simp only [Act.put]; try simp only [List.setIfInBounds_toArray]; try simp only [List.set_cons_zero, List.set_cons_succ]
      refine wpAnyL_take (i := 6) (d := some 48) (v := ?vaa6) rfl rfl (by kernel_rfl) (by kernel_rfl) (by kernel_rfl) (fun _ _ _ h => h) (by rfl) ?yaa6 ?_
      case yaa6 => (intro w' hw'; go_simp; try (with_reducible rfl))
      simp only [Act.put]; try simp only [List.setIfInBounds_toArray]; try simp only [List.set_cons_zero, List.set_cons_succ]
      refine wpAnyL_take (i := 7) (d := some 49) (v := .agg (p2.m.cells p2.s p2.o p2.i).toArray) rfl rfl (by kernel_rfl) (by kernel_rfl) (by kernel_rfl) (fun _ _ _ h => h) (by rfl) ?yaa7 ?_
      case yaa7 => (intro w' hw'; exact exec_load_range 40 _ (by rfl) b2 (o2 + k * 34) (by rfl) (p2.m.cells p2.s p2.o p2.i) (HR2.out w' (D0.out.trans hw')) _ Try.underlying40 (by rfl) (by kernel_rfl))
      simp only [Act.put]; try simp only [List.setIfInBounds_toArray]; try simp only [List.set_cons_zero, List.set_cons_succ]
      refine wpAnyL_only (i := 8) rfl (by kernel_rfl) (by rfl) fun K hK => ?_
      go_simp
      refine (same_any _ _ p1.s p1.o p1.i p2.s p2.o p2.i p1.m p2.m _ (HLI1.out.kept (Kept.of_below D0.out _)) (HLI2.out.kept (Kept.of_below D0.out _))).mono ?_
      rw [HEQ.out, decide_eq_true rfl]
      rintro e w5 ⟨rfl, hl⟩
      have D5 : Hid (Later wr w5) := D0.out.trans hl
      refine hK.out _ _ hl ?_
      clear hl
      clear hK K
      try (simp only [Act.put]; try simp only [List.setIfInBounds_toArray]; try simp only [List.set_cons_zero, List.set_cons_succ])
      refine wpAnyL_take (i := 9) (d := some 51) (v := ?vaa9) rfl rfl (by kernel_rfl) (by kernel_rfl) (by kernel_rfl) (fun _ _ _ h => h) (by rfl) ?yaa9 ?_
      case yaa9 => (intro w' hw'; go_simp; try (with_reducible rfl))
      simp only [Act.put]; try simp only [List.setIfInBounds_toArray]; try simp only [List.set_cons_zero, List.set_cons_succ]
      refine wpAnyL_done (by kernel_rfl) ?_ _
      go_wp2
      go_roundw
      case rel => exact ⟨k + 1, by omega, by go_num, HB.out.trans D5.out⟩
      case measure => simp [Go.RowKit.intOf]; omega
    · have L4 : Hid (Later w wr) := L3.out.trans HB.out
      obtain rfl : k = n4 := by omega
      clear HX HY HXY HB L3
      obtain ⟨w4, hw4⟩ : ∃ w4, w4 = wr := ⟨_, rfl⟩
      rw [← hw4] at L4 ⊢
      clear hw4
      go_wp2
      go_loopw [55] (fun j wr => ∃ q : Nat, q ≤ n3 ∧ j = .int .i64 (q : Int) ∧ Later w wr) (fun j _ => n3 - (Go.RowKit.intOf j).toNat)
      case atStart => exact ⟨0, by omega, rfl, L4.out⟩
      case round =>
        obtain ⟨q, hq, rfl, hb⟩ := hrel
        have HB := hide hb
        clear hb
        by_cases hqn : q < n3
        · obtain ⟨p, b3, off, c', hx, hv, _, _, _, hr, hli⟩ := MsgsIn.at_ (by have h := HLM.out wr HB.out; rw [← HN3.out] at h; exact h) (k := q) (by rw [HN3.out]; exact hqn)
          obtain ⟨rfl, rfl⟩ : A3 = some ⟨b3, off, none⟩ ∧ cl = c' := by injection hv with e1 _ e3; exact ⟨e1, e3⟩
          have hsrc := (HWF.out p (List.mem_of_getElem? hx)).2.1
          have HR := hide hr
          obtain ⟨m, s, o, i⟩ := p
          obtain ⟨k1, k2, k3⟩ := hli.cell
          have HZ : Hid ((wr.alloc (.cells zcells 40 (0, 0))).heap[wr.heap.size]? = some (.cells zcells 40 (0, 0))) := heap_alloc_new _ _
          have HCS := hide (fun w' (hl : Later wr w') => And.intro (stale_any (s := s) (o := o) (i := i) (HA.out w' (HB.out.trans hl)) (hli.kept (Kept.of_below hl _)).2.2 hsrc) (refstale_any (s := s) (o := o) (i := i) (HA.out w' (HB.out.trans hl)) (hli.kept (Kept.of_below hl _)).2.2 hsrc))
          obtain ⟨t, ht⟩ : ∃ t, staleB a m = t := ⟨_, rfl⟩
          simp only [ht] at HCS
          have htt : (t != t) = false := by simp
          clear hx hv hr hli hsrc ht
          go_wp2_with (first
            | (refine wpList_load_mid (by rfl) 40 _ (by rfl) b3 (off + q * 34) (by rfl) _ _ HR.out Try.underlying40 (by rfl) (by kernel_rfl) ?_)
            | (refine wpList_store_box (by rfl) 40 _ _ (by rfl) (wr.heap.size) 0 ((m.cells s o i).toArray) (by rfl) (by rfl) 40 (zcells) (HZ.out) (by kernel_rfl) (by exact Nat.le_of_ble_eq_true rfl) (by exact m.one k1 k2 k3) ?_; intro w2 hb2 hg2; rw [put_zmsg] at hb2))
          have hB2 : Later wr w2 := ((Below.refl _ _).alloc (Nat.le_refl _) _).grown hg2 (by simp) (fun k hk => by have := Option.some.inj hk; omega)
          have HX2 : Hid (∀ w', Later w2 w' → w'.heap[wr.heap.size]? = some (.cells (m.cells s o i).toArray 40 (0, 0))) := fun w' h => (Below.block h _ (lt_of_block hb2)).trans hb2
          have CS1 : Hid (∀ w', Later w2 w' → Calls Try.prog 13 #[.slice A n ca, .agg (m.cells s o i).toArray] w' fun e w'' => e = .returned (.bool t) ∧ Later w' w'') := fun w' h => (HCS.out w' (hB2.trans h)).1
          have CS2 : Hid (∀ w', Later w2 w' → Calls Try.prog 14 #[.slice A n ca, .agg (m.cells s o i).toArray] w' fun e w'' => e = .returned (.bool t) ∧ Later w' w'') := fun w' h => (HCS.out w' (hB2.trans h)).2
          have L5 : Hid (Later w w2) := HB.out.trans hB2
          have D0 : Hid (Later w2 w2.drew) := (Below.refl _ _).drew
          clear hb2 hg2 hB2 HCS
          refine wp_region_L (by kernel_rfl) ?_
          refine wpAnyL_take (i := 0) (d := some 59) (v := ?vab0) rfl rfl (by kernel_rfl) (by kernel_rfl) (by kernel_rfl) (fun _ _ _ h => h) (by rfl) ?yab0 ?_
          case yab0 => (intro w' hw'; go_simp; try (with_reducible rfl))
          simp only [Act.put]; try simp only [List.setIfInBounds_toArray]; try simp only [List.set_cons_zero, List.set_cons_succ]
          refine wpAnyL_take (i := 1) (d := some 60) (v := .agg (m.cells s o i).toArray) rfl rfl (by kernel_rfl) (by kernel_rfl) (by kernel_rfl) (fun _ _ _ h => h) (by rfl) ?yab1 ?_
          case yab1 => (intro w' hw'; exact exec_load_box 40 _ (by rfl) wr.heap.size 0 (by rfl) 40 _ (HX2.out w' (D0.out.trans hw')) 34 _ Try.underlying40 (by rfl) (by kernel_rfl) (m.cells s o i) (by rfl) (by rfl))
          simp only [Act.put]; try simp only [List.setIfInBounds_toArray]; try simp only [List.set_cons_zero, List.set_cons_succ]
          refine wpAnyL_take (i := 3) (d := some 62) (v := ?vab3) rfl rfl (by kernel_rfl) (by kernel_rfl) (by kernel_rfl) (fun _ _ _ h => h) (by rfl) ?yab3 ?_
          case yab3 => (intro w' hw'; go_simp; try (with_reducible rfl))
          simp only [Act.put]; try simp only [List.setIfInBounds_toArray]; try simp only [List.set_cons_zero, List.set_cons_succ]
          refine wpAnyL_take (i := 4) (d := some 63) (v := .agg (m.cells s o i).toArray) rfl rfl (by kernel_rfl) (by kernel_rfl) (by kernel_rfl) (fun _ _ _ h => h) (by rfl) ?yab4 ?_
          case yab4 => (intro w' hw'; exact exec_load_box 40 _ (by rfl) wr.heap.size 0 (by rfl) 40 _ (HX2.out w' (D0.out.trans hw')) 34 _ Try.underlying40 (by rfl) (by kernel_rfl) (m.cells s o i) (by rfl) (by rfl))
          simp only [Act.put]; try simp only [List.setIfInBounds_toArray]; try simp only [List.set_cons_zero, List.set_cons_succ]
          refine wpAnyL_only (i := 2) rfl (by kernel_rfl) (by rfl) fun K hK => ?_
          go_simp
          refine (CS1.out _ D0.out).mono ?_
          rintro e v1 ⟨rfl, hl⟩
          have D1 : Hid (Later w2 v1) := D0.out.trans hl
          refine hK.out _ _ hl ?_
          clear hl
          clear hK K
          try (simp only [Act.put]; try simp only [List.setIfInBounds_toArray]; try simp only [List.set_cons_zero, List.set_cons_succ])
          refine wpAnyL_only (i := 5) rfl (by kernel_rfl) (by rfl) fun K hK => ?_
          go_simp
          refine (CS2.out _ D1.out).mono ?_
          rintro e v2 ⟨rfl, hl⟩
          have D2 : Hid (Later w2 v2) := D1.out.trans hl
          refine hK.out _ _ hl ?_
          clear hl
          clear hK K
          try (simp only [Act.put]; try simp only [List.setIfInBounds_toArray]; try simp only [List.set_cons_zero, List.set_cons_succ])
          refine wpAnyL_take (i := 6) (d := some 65) (v := ?vab6) rfl rfl (by kernel_rfl) (by kernel_rfl) (by kernel_rfl) (fun _ _ _ h => h) (by rfl) ?yab6 ?_
          case yab6 => (intro w' hw'; go_simp; try (with_reducible rfl))
          simp only [Act.put]; try simp only [List.setIfInBounds_toArray]; try simp only [List.set_cons_zero, List.set_cons_succ]
          refine wpAnyL_done (by kernel_rfl) ?_ _
          go_wp2
          go_roundw
          case rel => exact ⟨q + 1, by omega, by go_num, L5.out.trans D2.out⟩
          case measure => simp [Go.RowKit.intOf]; omega
        · have C1 := hide (merge_any (HA.out wr HB.out) (HBB.out wr HB.out) (by have := HN.out; omega))
          have FA := hide (HA.out wr HB.out).2
          have FB := hide (HBB.out wr HB.out).2
          go_wp2_with (fail)
          refine C1.out.mono ?_
          rintro e w5 ⟨X, nx, cx, rfl, hown, hh, _, hbl⟩
          have L5 : Hid (Later w w5) := HB.out.trans hbl
          have HXI := hide hh
          have C2 := hide (refmerge_any (HA.out w5 L5.out) (HBB.out w5 L5.out) (by have := HN.out; omega))
          clear hown hh hbl C1
          go_wp2_with (fail)
          refine C2.out.mono ?_
          rintro e w6 ⟨Y, ny, cy, rfl, hown, hh, _, hbl⟩
          have L6 : Hid (Later w w6) := L5.out.trans hbl
          have C3 := hide (refints_any X Y nx cx ny cy _ _ _ _ w6 (HXI.out.below hbl) hh (by have h := HXI.out.1; rw [mergeL_len] at h; have := HN.out; omega) (by have h := hh.1; rw [mergeL_len] at h; have := HN.out; omega))
          rw [eqI_self] at C3
          clear hown hh hbl C2
          go_wp2_with (fail)
          refine C3.out.mono ?_
          rintro e w7 ⟨rfl, z, hz⟩
          have L7 : Hid (Later w w7) := by rw [hz]; exact L6.out.trans (below_drewN _ _ _)
          clear hz C3
          go_wp2_with (fail)
          refine (LV.out _).mono ?_
          rintro e w8 ⟨rfl, hl⟩
          have L8 : Hid (Later w w8) := L7.out.trans hl
          clear hl
          go_wp2
          go_ret
          exact ⟨rfl, L8.out⟩
end Go.Proofs.Ytflphpjfmbkeiaa
