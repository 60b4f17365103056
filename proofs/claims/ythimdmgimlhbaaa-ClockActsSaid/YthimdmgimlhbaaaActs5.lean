/- The walk over droverlaw05.ClockActs: whatever is done to a clock, it is the document's. -/
import Derived.Test.YthimdmgimlhbaaaActsK
import Derived.Test.YthimdmgimlhbaaaOrderS
namespace Go.Proofs.Ythimdmgimlhbaaa
open Go.RowKit Go.Maps

theorem kept_at {B : Nat} {w w' : World} (h : Below B w w') : Kept (· < B) w w' := ⟨h.size, fun i _ hF => h.block i hF⟩
theorem PairW.start {w w1 w2 : World} {c r : Nat} {S : Nat → Prop} (h1 : Clk w.heap.size S w1 c 0 [] 0) (hb : Below w1.heap.size w1 w2) (hr : w2.heap[r]? = some (.cells #[.int .i64 0, .slice none 0 0] 29 (0, 0))) (hrw : w1.heap.size ≤ r) :
    PairW w.heap.size w2 c r 0 [] 0 := by
  have hlow := h1.low
  refine ⟨S, fun i => i = r, .slice none 0 0, h1.later hb, ⟨hr, FlatAt.nil_ _ _ _, rfl, fun i hi => by subst hi; exact lt_of_block hr⟩, fun i hi e => ?_, fun i hi => by subst hi; omega, by simp⟩
  have := (h1.1 i hi).2
  omega

set_option maxHeartbeats 8000000 in
set_option maxRecDepth 100000 in
theorem law_acts (v : Value) (l : List ActC) (w : World) (h : ActsAt (· < w.heap.size) w v l) (hl : ∀ x ∈ l, x.wf) :
    Calls Try.prog 3 #[v] w fun e w' => e = .returned (.bool true) ∧ Below w.heap.size w w' := by
  obtain ⟨A, cp, rfl, hcn, hcm, _⟩ := FlatAt.shape h
  unfold maxLen at hcm
  obtain ⟨n', hn⟩ : ∃ n', n' = l.length := ⟨_, rfl⟩
  rw [← hn] at hcn ⊢
  have HV : Hid (ActsAt (· < w.heap.size) w (.slice A n' cp) l) := by rw [hn]; exact h
  have HWF := hide hl
  have HN := hide hn
  clear h hl hn
  by_cases hlong : 200 < n'
  · have hlong' : (200 : Int) < (n' : Int) := by omega
    go_enter Try.func3, Try.ntmps3
    go_wp2_with (fail)
    refine (lives_any _).mono ?_
    rintro e w2 ⟨rfl, hb2⟩
    have HB2 := hide hb2
    clear hb2
    go_wp2
    go_ret
    exact ⟨rfl, HB2.out⟩
  · have hshort : (n' : Int) ≤ 200 := by omega
    have C := hide (clk_new w)
    clear hlong
    go_enter Try.func3, Try.ntmps3
    go_wp2_with (fail)
    refine C.out.mono ?_
    rintro e w1 ⟨c, S1, rfl, hb1, h1⟩
    have HB1 := hide hb1
    have H1 := hide h1
    clear hb1 h1 C
    go_wp2
    obtain ⟨w2, hw2⟩ : ∃ w2, w2 = w1.alloc (.cells #[.int .i64 0, .slice none 0 0] 29 (0, 0)) := ⟨_, rfl⟩
    have hb2 : Below w1.heap.size w1 w2 := by rw [hw2]; exact (Below.refl _ _).alloc (Nat.le_refl _) _
    have hr2 : w2.heap[w1.heap.size]? = some (.cells #[.int .i64 0, .slice none 0 0] 29 (0, 0)) := by rw [hw2]; exact heap_alloc_new _ _
    have HB2 := hide (HB1.out.trans (hb2.mono HB1.out.size))
    obtain ⟨r, hr⟩ : ∃ r, r = w1.heap.size := ⟨_, rfl⟩
    rw [← hr] at hr2
    have HP0 : Hid (PairW w.heap.size w2 c r 0 [] 0) := PairW.start H1.out hb2 hr2 (by omega)
    rw [← hw2, ← hr]
    clear hw2 hr2 hr hb2
    go_loopw [17] (fun v wr => ∃ (k : Nat) (now : Int) (L : List (Int × Int)), v = .int .i64 (k : Int) ∧ k ≤ n' ∧ 0 ≤ now ∧ now ≤ k ∧ PairW w.heap.size wr c r now L k ∧ Below w.heap.size w wr) (fun v _ => n' - (intOf v).toNat)
    case atStart => exact ⟨0, 0, [], rfl, by omega, by omega, by omega, HP0.out, HB2.out⟩
    case round =>
      obtain ⟨k, now, L, rfl, hk, hn0, hnk, hp, hb⟩ := hrel
      have HP := hide hp
      have HB := hide hb
      clear hp hb
      by_cases hkn : k < n'
      · obtain ⟨x, b, off, c', hx, hv, hcc, _, hbl, hrange⟩ := ActsAt.at_ (HV.out.kept (kept_at HB.out)) (i := k) (by rw [← HN.out]; exact hkn)
        rw [← HN.out] at hv
        obtain ⟨rfl, rfl⟩ : A = some ⟨b, off, none⟩ ∧ cp = c' := by injection hv with e1 _ e3; exact ⟨e1, e3⟩
        have hwf := HWF.out x (List.mem_of_getElem? hx)
        obtain ⟨kd, nm, af⟩ := x
        obtain ⟨⟨k1, k2⟩, ⟨n1, n2⟩, a1, a2⟩ := hwf
        simp only at k1 k2 n1 n2 a1 a2
        have HR : Hid (wr.rangeAt b (off + k * 3) [.int .i64 kd, .int .i64 nm, .int .i64 af]) := hrange
        obtain ⟨bx, hbx⟩ : ∃ bx, bx = wr.heap.size := ⟨_, rfl⟩
        have hal : Below wr.heap.size wr (wr.alloc (.cells #[.int .i64 kd, .int .i64 nm, .int .i64 af] 31 (0, 0))) := (Below.refl _ _).alloc (Nat.le_refl _) _
        have hp3 : PairOK w.heap.size (wr.alloc (.cells #[.int .i64 kd, .int .i64 nm, .int .i64 af] 31 (0, 0))) c r now L k bx := by
          rw [hbx]
          exact HP.out.box hal (by simp)
        have hx3 : (wr.alloc (.cells #[.int .i64 kd, .int .i64 nm, .int .i64 af] 31 (0, 0))).heap[bx]? = some (.cells #[.int .i64 kd, .int .i64 nm, .int .i64 af] 31 (0, 0)) := by
          rw [hbx]
          exact heap_alloc_new _ _
        have hb3 := HB.out.alloc HP.out.low (.cells #[.int .i64 kd, .int .i64 nm, .int .i64 af] 31 (0, 0))
        obtain ⟨w3, hw3⟩ : ∃ w3, w3 = wr.alloc (.cells #[.int .i64 kd, .int .i64 nm, .int .i64 af] 31 (0, 0)) := ⟨_, rfl⟩
        have HP3 : Hid (PairOK w.heap.size w3 c r now L k bx) := by rw [hw3]; exact hp3
        have HX3 : Hid (w3.heap[bx]? = some (.cells #[.int .i64 kd, .int .i64 nm, .int .i64 af] 31 (0, 0))) := by rw [hw3]; exact hx3
        have HB3 : Hid (Below w.heap.size w w3) := by rw [hw3]; exact hb3
        have HWX := hide hw3
        have HBX := hide hbx
        have b1 := cell_of_row w3 bx 1 _ _ _ HX3.out
        have b2 := cell_of_row w3 bx 2 _ _ _ HX3.out
        simp only [List.getElem?_toArray, List.getElem?_cons_zero, List.getElem?_cons_succ] at b1 b2
        have hbl3 := lt_of_block HX3.out
        clear hx hv hcc hrange hal hp3 hx3 hb3 hw3 hbx
        have hkinds : kd = 0 ∨ kd = 1 ∨ kd = 2 ∨ ((kd == 0) = false ∧ (kd == 1) = false ∧ (kd == 2) = false) := by
          by_cases e0 : kd = 0
          · exact .inl e0
          · by_cases e1 : kd = 1
            · exact .inr (.inl e1)
            · by_cases e2 : kd = 2
              · exact .inr (.inr (.inl e2))
              · exact .inr (.inr (.inr ⟨by rw [beq_eq_false_iff_ne]; exact e0, by rw [beq_eq_false_iff_ne]; exact e1, by rw [beq_eq_false_iff_ne]; exact e2⟩))
        rcases hkinds with rfl | rfl | rfl | ⟨q0, q1, q2⟩
        · obtain ⟨ns, L', HBT⟩ := pair_tick HP3.out (by omega)
          go_wp2_with (refine wpList_load_mid (by rfl) 31 _ (by rfl) b (off + k * 3) (by rfl) _ _ HR.out Try.underlying31 (by rfl) (by kernel_rfl) ?_)
          rw [← HWX.out, ← HBX.out]
          refine HBT.out.mono ?_
          rintro e w4 ⟨A4, n4, c4, rfl, hn4, hb4, hc4⟩
          have HC4 := hide hc4
          clear hb4 hc4 HBT
          go_wp2_with (fail)
          refine HC4.out.mono ?_
          rintro e w5 ⟨A5, n5, c5, rfl, hn5, hi4, hi5, hk5, hb5, hp5⟩
          have CI := hide (refints_any A4 A5 n4 c4 n5 c5 w5.heap.size w5.heap.size ns ns w5 hi4 hi5 (by omega) (by omega))
          rw [eqI_self] at CI
          have HK5 := hide hk5
          have HB5 := hide hb5
          have HP5 := hide hp5
          clear hi4 hi5 hk5 hb5 hp5 HC4
          go_wp2_with (fail)
          refine CI.out.mono ?_
          rintro e w6 ⟨rfl, q6, rfl⟩
          obtain ⟨wx, hwx⟩ : ∃ wx, wx = w5.drewN q6 := ⟨_, rfl⟩
          have HPX : Hid (PairOK w.heap.size wx c r (now + 1) L' (k + 1) bx) := by rw [hwx]; exact (HP5.out.later (below_drewN _ _ _)).more (by omega)
          have HXX : Hid (wx.heap[bx]? = some (.cells #[.int .i64 0, .int .i64 nm, .int .i64 af] 31 (0, 0))) := by rw [hwx]; exact (HK5.out.2 bx hbl3 rfl).trans HX3.out
          have HBB : Hid (Below w.heap.size w wx) := by rw [hwx]; exact (HB3.out.trans HB5.out).trans (below_drewN _ _ _)
          have hnw0 : 0 ≤ now + 1 := by omega
          have hnw1 : now + 1 ≤ (k : Int) + 1 := by omega
          obtain ⟨nw, hnw⟩ : ∃ nw, nw = now + 1 := ⟨_, rfl⟩
          rw [← hnw] at HPX hnw0 hnw1
          rw [← hwx]
          clear hwx hnw HP5 HK5 HB5 CI b1 b2 HWX HBX
          go_wp2
          refine wp_region_L (by kernel_rfl) ?_
          refine wpAnyL_take (i := 0) (d := some 56) (v := ?vaa0) rfl rfl (by kernel_rfl) (by kernel_rfl) (by kernel_rfl) (fun _ _ _ h => h) (by rfl) ?yaa0 ?_
          case yaa0 => (intro w' hw'; go_simp; try (with_reducible rfl))
          simp only [Act.put]; try simp only [List.setIfInBounds_toArray]; try simp only [List.set_cons_zero, List.set_cons_succ]
          refine wpAnyL_take (i := 1) (d := some 57) (v := ?vaa1) rfl rfl (by kernel_rfl) (by kernel_rfl) (by kernel_rfl) (fun _ _ _ h => h) (by rfl) ?yaa1 ?_
          case yaa1 => (intro w' hw'; go_simp; try (with_reducible rfl))
          simp only [Act.put]; try simp only [List.setIfInBounds_toArray]; try simp only [List.set_cons_zero, List.set_cons_succ]
          refine wpAnyL_take (i := 2) (d := some 58) (v := ?vaa2) rfl rfl (by kernel_rfl) (by kernel_rfl) (by kernel_rfl) (fun _ _ _ h => h) (by rfl) ?yaa2 ?_
          case yaa2 => (intro w' hw'; go_simp; try (with_reducible rfl))
          simp only [Act.put]; try simp only [List.setIfInBounds_toArray]; try simp only [List.set_cons_zero, List.set_cons_succ]
          refine wpAnyL_take (i := 3) (d := some 59) (v := ?vaa3) rfl rfl (by kernel_rfl) (by kernel_rfl) (by kernel_rfl) (fun _ _ _ h => h) (by rfl) ?yaa3 ?_
          case yaa3 => (intro w' hw'; go_simp; try (with_reducible rfl))
          simp only [Act.put]; try simp only [List.setIfInBounds_toArray]; try simp only [List.set_cons_zero, List.set_cons_succ]
          refine wpAnyL_take (i := 5) (d := some 61) (v := ?vaa5) rfl rfl (by kernel_rfl) (by kernel_rfl) (by kernel_rfl) (fun _ _ _ h => h) (by rfl) ?yaa5 ?_
          case yaa5 => (intro w' hw'; go_simp; try (with_reducible rfl))
          simp only [Act.put]; try simp only [List.setIfInBounds_toArray]; try simp only [List.set_cons_zero, List.set_cons_succ]
          refine wpAnyL_take (i := 6) (d := some 62) (v := ?vaa6) rfl rfl (by kernel_rfl) (by kernel_rfl) (by kernel_rfl) (fun _ _ _ h => h) (by rfl) ?yaa6 ?_
          case yaa6 => (intro w' hw'; go_simp; try (with_reducible rfl))
          simp only [Act.put]; try simp only [List.setIfInBounds_toArray]; try simp only [List.set_cons_zero, List.set_cons_succ]
          refine wpAnyL_take (i := 7) (d := some 63) (v := ?vaa7) rfl rfl (by kernel_rfl) (by kernel_rfl) (by kernel_rfl) (fun _ _ _ h => h) (by rfl) ?yaa7 ?_
          case yaa7 => (intro w' hw'; go_simp; try (with_reducible rfl))
          simp only [Act.put]; try simp only [List.setIfInBounds_toArray]; try simp only [List.set_cons_zero, List.set_cons_succ]
          refine wpAnyL_take (i := 8) (d := some 64) (v := ?vaa8) rfl rfl (by kernel_rfl) (by kernel_rfl) (by kernel_rfl) (fun _ _ _ h => h) (by rfl) ?yaa8 ?_
          case yaa8 => (intro w' hw'; have hc := (HPX.out.later (w' := w') ((Below.refl wx.heap.size wx).drew.trans hw')).cell; go_simp; try (with_reducible rfl))
          simp only [Act.put]; try simp only [List.setIfInBounds_toArray]; try simp only [List.set_cons_zero, List.set_cons_succ]
          refine wpAnyL_only (i := 4) rfl (by kernel_rfl) (by rfl) fun K hK => ?_
          go_simp
          refine (pair_now (HPX.out.later (Below.refl wx.heap.size wx).drew)).mono ?_
          rintro e w7 ⟨rfl, rfl⟩
          refine hK.out _ _ (Later.refl _) ?_
          clear hK K
          try (simp only [Act.put]; try simp only [List.setIfInBounds_toArray]; try simp only [List.set_cons_zero, List.set_cons_succ])
          refine wpAnyL_take (i := 9) (d := some 65) (v := ?vaa9) rfl rfl (by kernel_rfl) (by kernel_rfl) (by kernel_rfl) (fun _ _ _ h => h) (by rfl) ?yaa9 ?_
          case yaa9 => (intro w' hw'; go_simp; try (with_reducible rfl))
          simp only [Act.put]; try simp only [List.setIfInBounds_toArray]; try simp only [List.set_cons_zero, List.set_cons_succ]
          refine wpAnyL_take (i := 10) (d := some 66) (v := ?vaa10) rfl rfl (by kernel_rfl) (by kernel_rfl) (by kernel_rfl) (fun _ _ _ h => h) (by rfl) ?yaa10 ?_
          case yaa10 => (intro w' hw'; go_simp; try (with_reducible rfl))
          simp only [Act.put]; try simp only [List.setIfInBounds_toArray]; try simp only [List.set_cons_zero, List.set_cons_succ]
          refine wpAnyL_take (i := 11) (d := some 67) (v := ?vaa11) rfl rfl (by kernel_rfl) (by kernel_rfl) (by kernel_rfl) (fun _ _ _ h => h) (by rfl) ?yaa11 ?_
          case yaa11 => (intro w' hw'; go_simp; try (with_reducible rfl))
          simp only [Act.put]; try simp only [List.setIfInBounds_toArray]; try simp only [List.set_cons_zero, List.set_cons_succ]
          refine wpAnyL_take (i := 12) (d := some 68) (v := ?vaa12) rfl rfl (by kernel_rfl) (by kernel_rfl) (by kernel_rfl) (fun _ _ _ h => h) (by rfl) ?yaa12 ?_
          case yaa12 => (intro w' hw'; go_simp; try (with_reducible rfl))
          simp only [Act.put]; try simp only [List.setIfInBounds_toArray]; try simp only [List.set_cons_zero, List.set_cons_succ]
          refine wpAnyL_take (i := 13) (d := some 69) (v := ?vaa13) rfl rfl (by kernel_rfl) (by kernel_rfl) (by kernel_rfl) (fun _ _ _ h => h) (by rfl) ?yaa13 ?_
          case yaa13 => (intro w' hw'; go_simp; try (with_reducible rfl))
          simp only [Act.put]; try simp only [List.setIfInBounds_toArray]; try simp only [List.set_cons_zero, List.set_cons_succ]
          refine wpAnyL_take (i := 14) (d := some 70) (v := ?vaa14) rfl rfl (by kernel_rfl) (by kernel_rfl) (by kernel_rfl) (fun _ _ _ h => h) (by rfl) ?yaa14 ?_
          case yaa14 => (intro w' hw'; have hlt : Below wx.heap.size wx w' := (Below.refl wx.heap.size wx).drew.trans hw'; have hc := cell_of_row w' bx 1 _ _ _ ((hlt.block bx (lt_of_block HXX.out)).trans HXX.out); simp only [List.getElem?_toArray, List.getElem?_cons_zero, List.getElem?_cons_succ] at hc; clear hlt; go_simp; try (with_reducible rfl))
          simp only [Act.put]; try simp only [List.setIfInBounds_toArray]; try simp only [List.set_cons_zero, List.set_cons_succ]
          refine wpAnyL_take (i := 16) (d := some 72) (v := ?vaa16) rfl rfl (by kernel_rfl) (by kernel_rfl) (by kernel_rfl) (fun _ _ _ h => h) (by rfl) ?yaa16 ?_
          case yaa16 => (intro w' hw'; go_simp; try (with_reducible rfl))
          simp only [Act.put]; try simp only [List.setIfInBounds_toArray]; try simp only [List.set_cons_zero, List.set_cons_succ]
          refine wpAnyL_take (i := 17) (d := some 73) (v := ?vaa17) rfl rfl (by kernel_rfl) (by kernel_rfl) (by kernel_rfl) (fun _ _ _ h => h) (by rfl) ?yaa17 ?_
          case yaa17 => (intro w' hw'; go_simp; try (with_reducible rfl))
          simp only [Act.put]; try simp only [List.setIfInBounds_toArray]; try simp only [List.set_cons_zero, List.set_cons_succ]
          refine wpAnyL_take (i := 18) (d := some 74) (v := ?vaa18) rfl rfl (by kernel_rfl) (by kernel_rfl) (by kernel_rfl) (fun _ _ _ h => h) (by rfl) ?yaa18 ?_
          case yaa18 => (intro w' hw'; have hlt : Below wx.heap.size wx w' := (Below.refl wx.heap.size wx).drew.trans hw'; have hc := cell_of_row w' bx 1 _ _ _ ((hlt.block bx (lt_of_block HXX.out)).trans HXX.out); simp only [List.getElem?_toArray, List.getElem?_cons_zero, List.getElem?_cons_succ] at hc; clear hlt; go_simp; try (with_reducible rfl))
          simp only [Act.put]; try simp only [List.setIfInBounds_toArray]; try simp only [List.set_cons_zero, List.set_cons_succ]
          refine wpAnyL_only (i := 15) rfl (by kernel_rfl) (by rfl) fun K hK => ?_
          go_simp
          refine (pair_left nm (HPX.out.later (Below.refl wx.heap.size wx).drew) n1 n2).mono ?_
          rintro e w7 ⟨rfl, hb7⟩
          have L7 : Hid (Below wx.heap.size wx w7) := (Below.refl wx.heap.size wx).drew.trans hb7
          refine hK.out _ _ hb7 ?_
          clear hb7
          clear hK K
          try (simp only [Act.put]; try simp only [List.setIfInBounds_toArray]; try simp only [List.set_cons_zero, List.set_cons_succ])
          refine wpAnyL_only (i := 19) rfl (by kernel_rfl) (by rfl) fun K hK => ?_
          go_simp
          refine (pair_refleft nm (HPX.out.later L7.out)).mono ?_
          rintro e w8 ⟨rfl, hb8⟩
          have L8 : Hid (Below wx.heap.size wx w8) := L7.out.trans (hb8.mono L7.out.size)
          refine hK.out _ _ hb8 ?_
          clear hb8
          clear hK K
          try (simp only [Act.put]; try simp only [List.setIfInBounds_toArray]; try simp only [List.set_cons_zero, List.set_cons_succ])
          refine wpAnyL_take (i := 20) (d := some 76) (v := ?vaa20) rfl rfl (by kernel_rfl) (by kernel_rfl) (by kernel_rfl) (fun _ _ _ h => h) (by rfl) ?yaa20 ?_
          case yaa20 => (intro w' hw'; go_simp; try (with_reducible rfl))
          simp only [Act.put]; try simp only [List.setIfInBounds_toArray]; try simp only [List.set_cons_zero, List.set_cons_succ]
          refine wpAnyL_take (i := 21) (d := some 77) (v := ?vaa21) rfl rfl (by kernel_rfl) (by kernel_rfl) (by kernel_rfl) (fun _ _ _ h => h) (by rfl) ?yaa21 ?_
          case yaa21 => (intro w' hw'; go_simp; try (with_reducible rfl))
          simp only [Act.put]; try simp only [List.setIfInBounds_toArray]; try simp only [List.set_cons_zero, List.set_cons_succ]
          refine wpAnyL_take (i := 22) (d := some 78) (v := ?vaa22) rfl rfl (by kernel_rfl) (by kernel_rfl) (by kernel_rfl) (fun _ _ _ h => h) (by rfl) ?yaa22 ?_
          case yaa22 => (intro w' hw'; go_simp; try (with_reducible rfl))
          simp only [Act.put]; try simp only [List.setIfInBounds_toArray]; try simp only [List.set_cons_zero, List.set_cons_succ]
          refine wpAnyL_take (i := 23) (d := some 79) (v := ?vaa23) rfl rfl (by kernel_rfl) (by kernel_rfl) (by kernel_rfl) (fun _ _ _ h => h) (by rfl) ?yaa23 ?_
          case yaa23 => (intro w' hw'; go_simp; try (with_reducible rfl))
          simp only [Act.put]; try simp only [List.setIfInBounds_toArray]; try simp only [List.set_cons_zero, List.set_cons_succ]
          refine wpAnyL_take (i := 25) (d := some 81) (v := ?vaa25) rfl rfl (by kernel_rfl) (by kernel_rfl) (by kernel_rfl) (fun _ _ _ h => h) (by rfl) ?yaa25 ?_
          case yaa25 => (intro w' hw'; go_simp; try (with_reducible rfl))
          simp only [Act.put]; try simp only [List.setIfInBounds_toArray]; try simp only [List.set_cons_zero, List.set_cons_succ]
          refine wpAnyL_only (i := 24) rfl (by kernel_rfl) (by rfl) fun K hK => ?_
          go_simp
          refine (pair_names (HPX.out.later L8.out)).mono ?_
          rintro e w9 ⟨A9, n9, c9, rfl, _, hi9, hn9, hb9⟩
          have L9 : Hid (Below wx.heap.size wx w9) := L8.out.trans (hb9.mono L8.out.size)
          have HI9 := hide hi9
          refine hK.out _ _ hb9 ?_
          clear hi9 hb9
          clear hK K
          try (simp only [Act.put]; try simp only [List.setIfInBounds_toArray]; try simp only [List.set_cons_zero, List.set_cons_succ])
          refine wpAnyL_only (i := 26) rfl (by kernel_rfl) (by rfl) fun K hK => ?_
          go_simp
          refine (pair_refnames (HPX.out.later L9.out)).mono ?_
          rintro e w10 ⟨A10, n10, c10, rfl, _, hi10, hn10, hb10⟩
          have L10 : Hid (Below wx.heap.size wx w10) := L9.out.trans (hb10.mono L9.out.size)
          have HI10 := hide hi10
          have HI9b := hide (HI9.out.below hb10)
          refine hK.out _ _ hb10 ?_
          clear hi10 hb10
          clear hK K
          try (simp only [Act.put]; try simp only [List.setIfInBounds_toArray]; try simp only [List.set_cons_zero, List.set_cons_succ])
          refine wpAnyL_only (i := 27) rfl (by kernel_rfl) (by rfl) fun K hK => ?_
          go_simp
          refine (refints_any A9 A10 n9 c9 n10 c10 w9.heap.size w10.heap.size _ _ w10 HI9b.out HI10.out (by have := HI9b.out.1; rw [namesT_len] at this; have := HPX.out.len; omega) (by have := HI10.out.1; rw [namesT_len] at this; have := HPX.out.len; omega)).mono ?_
          rw [eqI_self]
          rintro e w11 ⟨rfl, q11, rfl⟩
          refine hK.out _ _ (below_drewN _ _ _) ?_
          clear hK K
          try (simp only [Act.put]; try simp only [List.setIfInBounds_toArray]; try simp only [List.set_cons_zero, List.set_cons_succ])
          refine wpAnyL_take (i := 28) (d := some 84) (v := ?vaa28) rfl rfl (by kernel_rfl) (by kernel_rfl) (by kernel_rfl) (fun _ _ _ h => h) (by rfl) ?yaa28 ?_
          case yaa28 => (intro w' hw'; go_simp; try (with_reducible rfl))
          simp only [Act.put]; try simp only [List.setIfInBounds_toArray]; try simp only [List.set_cons_zero, List.set_cons_succ]
          refine wpAnyL_take (i := 29) (d := some 85) (v := ?vaa29) rfl rfl (by kernel_rfl) (by kernel_rfl) (by kernel_rfl) (fun _ _ _ h => h) (by rfl) ?yaa29 ?_
          case yaa29 => (intro w' hw'; go_simp; try (with_reducible rfl))
          simp only [Act.put]; try simp only [List.setIfInBounds_toArray]; try simp only [List.set_cons_zero, List.set_cons_succ]
          refine wpAnyL_done (by kernel_rfl) ?_ _
          have HPE := hide (HPX.out.later (L10.out.trans (below_drewN _ w10 q11))).drop
          have HBE := hide (HBB.out.trans ((L10.out.trans (below_drewN _ w10 q11)).mono HBB.out.size))
          go_wp2
          go_roundw
          case rel => exact ⟨k + 1, nw, _, by go_num, by omega, hnw0, by omega, HPE.out, HBE.out⟩
          case measure => simp [intOf]; omega
        · obtain ⟨x, L', HBO⟩ := pair_set nm af (HP3.out.later (Below.refl w3.heap.size w3).drew) (by omega) n1 n2
          go_wp2_with (refine wpList_load_mid (by rfl) 31 _ (by rfl) b (off + k * 3) (by rfl) _ _ HR.out Try.underlying31 (by rfl) (by kernel_rfl) ?_)
          rw [← HWX.out, ← HBX.out]
          refine wp_region_R (R := fun a b => Kept (fun i => i = bx) a b) (by kernel_rfl) ?_
          refine wpAnyR_take (pre_kept (fun i => i = bx)) (i := 0) (d := some 32) (v := ?vas0) rfl rfl (by kernel_rfl) (by kernel_rfl) (by kernel_rfl) (fun _ _ _ h => h) (by rfl) ?yas0 ?_
          case yas0 => (intro w' hw'; go_simp; try (with_reducible rfl))
          simp only [Act.put]; try simp only [List.setIfInBounds_toArray]; try simp only [List.set_cons_zero, List.set_cons_succ]
          refine wpAnyR_take (pre_kept (fun i => i = bx)) (i := 1) (d := some 33) (v := ?vas1) rfl rfl (by kernel_rfl) (by kernel_rfl) (by kernel_rfl) (fun _ _ _ h => h) (by rfl) ?yas1 ?_
          case yas1 => (intro w' hw'; go_simp; try (with_reducible rfl))
          simp only [Act.put]; try simp only [List.setIfInBounds_toArray]; try simp only [List.set_cons_zero, List.set_cons_succ]
          refine wpAnyR_take (pre_kept (fun i => i = bx)) (i := 2) (d := some 34) (v := ?vas2) rfl rfl (by kernel_rfl) (by kernel_rfl) (by kernel_rfl) (fun _ _ _ h => h) (by rfl) ?yas2 ?_
          case yas2 => (intro w' hw'; have hc := (Kept.cell hw' (b := bx) (o := 1) hbl3 rfl).trans b1; go_simp; try (with_reducible rfl))
          simp only [Act.put]; try simp only [List.setIfInBounds_toArray]; try simp only [List.set_cons_zero, List.set_cons_succ]
          refine wpAnyR_take (pre_kept (fun i => i = bx)) (i := 3) (d := some 35) (v := ?vas3) rfl rfl (by kernel_rfl) (by kernel_rfl) (by kernel_rfl) (fun _ _ _ h => h) (by rfl) ?yas3 ?_
          case yas3 => (intro w' hw'; go_simp; try (with_reducible rfl))
          simp only [Act.put]; try simp only [List.setIfInBounds_toArray]; try simp only [List.set_cons_zero, List.set_cons_succ]
          refine wpAnyR_take (pre_kept (fun i => i = bx)) (i := 4) (d := some 36) (v := ?vas4) rfl rfl (by kernel_rfl) (by kernel_rfl) (by kernel_rfl) (fun _ _ _ h => h) (by rfl) ?yas4 ?_
          case yas4 => (intro w' hw'; have hc := (Kept.cell hw' (b := bx) (o := 2) hbl3 rfl).trans b2; go_simp; try (with_reducible rfl))
          simp only [Act.put]; try simp only [List.setIfInBounds_toArray]; try simp only [List.set_cons_zero, List.set_cons_succ]
          refine wpAnyR_take (pre_kept (fun i => i = bx)) (i := 6) (d := some 38) (v := ?vas6) rfl rfl (by kernel_rfl) (by kernel_rfl) (by kernel_rfl) (fun _ _ _ h => h) (by rfl) ?yas6 ?_
          case yas6 => (intro w' hw'; go_simp; try (with_reducible rfl))
          simp only [Act.put]; try simp only [List.setIfInBounds_toArray]; try simp only [List.set_cons_zero, List.set_cons_succ]
          refine wpAnyR_take (pre_kept (fun i => i = bx)) (i := 7) (d := some 39) (v := ?vas7) rfl rfl (by kernel_rfl) (by kernel_rfl) (by kernel_rfl) (fun _ _ _ h => h) (by rfl) ?yas7 ?_
          case yas7 => (intro w' hw'; go_simp; try (with_reducible rfl))
          simp only [Act.put]; try simp only [List.setIfInBounds_toArray]; try simp only [List.set_cons_zero, List.set_cons_succ]
          refine wpAnyR_take (pre_kept (fun i => i = bx)) (i := 8) (d := some 40) (v := ?vas8) rfl rfl (by kernel_rfl) (by kernel_rfl) (by kernel_rfl) (fun _ _ _ h => h) (by rfl) ?yas8 ?_
          case yas8 => (intro w' hw'; have hc := (Kept.cell hw' (b := bx) (o := 1) hbl3 rfl).trans b1; go_simp; try (with_reducible rfl))
          simp only [Act.put]; try simp only [List.setIfInBounds_toArray]; try simp only [List.set_cons_zero, List.set_cons_succ]
          refine wpAnyR_take (pre_kept (fun i => i = bx)) (i := 9) (d := some 41) (v := ?vas9) rfl rfl (by kernel_rfl) (by kernel_rfl) (by kernel_rfl) (fun _ _ _ h => h) (by rfl) ?yas9 ?_
          case yas9 => (intro w' hw'; go_simp; try (with_reducible rfl))
          simp only [Act.put]; try simp only [List.setIfInBounds_toArray]; try simp only [List.set_cons_zero, List.set_cons_succ]
          refine wpAnyR_take (pre_kept (fun i => i = bx)) (i := 10) (d := some 42) (v := ?vas10) rfl rfl (by kernel_rfl) (by kernel_rfl) (by kernel_rfl) (fun _ _ _ h => h) (by rfl) ?yas10 ?_
          case yas10 => (intro w' hw'; have hc := (Kept.cell hw' (b := bx) (o := 2) hbl3 rfl).trans b2; go_simp; try (with_reducible rfl))
          simp only [Act.put]; try simp only [List.setIfInBounds_toArray]; try simp only [List.set_cons_zero, List.set_cons_succ]
          refine wpAnyR_only (i := 5) rfl (by kernel_rfl) (by rfl) fun K hK => ?_
          go_simp
          refine HBO.out.mono ?_
          rintro e w5 ⟨rfl, hk5, hb5, hc5⟩
          have HC5 := hide hc5
          have HK5 := hide hk5
          clear hk5 hb5 hc5
          refine hK.out _ _ HK5.out ?_
          clear hK K
          try (simp only [Act.put]; try simp only [List.setIfInBounds_toArray]; try simp only [List.set_cons_zero, List.set_cons_succ])
          refine wpAnyR_only (i := 11) rfl (by kernel_rfl) (by rfl) fun K hK => ?_
          go_simp
          refine HC5.out.mono ?_
          rintro e w6 ⟨rfl, hk6, hb6, hp6⟩
          have HP6 := hide hp6
          have HK6 : Hid (Kept (fun i => i = bx) w3 w6) := ((Kept.drew _ w3).trans HK5.out).trans hk6
          have HB6 : Hid (Below w.heap.size w3 w6) := (Below.refl _ _).drew.trans hb6
          have hk6' : Kept (fun i => i = bx) w5 w6 := hk6
          clear hk6 hb6 hp6
          refine hK.out _ _ hk6' ?_
          clear hk6'
          clear hK K
          try (simp only [Act.put]; try simp only [List.setIfInBounds_toArray]; try simp only [List.set_cons_zero, List.set_cons_succ])
          refine wpAnyR_take (pre_kept (fun i => i = bx)) (i := 12) (d := some 44) (v := ?vas12) rfl rfl (by kernel_rfl) (by kernel_rfl) (by kernel_rfl) (fun _ _ _ h => h) (by rfl) ?yas12 ?_
          case yas12 => (intro w' hw'; go_simp; try (with_reducible rfl))
          simp only [Act.put]; try simp only [List.setIfInBounds_toArray]; try simp only [List.set_cons_zero, List.set_cons_succ]
          refine wpAnyR_take (pre_kept (fun i => i = bx)) (i := 13) (d := some 7) (v := ?vas13) rfl rfl (by kernel_rfl) (by kernel_rfl) (by kernel_rfl) (fun _ _ _ h => h) (by rfl) ?yas13 ?_
          case yas13 => (intro w' hw'; go_simp; try (with_reducible rfl))
          simp only [Act.put]; try simp only [List.setIfInBounds_toArray]; try simp only [List.set_cons_zero, List.set_cons_succ]
          refine wpAnyR_done (by kernel_rfl) ?_ _
          go_wp2
          obtain ⟨wx, hwx⟩ : ∃ wx, wx = w6 := ⟨_, rfl⟩
          have HPX : Hid (PairOK w.heap.size wx c r now L' (k + 1) bx) := by rw [hwx]; exact HP6.out
          have HXX : Hid (wx.heap[bx]? = some (.cells #[.int .i64 1, .int .i64 nm, .int .i64 af] 31 (0, 0))) := by rw [hwx]; exact (HK6.out.2 bx hbl3 rfl).trans HX3.out
          have HBB : Hid (Below w.heap.size w wx) := by rw [hwx]; exact HB3.out.trans HB6.out
          have hnw0 : 0 ≤ now := by omega
          have hnw1 : now ≤ (k : Int) + 1 := by omega
          obtain ⟨nw, hnw⟩ : ∃ nw, nw = now := ⟨_, rfl⟩
          rw [← hnw] at HPX hnw0 hnw1
          rw [← hwx]
          clear hwx hnw HP6 HK6 HB6 b1 b2 HWX HBX HBO
          go_wp2
          refine wp_region_L (by kernel_rfl) ?_
          refine wpAnyL_take (i := 0) (d := some 56) (v := ?vab0) rfl rfl (by kernel_rfl) (by kernel_rfl) (by kernel_rfl) (fun _ _ _ h => h) (by rfl) ?yab0 ?_
          case yab0 => (intro w' hw'; go_simp; try (with_reducible rfl))
          simp only [Act.put]; try simp only [List.setIfInBounds_toArray]; try simp only [List.set_cons_zero, List.set_cons_succ]
          refine wpAnyL_take (i := 1) (d := some 57) (v := ?vab1) rfl rfl (by kernel_rfl) (by kernel_rfl) (by kernel_rfl) (fun _ _ _ h => h) (by rfl) ?yab1 ?_
          case yab1 => (intro w' hw'; go_simp; try (with_reducible rfl))
          simp only [Act.put]; try simp only [List.setIfInBounds_toArray]; try simp only [List.set_cons_zero, List.set_cons_succ]
          refine wpAnyL_take (i := 2) (d := some 58) (v := ?vab2) rfl rfl (by kernel_rfl) (by kernel_rfl) (by kernel_rfl) (fun _ _ _ h => h) (by rfl) ?yab2 ?_
          case yab2 => (intro w' hw'; go_simp; try (with_reducible rfl))
          simp only [Act.put]; try simp only [List.setIfInBounds_toArray]; try simp only [List.set_cons_zero, List.set_cons_succ]
          refine wpAnyL_take (i := 3) (d := some 59) (v := ?vab3) rfl rfl (by kernel_rfl) (by kernel_rfl) (by kernel_rfl) (fun _ _ _ h => h) (by rfl) ?yab3 ?_
          case yab3 => (intro w' hw'; go_simp; try (with_reducible rfl))
          simp only [Act.put]; try simp only [List.setIfInBounds_toArray]; try simp only [List.set_cons_zero, List.set_cons_succ]
          refine wpAnyL_take (i := 5) (d := some 61) (v := ?vab5) rfl rfl (by kernel_rfl) (by kernel_rfl) (by kernel_rfl) (fun _ _ _ h => h) (by rfl) ?yab5 ?_
          case yab5 => (intro w' hw'; go_simp; try (with_reducible rfl))
          simp only [Act.put]; try simp only [List.setIfInBounds_toArray]; try simp only [List.set_cons_zero, List.set_cons_succ]
          refine wpAnyL_take (i := 6) (d := some 62) (v := ?vab6) rfl rfl (by kernel_rfl) (by kernel_rfl) (by kernel_rfl) (fun _ _ _ h => h) (by rfl) ?yab6 ?_
          case yab6 => (intro w' hw'; go_simp; try (with_reducible rfl))
          simp only [Act.put]; try simp only [List.setIfInBounds_toArray]; try simp only [List.set_cons_zero, List.set_cons_succ]
          refine wpAnyL_take (i := 7) (d := some 63) (v := ?vab7) rfl rfl (by kernel_rfl) (by kernel_rfl) (by kernel_rfl) (fun _ _ _ h => h) (by rfl) ?yab7 ?_
          case yab7 => (intro w' hw'; go_simp; try (with_reducible rfl))
          simp only [Act.put]; try simp only [List.setIfInBounds_toArray]; try simp only [List.set_cons_zero, List.set_cons_succ]
          refine wpAnyL_take (i := 8) (d := some 64) (v := ?vab8) rfl rfl (by kernel_rfl) (by kernel_rfl) (by kernel_rfl) (fun _ _ _ h => h) (by rfl) ?yab8 ?_
          case yab8 => (intro w' hw'; have hc := (HPX.out.later (w' := w') ((Below.refl wx.heap.size wx).drew.trans hw')).cell; go_simp; try (with_reducible rfl))
          simp only [Act.put]; try simp only [List.setIfInBounds_toArray]; try simp only [List.set_cons_zero, List.set_cons_succ]
          refine wpAnyL_only (i := 4) rfl (by kernel_rfl) (by rfl) fun K hK => ?_
          go_simp
          refine (pair_now (HPX.out.later (Below.refl wx.heap.size wx).drew)).mono ?_
          rintro e w7 ⟨rfl, rfl⟩
          refine hK.out _ _ (Later.refl _) ?_
          clear hK K
          try (simp only [Act.put]; try simp only [List.setIfInBounds_toArray]; try simp only [List.set_cons_zero, List.set_cons_succ])
          refine wpAnyL_take (i := 9) (d := some 65) (v := ?vab9) rfl rfl (by kernel_rfl) (by kernel_rfl) (by kernel_rfl) (fun _ _ _ h => h) (by rfl) ?yab9 ?_
          case yab9 => (intro w' hw'; go_simp; try (with_reducible rfl))
          simp only [Act.put]; try simp only [List.setIfInBounds_toArray]; try simp only [List.set_cons_zero, List.set_cons_succ]
          refine wpAnyL_take (i := 10) (d := some 66) (v := ?vab10) rfl rfl (by kernel_rfl) (by kernel_rfl) (by kernel_rfl) (fun _ _ _ h => h) (by rfl) ?yab10 ?_
          case yab10 => (intro w' hw'; go_simp; try (with_reducible rfl))
          simp only [Act.put]; try simp only [List.setIfInBounds_toArray]; try simp only [List.set_cons_zero, List.set_cons_succ]
          refine wpAnyL_take (i := 11) (d := some 67) (v := ?vab11) rfl rfl (by kernel_rfl) (by kernel_rfl) (by kernel_rfl) (fun _ _ _ h => h) (by rfl) ?yab11 ?_
          case yab11 => (intro w' hw'; go_simp; try (with_reducible rfl))
          simp only [Act.put]; try simp only [List.setIfInBounds_toArray]; try simp only [List.set_cons_zero, List.set_cons_succ]
          refine wpAnyL_take (i := 12) (d := some 68) (v := ?vab12) rfl rfl (by kernel_rfl) (by kernel_rfl) (by kernel_rfl) (fun _ _ _ h => h) (by rfl) ?yab12 ?_
          case yab12 => (intro w' hw'; go_simp; try (with_reducible rfl))
          simp only [Act.put]; try simp only [List.setIfInBounds_toArray]; try simp only [List.set_cons_zero, List.set_cons_succ]
          refine wpAnyL_take (i := 13) (d := some 69) (v := ?vab13) rfl rfl (by kernel_rfl) (by kernel_rfl) (by kernel_rfl) (fun _ _ _ h => h) (by rfl) ?yab13 ?_
          case yab13 => (intro w' hw'; go_simp; try (with_reducible rfl))
          simp only [Act.put]; try simp only [List.setIfInBounds_toArray]; try simp only [List.set_cons_zero, List.set_cons_succ]
          refine wpAnyL_take (i := 14) (d := some 70) (v := ?vab14) rfl rfl (by kernel_rfl) (by kernel_rfl) (by kernel_rfl) (fun _ _ _ h => h) (by rfl) ?yab14 ?_
          case yab14 => (intro w' hw'; have hlt : Below wx.heap.size wx w' := (Below.refl wx.heap.size wx).drew.trans hw'; have hc := cell_of_row w' bx 1 _ _ _ ((hlt.block bx (lt_of_block HXX.out)).trans HXX.out); simp only [List.getElem?_toArray, List.getElem?_cons_zero, List.getElem?_cons_succ] at hc; clear hlt; go_simp; try (with_reducible rfl))
          simp only [Act.put]; try simp only [List.setIfInBounds_toArray]; try simp only [List.set_cons_zero, List.set_cons_succ]
          refine wpAnyL_take (i := 16) (d := some 72) (v := ?vab16) rfl rfl (by kernel_rfl) (by kernel_rfl) (by kernel_rfl) (fun _ _ _ h => h) (by rfl) ?yab16 ?_
          case yab16 => (intro w' hw'; go_simp; try (with_reducible rfl))
          simp only [Act.put]; try simp only [List.setIfInBounds_toArray]; try simp only [List.set_cons_zero, List.set_cons_succ]
          refine wpAnyL_take (i := 17) (d := some 73) (v := ?vab17) rfl rfl (by kernel_rfl) (by kernel_rfl) (by kernel_rfl) (fun _ _ _ h => h) (by rfl) ?yab17 ?_
          case yab17 => (intro w' hw'; go_simp; try (with_reducible rfl))
          simp only [Act.put]; try simp only [List.setIfInBounds_toArray]; try simp only [List.set_cons_zero, List.set_cons_succ]
          refine wpAnyL_take (i := 18) (d := some 74) (v := ?vab18) rfl rfl (by kernel_rfl) (by kernel_rfl) (by kernel_rfl) (fun _ _ _ h => h) (by rfl) ?yab18 ?_
          case yab18 => (intro w' hw'; have hlt : Below wx.heap.size wx w' := (Below.refl wx.heap.size wx).drew.trans hw'; have hc := cell_of_row w' bx 1 _ _ _ ((hlt.block bx (lt_of_block HXX.out)).trans HXX.out); simp only [List.getElem?_toArray, List.getElem?_cons_zero, List.getElem?_cons_succ] at hc; clear hlt; go_simp; try (with_reducible rfl))
          simp only [Act.put]; try simp only [List.setIfInBounds_toArray]; try simp only [List.set_cons_zero, List.set_cons_succ]
          refine wpAnyL_only (i := 15) rfl (by kernel_rfl) (by rfl) fun K hK => ?_
          go_simp
          refine (pair_left nm (HPX.out.later (Below.refl wx.heap.size wx).drew) n1 n2).mono ?_
          rintro e w7 ⟨rfl, hb7⟩
          have L7 : Hid (Below wx.heap.size wx w7) := (Below.refl wx.heap.size wx).drew.trans hb7
          refine hK.out _ _ hb7 ?_
          clear hb7
          clear hK K
          try (simp only [Act.put]; try simp only [List.setIfInBounds_toArray]; try simp only [List.set_cons_zero, List.set_cons_succ])
          refine wpAnyL_only (i := 19) rfl (by kernel_rfl) (by rfl) fun K hK => ?_
          go_simp
          refine (pair_refleft nm (HPX.out.later L7.out)).mono ?_
          rintro e w8 ⟨rfl, hb8⟩
          have L8 : Hid (Below wx.heap.size wx w8) := L7.out.trans (hb8.mono L7.out.size)
          refine hK.out _ _ hb8 ?_
          clear hb8
          clear hK K
          try (simp only [Act.put]; try simp only [List.setIfInBounds_toArray]; try simp only [List.set_cons_zero, List.set_cons_succ])
          refine wpAnyL_take (i := 20) (d := some 76) (v := ?vab20) rfl rfl (by kernel_rfl) (by kernel_rfl) (by kernel_rfl) (fun _ _ _ h => h) (by rfl) ?yab20 ?_
          case yab20 => (intro w' hw'; go_simp; try (with_reducible rfl))
          simp only [Act.put]; try simp only [List.setIfInBounds_toArray]; try simp only [List.set_cons_zero, List.set_cons_succ]
          refine wpAnyL_take (i := 21) (d := some 77) (v := ?vab21) rfl rfl (by kernel_rfl) (by kernel_rfl) (by kernel_rfl) (fun _ _ _ h => h) (by rfl) ?yab21 ?_
          case yab21 => (intro w' hw'; go_simp; try (with_reducible rfl))
          simp only [Act.put]; try simp only [List.setIfInBounds_toArray]; try simp only [List.set_cons_zero, List.set_cons_succ]
          refine wpAnyL_take (i := 22) (d := some 78) (v := ?vab22) rfl rfl (by kernel_rfl) (by kernel_rfl) (by kernel_rfl) (fun _ _ _ h => h) (by rfl) ?yab22 ?_
          case yab22 => (intro w' hw'; go_simp; try (with_reducible rfl))
          simp only [Act.put]; try simp only [List.setIfInBounds_toArray]; try simp only [List.set_cons_zero, List.set_cons_succ]
          refine wpAnyL_take (i := 23) (d := some 79) (v := ?vab23) rfl rfl (by kernel_rfl) (by kernel_rfl) (by kernel_rfl) (fun _ _ _ h => h) (by rfl) ?yab23 ?_
          case yab23 => (intro w' hw'; go_simp; try (with_reducible rfl))
          simp only [Act.put]; try simp only [List.setIfInBounds_toArray]; try simp only [List.set_cons_zero, List.set_cons_succ]
          refine wpAnyL_take (i := 25) (d := some 81) (v := ?vab25) rfl rfl (by kernel_rfl) (by kernel_rfl) (by kernel_rfl) (fun _ _ _ h => h) (by rfl) ?yab25 ?_
          case yab25 => (intro w' hw'; go_simp; try (with_reducible rfl))
          simp only [Act.put]; try simp only [List.setIfInBounds_toArray]; try simp only [List.set_cons_zero, List.set_cons_succ]
          refine wpAnyL_only (i := 24) rfl (by kernel_rfl) (by rfl) fun K hK => ?_
          go_simp
          refine (pair_names (HPX.out.later L8.out)).mono ?_
          rintro e w9 ⟨A9, n9, c9, rfl, _, hi9, hn9, hb9⟩
          have L9 : Hid (Below wx.heap.size wx w9) := L8.out.trans (hb9.mono L8.out.size)
          have HI9 := hide hi9
          refine hK.out _ _ hb9 ?_
          clear hi9 hb9
          clear hK K
          try (simp only [Act.put]; try simp only [List.setIfInBounds_toArray]; try simp only [List.set_cons_zero, List.set_cons_succ])
          refine wpAnyL_only (i := 26) rfl (by kernel_rfl) (by rfl) fun K hK => ?_
          go_simp
          refine (pair_refnames (HPX.out.later L9.out)).mono ?_
          rintro e w10 ⟨A10, n10, c10, rfl, _, hi10, hn10, hb10⟩
          have L10 : Hid (Below wx.heap.size wx w10) := L9.out.trans (hb10.mono L9.out.size)
          have HI10 := hide hi10
          have HI9b := hide (HI9.out.below hb10)
          refine hK.out _ _ hb10 ?_
          clear hi10 hb10
          clear hK K
          try (simp only [Act.put]; try simp only [List.setIfInBounds_toArray]; try simp only [List.set_cons_zero, List.set_cons_succ])
          refine wpAnyL_only (i := 27) rfl (by kernel_rfl) (by rfl) fun K hK => ?_
          go_simp
          refine (refints_any A9 A10 n9 c9 n10 c10 w9.heap.size w10.heap.size _ _ w10 HI9b.out HI10.out (by have := HI9b.out.1; rw [namesT_len] at this; have := HPX.out.len; omega) (by have := HI10.out.1; rw [namesT_len] at this; have := HPX.out.len; omega)).mono ?_
          rw [eqI_self]
          rintro e w11 ⟨rfl, q11, rfl⟩
          refine hK.out _ _ (below_drewN _ _ _) ?_
          clear hK K
          try (simp only [Act.put]; try simp only [List.setIfInBounds_toArray]; try simp only [List.set_cons_zero, List.set_cons_succ])
          refine wpAnyL_take (i := 28) (d := some 84) (v := ?vab28) rfl rfl (by kernel_rfl) (by kernel_rfl) (by kernel_rfl) (fun _ _ _ h => h) (by rfl) ?yab28 ?_
          case yab28 => (intro w' hw'; go_simp; try (with_reducible rfl))
          simp only [Act.put]; try simp only [List.setIfInBounds_toArray]; try simp only [List.set_cons_zero, List.set_cons_succ]
          refine wpAnyL_take (i := 29) (d := some 85) (v := ?vab29) rfl rfl (by kernel_rfl) (by kernel_rfl) (by kernel_rfl) (fun _ _ _ h => h) (by rfl) ?yab29 ?_
          case yab29 => (intro w' hw'; go_simp; try (with_reducible rfl))
          simp only [Act.put]; try simp only [List.setIfInBounds_toArray]; try simp only [List.set_cons_zero, List.set_cons_succ]
          refine wpAnyL_done (by kernel_rfl) ?_ _
          have HPE := hide (HPX.out.later (L10.out.trans (below_drewN _ w10 q11))).drop
          have HBE := hide (HBB.out.trans ((L10.out.trans (below_drewN _ w10 q11)).mono HBB.out.size))
          go_wp2
          go_roundw
          case rel => exact ⟨k + 1, nw, _, by go_num, by omega, hnw0, by omega, HPE.out, HBE.out⟩
          case measure => simp [intOf]; omega
        · obtain ⟨x, L', HBO⟩ := pair_stop nm (HP3.out.later (Below.refl w3.heap.size w3).drew) n1 n2
          go_wp2_with (refine wpList_load_mid (by rfl) 31 _ (by rfl) b (off + k * 3) (by rfl) _ _ HR.out Try.underlying31 (by rfl) (by kernel_rfl) ?_)
          rw [← HWX.out, ← HBX.out]
          refine wp_region_R (R := fun a b => Kept (fun i => i = bx) a b) (by kernel_rfl) ?_
          refine wpAnyR_take (pre_kept (fun i => i = bx)) (i := 0) (d := some 47) (v := ?vap0) rfl rfl (by kernel_rfl) (by kernel_rfl) (by kernel_rfl) (fun _ _ _ h => h) (by rfl) ?yap0 ?_
          case yap0 => (intro w' hw'; go_simp; try (with_reducible rfl))
          simp only [Act.put]; try simp only [List.setIfInBounds_toArray]; try simp only [List.set_cons_zero, List.set_cons_succ]
          refine wpAnyR_take (pre_kept (fun i => i = bx)) (i := 1) (d := some 48) (v := ?vap1) rfl rfl (by kernel_rfl) (by kernel_rfl) (by kernel_rfl) (fun _ _ _ h => h) (by rfl) ?yap1 ?_
          case yap1 => (intro w' hw'; go_simp; try (with_reducible rfl))
          simp only [Act.put]; try simp only [List.setIfInBounds_toArray]; try simp only [List.set_cons_zero, List.set_cons_succ]
          refine wpAnyR_take (pre_kept (fun i => i = bx)) (i := 2) (d := some 49) (v := ?vap2) rfl rfl (by kernel_rfl) (by kernel_rfl) (by kernel_rfl) (fun _ _ _ h => h) (by rfl) ?yap2 ?_
          case yap2 => (intro w' hw'; have hc := (Kept.cell hw' (b := bx) (o := 1) hbl3 rfl).trans b1; go_simp; try (with_reducible rfl))
          simp only [Act.put]; try simp only [List.setIfInBounds_toArray]; try simp only [List.set_cons_zero, List.set_cons_succ]
          refine wpAnyR_take (pre_kept (fun i => i = bx)) (i := 4) (d := some 51) (v := ?vap4) rfl rfl (by kernel_rfl) (by kernel_rfl) (by kernel_rfl) (fun _ _ _ h => h) (by rfl) ?yap4 ?_
          case yap4 => (intro w' hw'; go_simp; try (with_reducible rfl))
          simp only [Act.put]; try simp only [List.setIfInBounds_toArray]; try simp only [List.set_cons_zero, List.set_cons_succ]
          refine wpAnyR_take (pre_kept (fun i => i = bx)) (i := 5) (d := some 52) (v := ?vap5) rfl rfl (by kernel_rfl) (by kernel_rfl) (by kernel_rfl) (fun _ _ _ h => h) (by rfl) ?yap5 ?_
          case yap5 => (intro w' hw'; go_simp; try (with_reducible rfl))
          simp only [Act.put]; try simp only [List.setIfInBounds_toArray]; try simp only [List.set_cons_zero, List.set_cons_succ]
          refine wpAnyR_take (pre_kept (fun i => i = bx)) (i := 6) (d := some 53) (v := ?vap6) rfl rfl (by kernel_rfl) (by kernel_rfl) (by kernel_rfl) (fun _ _ _ h => h) (by rfl) ?yap6 ?_
          case yap6 => (intro w' hw'; have hc := (Kept.cell hw' (b := bx) (o := 1) hbl3 rfl).trans b1; go_simp; try (with_reducible rfl))
          simp only [Act.put]; try simp only [List.setIfInBounds_toArray]; try simp only [List.set_cons_zero, List.set_cons_succ]
          refine wpAnyR_only (i := 3) rfl (by kernel_rfl) (by rfl) fun K hK => ?_
          go_simp
          refine HBO.out.mono ?_
          rintro e w5 ⟨rfl, hk5, hb5, hc5⟩
          have HC5 := hide hc5
          have HK5 := hide hk5
          clear hk5 hb5 hc5
          refine hK.out _ _ HK5.out ?_
          clear hK K
          try (simp only [Act.put]; try simp only [List.setIfInBounds_toArray]; try simp only [List.set_cons_zero, List.set_cons_succ])
          refine wpAnyR_only (i := 7) rfl (by kernel_rfl) (by rfl) fun K hK => ?_
          go_simp
          refine HC5.out.mono ?_
          rintro e w6 ⟨rfl, hk6, hb6, hp6⟩
          have HP6 := hide hp6
          have HK6 : Hid (Kept (fun i => i = bx) w3 w6) := ((Kept.drew _ w3).trans HK5.out).trans hk6
          have HB6 : Hid (Below w.heap.size w3 w6) := (Below.refl _ _).drew.trans hb6
          have hk6' : Kept (fun i => i = bx) w5 w6 := hk6
          clear hk6 hb6 hp6
          refine hK.out _ _ hk6' ?_
          clear hk6'
          clear hK K
          try (simp only [Act.put]; try simp only [List.setIfInBounds_toArray]; try simp only [List.set_cons_zero, List.set_cons_succ])
          refine wpAnyR_take (pre_kept (fun i => i = bx)) (i := 8) (d := some 55) (v := ?vap8) rfl rfl (by kernel_rfl) (by kernel_rfl) (by kernel_rfl) (fun _ _ _ h => h) (by rfl) ?yap8 ?_
          case yap8 => (intro w' hw'; go_simp; try (with_reducible rfl))
          simp only [Act.put]; try simp only [List.setIfInBounds_toArray]; try simp only [List.set_cons_zero, List.set_cons_succ]
          refine wpAnyR_take (pre_kept (fun i => i = bx)) (i := 9) (d := some 7) (v := ?vap9) rfl rfl (by kernel_rfl) (by kernel_rfl) (by kernel_rfl) (fun _ _ _ h => h) (by rfl) ?yap9 ?_
          case yap9 => (intro w' hw'; go_simp; try (with_reducible rfl))
          simp only [Act.put]; try simp only [List.setIfInBounds_toArray]; try simp only [List.set_cons_zero, List.set_cons_succ]
          refine wpAnyR_done (by kernel_rfl) ?_ _
          go_wp2
          obtain ⟨wx, hwx⟩ : ∃ wx, wx = w6 := ⟨_, rfl⟩
          have HPX : Hid (PairOK w.heap.size wx c r now L' (k + 1) bx) := by rw [hwx]; exact HP6.out.more (by omega)
          have HXX : Hid (wx.heap[bx]? = some (.cells #[.int .i64 2, .int .i64 nm, .int .i64 af] 31 (0, 0))) := by rw [hwx]; exact (HK6.out.2 bx hbl3 rfl).trans HX3.out
          have HBB : Hid (Below w.heap.size w wx) := by rw [hwx]; exact HB3.out.trans HB6.out
          have hnw0 : 0 ≤ now := by omega
          have hnw1 : now ≤ (k : Int) + 1 := by omega
          obtain ⟨nw, hnw⟩ : ∃ nw, nw = now := ⟨_, rfl⟩
          rw [← hnw] at HPX hnw0 hnw1
          rw [← hwx]
          clear hwx hnw HP6 HK6 HB6 b1 b2 HWX HBX HBO
          go_wp2
          refine wp_region_L (by kernel_rfl) ?_
          refine wpAnyL_take (i := 0) (d := some 56) (v := ?vac0) rfl rfl (by kernel_rfl) (by kernel_rfl) (by kernel_rfl) (fun _ _ _ h => h) (by rfl) ?yac0 ?_
          case yac0 => (intro w' hw'; go_simp; try (with_reducible rfl))
          simp only [Act.put]; try simp only [List.setIfInBounds_toArray]; try simp only [List.set_cons_zero, List.set_cons_succ]
          refine wpAnyL_take (i := 1) (d := some 57) (v := ?vac1) rfl rfl (by kernel_rfl) (by kernel_rfl) (by kernel_rfl) (fun _ _ _ h => h) (by rfl) ?yac1 ?_
          case yac1 => (intro w' hw'; go_simp; try (with_reducible rfl))
          simp only [Act.put]; try simp only [List.setIfInBounds_toArray]; try simp only [List.set_cons_zero, List.set_cons_succ]
          refine wpAnyL_take (i := 2) (d := some 58) (v := ?vac2) rfl rfl (by kernel_rfl) (by kernel_rfl) (by kernel_rfl) (fun _ _ _ h => h) (by rfl) ?yac2 ?_
          case yac2 => (intro w' hw'; go_simp; try (with_reducible rfl))
          simp only [Act.put]; try simp only [List.setIfInBounds_toArray]; try simp only [List.set_cons_zero, List.set_cons_succ]
          refine wpAnyL_take (i := 3) (d := some 59) (v := ?vac3) rfl rfl (by kernel_rfl) (by kernel_rfl) (by kernel_rfl) (fun _ _ _ h => h) (by rfl) ?yac3 ?_
          case yac3 => (intro w' hw'; go_simp; try (with_reducible rfl))
          simp only [Act.put]; try simp only [List.setIfInBounds_toArray]; try simp only [List.set_cons_zero, List.set_cons_succ]
          refine wpAnyL_take (i := 5) (d := some 61) (v := ?vac5) rfl rfl (by kernel_rfl) (by kernel_rfl) (by kernel_rfl) (fun _ _ _ h => h) (by rfl) ?yac5 ?_
          case yac5 => (intro w' hw'; go_simp; try (with_reducible rfl))
          simp only [Act.put]; try simp only [List.setIfInBounds_toArray]; try simp only [List.set_cons_zero, List.set_cons_succ]
          refine wpAnyL_take (i := 6) (d := some 62) (v := ?vac6) rfl rfl (by kernel_rfl) (by kernel_rfl) (by kernel_rfl) (fun _ _ _ h => h) (by rfl) ?yac6 ?_
          case yac6 => (intro w' hw'; go_simp; try (with_reducible rfl))
          simp only [Act.put]; try simp only [List.setIfInBounds_toArray]; try simp only [List.set_cons_zero, List.set_cons_succ]
          refine wpAnyL_take (i := 7) (d := some 63) (v := ?vac7) rfl rfl (by kernel_rfl) (by kernel_rfl) (by kernel_rfl) (fun _ _ _ h => h) (by rfl) ?yac7 ?_
          case yac7 => (intro w' hw'; go_simp; try (with_reducible rfl))
          simp only [Act.put]; try simp only [List.setIfInBounds_toArray]; try simp only [List.set_cons_zero, List.set_cons_succ]
          refine wpAnyL_take (i := 8) (d := some 64) (v := ?vac8) rfl rfl (by kernel_rfl) (by kernel_rfl) (by kernel_rfl) (fun _ _ _ h => h) (by rfl) ?yac8 ?_
          case yac8 => (intro w' hw'; have hc := (HPX.out.later (w' := w') ((Below.refl wx.heap.size wx).drew.trans hw')).cell; go_simp; try (with_reducible rfl))
          simp only [Act.put]; try simp only [List.setIfInBounds_toArray]; try simp only [List.set_cons_zero, List.set_cons_succ]
          refine wpAnyL_only (i := 4) rfl (by kernel_rfl) (by rfl) fun K hK => ?_
          go_simp
          refine (pair_now (HPX.out.later (Below.refl wx.heap.size wx).drew)).mono ?_
          rintro e w7 ⟨rfl, rfl⟩
          refine hK.out _ _ (Later.refl _) ?_
          clear hK K
          try (simp only [Act.put]; try simp only [List.setIfInBounds_toArray]; try simp only [List.set_cons_zero, List.set_cons_succ])
          refine wpAnyL_take (i := 9) (d := some 65) (v := ?vac9) rfl rfl (by kernel_rfl) (by kernel_rfl) (by kernel_rfl) (fun _ _ _ h => h) (by rfl) ?yac9 ?_
          case yac9 => (intro w' hw'; go_simp; try (with_reducible rfl))
          simp only [Act.put]; try simp only [List.setIfInBounds_toArray]; try simp only [List.set_cons_zero, List.set_cons_succ]
          refine wpAnyL_take (i := 10) (d := some 66) (v := ?vac10) rfl rfl (by kernel_rfl) (by kernel_rfl) (by kernel_rfl) (fun _ _ _ h => h) (by rfl) ?yac10 ?_
          case yac10 => (intro w' hw'; go_simp; try (with_reducible rfl))
          simp only [Act.put]; try simp only [List.setIfInBounds_toArray]; try simp only [List.set_cons_zero, List.set_cons_succ]
          refine wpAnyL_take (i := 11) (d := some 67) (v := ?vac11) rfl rfl (by kernel_rfl) (by kernel_rfl) (by kernel_rfl) (fun _ _ _ h => h) (by rfl) ?yac11 ?_
          case yac11 => (intro w' hw'; go_simp; try (with_reducible rfl))
          simp only [Act.put]; try simp only [List.setIfInBounds_toArray]; try simp only [List.set_cons_zero, List.set_cons_succ]
          refine wpAnyL_take (i := 12) (d := some 68) (v := ?vac12) rfl rfl (by kernel_rfl) (by kernel_rfl) (by kernel_rfl) (fun _ _ _ h => h) (by rfl) ?yac12 ?_
          case yac12 => (intro w' hw'; go_simp; try (with_reducible rfl))
          simp only [Act.put]; try simp only [List.setIfInBounds_toArray]; try simp only [List.set_cons_zero, List.set_cons_succ]
          refine wpAnyL_take (i := 13) (d := some 69) (v := ?vac13) rfl rfl (by kernel_rfl) (by kernel_rfl) (by kernel_rfl) (fun _ _ _ h => h) (by rfl) ?yac13 ?_
          case yac13 => (intro w' hw'; go_simp; try (with_reducible rfl))
          simp only [Act.put]; try simp only [List.setIfInBounds_toArray]; try simp only [List.set_cons_zero, List.set_cons_succ]
          refine wpAnyL_take (i := 14) (d := some 70) (v := ?vac14) rfl rfl (by kernel_rfl) (by kernel_rfl) (by kernel_rfl) (fun _ _ _ h => h) (by rfl) ?yac14 ?_
          case yac14 => (intro w' hw'; have hlt : Below wx.heap.size wx w' := (Below.refl wx.heap.size wx).drew.trans hw'; have hc := cell_of_row w' bx 1 _ _ _ ((hlt.block bx (lt_of_block HXX.out)).trans HXX.out); simp only [List.getElem?_toArray, List.getElem?_cons_zero, List.getElem?_cons_succ] at hc; clear hlt; go_simp; try (with_reducible rfl))
          simp only [Act.put]; try simp only [List.setIfInBounds_toArray]; try simp only [List.set_cons_zero, List.set_cons_succ]
          refine wpAnyL_take (i := 16) (d := some 72) (v := ?vac16) rfl rfl (by kernel_rfl) (by kernel_rfl) (by kernel_rfl) (fun _ _ _ h => h) (by rfl) ?yac16 ?_
          case yac16 => (intro w' hw'; go_simp; try (with_reducible rfl))
          simp only [Act.put]; try simp only [List.setIfInBounds_toArray]; try simp only [List.set_cons_zero, List.set_cons_succ]
          refine wpAnyL_take (i := 17) (d := some 73) (v := ?vac17) rfl rfl (by kernel_rfl) (by kernel_rfl) (by kernel_rfl) (fun _ _ _ h => h) (by rfl) ?yac17 ?_
          case yac17 => (intro w' hw'; go_simp; try (with_reducible rfl))
          simp only [Act.put]; try simp only [List.setIfInBounds_toArray]; try simp only [List.set_cons_zero, List.set_cons_succ]
          refine wpAnyL_take (i := 18) (d := some 74) (v := ?vac18) rfl rfl (by kernel_rfl) (by kernel_rfl) (by kernel_rfl) (fun _ _ _ h => h) (by rfl) ?yac18 ?_
          case yac18 => (intro w' hw'; have hlt : Below wx.heap.size wx w' := (Below.refl wx.heap.size wx).drew.trans hw'; have hc := cell_of_row w' bx 1 _ _ _ ((hlt.block bx (lt_of_block HXX.out)).trans HXX.out); simp only [List.getElem?_toArray, List.getElem?_cons_zero, List.getElem?_cons_succ] at hc; clear hlt; go_simp; try (with_reducible rfl))
          simp only [Act.put]; try simp only [List.setIfInBounds_toArray]; try simp only [List.set_cons_zero, List.set_cons_succ]
          refine wpAnyL_only (i := 15) rfl (by kernel_rfl) (by rfl) fun K hK => ?_
          go_simp
          refine (pair_left nm (HPX.out.later (Below.refl wx.heap.size wx).drew) n1 n2).mono ?_
          rintro e w7 ⟨rfl, hb7⟩
          have L7 : Hid (Below wx.heap.size wx w7) := (Below.refl wx.heap.size wx).drew.trans hb7
          refine hK.out _ _ hb7 ?_
          clear hb7
          clear hK K
          try (simp only [Act.put]; try simp only [List.setIfInBounds_toArray]; try simp only [List.set_cons_zero, List.set_cons_succ])
          refine wpAnyL_only (i := 19) rfl (by kernel_rfl) (by rfl) fun K hK => ?_
          go_simp
          refine (pair_refleft nm (HPX.out.later L7.out)).mono ?_
          rintro e w8 ⟨rfl, hb8⟩
          have L8 : Hid (Below wx.heap.size wx w8) := L7.out.trans (hb8.mono L7.out.size)
          refine hK.out _ _ hb8 ?_
          clear hb8
          clear hK K
          try (simp only [Act.put]; try simp only [List.setIfInBounds_toArray]; try simp only [List.set_cons_zero, List.set_cons_succ])
          refine wpAnyL_take (i := 20) (d := some 76) (v := ?vac20) rfl rfl (by kernel_rfl) (by kernel_rfl) (by kernel_rfl) (fun _ _ _ h => h) (by rfl) ?yac20 ?_
          case yac20 => (intro w' hw'; go_simp; try (with_reducible rfl))
          simp only [Act.put]; try simp only [List.setIfInBounds_toArray]; try simp only [List.set_cons_zero, List.set_cons_succ]
          refine wpAnyL_take (i := 21) (d := some 77) (v := ?vac21) rfl rfl (by kernel_rfl) (by kernel_rfl) (by kernel_rfl) (fun _ _ _ h => h) (by rfl) ?yac21 ?_
          case yac21 => (intro w' hw'; go_simp; try (with_reducible rfl))
          simp only [Act.put]; try simp only [List.setIfInBounds_toArray]; try simp only [List.set_cons_zero, List.set_cons_succ]
          refine wpAnyL_take (i := 22) (d := some 78) (v := ?vac22) rfl rfl (by kernel_rfl) (by kernel_rfl) (by kernel_rfl) (fun _ _ _ h => h) (by rfl) ?yac22 ?_
          case yac22 => (intro w' hw'; go_simp; try (with_reducible rfl))
          simp only [Act.put]; try simp only [List.setIfInBounds_toArray]; try simp only [List.set_cons_zero, List.set_cons_succ]
          refine wpAnyL_take (i := 23) (d := some 79) (v := ?vac23) rfl rfl (by kernel_rfl) (by kernel_rfl) (by kernel_rfl) (fun _ _ _ h => h) (by rfl) ?yac23 ?_
          case yac23 => (intro w' hw'; go_simp; try (with_reducible rfl))
          simp only [Act.put]; try simp only [List.setIfInBounds_toArray]; try simp only [List.set_cons_zero, List.set_cons_succ]
          refine wpAnyL_take (i := 25) (d := some 81) (v := ?vac25) rfl rfl (by kernel_rfl) (by kernel_rfl) (by kernel_rfl) (fun _ _ _ h => h) (by rfl) ?yac25 ?_
          case yac25 => (intro w' hw'; go_simp; try (with_reducible rfl))
          simp only [Act.put]; try simp only [List.setIfInBounds_toArray]; try simp only [List.set_cons_zero, List.set_cons_succ]
          refine wpAnyL_only (i := 24) rfl (by kernel_rfl) (by rfl) fun K hK => ?_
          go_simp
          refine (pair_names (HPX.out.later L8.out)).mono ?_
          rintro e w9 ⟨A9, n9, c9, rfl, _, hi9, hn9, hb9⟩
          have L9 : Hid (Below wx.heap.size wx w9) := L8.out.trans (hb9.mono L8.out.size)
          have HI9 := hide hi9
          refine hK.out _ _ hb9 ?_
          clear hi9 hb9
          clear hK K
          try (simp only [Act.put]; try simp only [List.setIfInBounds_toArray]; try simp only [List.set_cons_zero, List.set_cons_succ])
          refine wpAnyL_only (i := 26) rfl (by kernel_rfl) (by rfl) fun K hK => ?_
          go_simp
          refine (pair_refnames (HPX.out.later L9.out)).mono ?_
          rintro e w10 ⟨A10, n10, c10, rfl, _, hi10, hn10, hb10⟩
          have L10 : Hid (Below wx.heap.size wx w10) := L9.out.trans (hb10.mono L9.out.size)
          have HI10 := hide hi10
          have HI9b := hide (HI9.out.below hb10)
          refine hK.out _ _ hb10 ?_
          clear hi10 hb10
          clear hK K
          try (simp only [Act.put]; try simp only [List.setIfInBounds_toArray]; try simp only [List.set_cons_zero, List.set_cons_succ])
          refine wpAnyL_only (i := 27) rfl (by kernel_rfl) (by rfl) fun K hK => ?_
          go_simp
          refine (refints_any A9 A10 n9 c9 n10 c10 w9.heap.size w10.heap.size _ _ w10 HI9b.out HI10.out (by have := HI9b.out.1; rw [namesT_len] at this; have := HPX.out.len; omega) (by have := HI10.out.1; rw [namesT_len] at this; have := HPX.out.len; omega)).mono ?_
          rw [eqI_self]
          rintro e w11 ⟨rfl, q11, rfl⟩
          refine hK.out _ _ (below_drewN _ _ _) ?_
          clear hK K
          try (simp only [Act.put]; try simp only [List.setIfInBounds_toArray]; try simp only [List.set_cons_zero, List.set_cons_succ])
          refine wpAnyL_take (i := 28) (d := some 84) (v := ?vac28) rfl rfl (by kernel_rfl) (by kernel_rfl) (by kernel_rfl) (fun _ _ _ h => h) (by rfl) ?yac28 ?_
          case yac28 => (intro w' hw'; go_simp; try (with_reducible rfl))
          simp only [Act.put]; try simp only [List.setIfInBounds_toArray]; try simp only [List.set_cons_zero, List.set_cons_succ]
          refine wpAnyL_take (i := 29) (d := some 85) (v := ?vac29) rfl rfl (by kernel_rfl) (by kernel_rfl) (by kernel_rfl) (fun _ _ _ h => h) (by rfl) ?yac29 ?_
          case yac29 => (intro w' hw'; go_simp; try (with_reducible rfl))
          simp only [Act.put]; try simp only [List.setIfInBounds_toArray]; try simp only [List.set_cons_zero, List.set_cons_succ]
          refine wpAnyL_done (by kernel_rfl) ?_ _
          have HPE := hide (HPX.out.later (L10.out.trans (below_drewN _ w10 q11))).drop
          have HBE := hide (HBB.out.trans ((L10.out.trans (below_drewN _ w10 q11)).mono HBB.out.size))
          go_wp2
          go_roundw
          case rel => exact ⟨k + 1, nw, _, by go_num, by omega, hnw0, by omega, HPE.out, HBE.out⟩
          case measure => simp [intOf]; omega
        · go_wp2_with (refine wpList_load_mid (by rfl) 31 _ (by rfl) b (off + k * 3) (by rfl) _ _ HR.out Try.underlying31 (by rfl) (by kernel_rfl) ?_)
          rw [← HWX.out, ← HBX.out]
          obtain ⟨wx, hwx⟩ : ∃ wx, wx = w3 := ⟨_, rfl⟩
          have HPX : Hid (PairOK w.heap.size wx c r now L (k + 1) bx) := by rw [hwx]; exact HP3.out.more (by omega)
          have HXX : Hid (wx.heap[bx]? = some (.cells #[.int .i64 kd, .int .i64 nm, .int .i64 af] 31 (0, 0))) := by rw [hwx]; exact HX3.out
          have HBB : Hid (Below w.heap.size w wx) := by rw [hwx]; exact HB3.out
          have hnw0 : 0 ≤ now := by omega
          have hnw1 : now ≤ (k : Int) + 1 := by omega
          obtain ⟨nw, hnw⟩ : ∃ nw, nw = now := ⟨_, rfl⟩
          rw [← hnw] at HPX hnw0 hnw1
          rw [← hwx]
          clear hwx hnw b1 b2 HWX HBX q0 q1 q2
          refine wp_region_L (by kernel_rfl) ?_
          refine wpAnyL_take (i := 0) (d := some 56) (v := ?vad0) rfl rfl (by kernel_rfl) (by kernel_rfl) (by kernel_rfl) (fun _ _ _ h => h) (by rfl) ?yad0 ?_
          case yad0 => (intro w' hw'; go_simp; try (with_reducible rfl))
          simp only [Act.put]; try simp only [List.setIfInBounds_toArray]; try simp only [List.set_cons_zero, List.set_cons_succ]
          refine wpAnyL_take (i := 1) (d := some 57) (v := ?vad1) rfl rfl (by kernel_rfl) (by kernel_rfl) (by kernel_rfl) (fun _ _ _ h => h) (by rfl) ?yad1 ?_
          case yad1 => (intro w' hw'; go_simp; try (with_reducible rfl))
          simp only [Act.put]; try simp only [List.setIfInBounds_toArray]; try simp only [List.set_cons_zero, List.set_cons_succ]
          refine wpAnyL_take (i := 2) (d := some 58) (v := ?vad2) rfl rfl (by kernel_rfl) (by kernel_rfl) (by kernel_rfl) (fun _ _ _ h => h) (by rfl) ?yad2 ?_
          case yad2 => (intro w' hw'; go_simp; try (with_reducible rfl))
          simp only [Act.put]; try simp only [List.setIfInBounds_toArray]; try simp only [List.set_cons_zero, List.set_cons_succ]
          refine wpAnyL_take (i := 3) (d := some 59) (v := ?vad3) rfl rfl (by kernel_rfl) (by kernel_rfl) (by kernel_rfl) (fun _ _ _ h => h) (by rfl) ?yad3 ?_
          case yad3 => (intro w' hw'; go_simp; try (with_reducible rfl))
          simp only [Act.put]; try simp only [List.setIfInBounds_toArray]; try simp only [List.set_cons_zero, List.set_cons_succ]
          refine wpAnyL_take (i := 5) (d := some 61) (v := ?vad5) rfl rfl (by kernel_rfl) (by kernel_rfl) (by kernel_rfl) (fun _ _ _ h => h) (by rfl) ?yad5 ?_
          case yad5 => (intro w' hw'; go_simp; try (with_reducible rfl))
          simp only [Act.put]; try simp only [List.setIfInBounds_toArray]; try simp only [List.set_cons_zero, List.set_cons_succ]
          refine wpAnyL_take (i := 6) (d := some 62) (v := ?vad6) rfl rfl (by kernel_rfl) (by kernel_rfl) (by kernel_rfl) (fun _ _ _ h => h) (by rfl) ?yad6 ?_
          case yad6 => (intro w' hw'; go_simp; try (with_reducible rfl))
          simp only [Act.put]; try simp only [List.setIfInBounds_toArray]; try simp only [List.set_cons_zero, List.set_cons_succ]
          refine wpAnyL_take (i := 7) (d := some 63) (v := ?vad7) rfl rfl (by kernel_rfl) (by kernel_rfl) (by kernel_rfl) (fun _ _ _ h => h) (by rfl) ?yad7 ?_
          case yad7 => (intro w' hw'; go_simp; try (with_reducible rfl))
          simp only [Act.put]; try simp only [List.setIfInBounds_toArray]; try simp only [List.set_cons_zero, List.set_cons_succ]
          refine wpAnyL_take (i := 8) (d := some 64) (v := ?vad8) rfl rfl (by kernel_rfl) (by kernel_rfl) (by kernel_rfl) (fun _ _ _ h => h) (by rfl) ?yad8 ?_
          case yad8 => (intro w' hw'; have hc := (HPX.out.later (w' := w') ((Below.refl wx.heap.size wx).drew.trans hw')).cell; go_simp; try (with_reducible rfl))
          simp only [Act.put]; try simp only [List.setIfInBounds_toArray]; try simp only [List.set_cons_zero, List.set_cons_succ]
          refine wpAnyL_only (i := 4) rfl (by kernel_rfl) (by rfl) fun K hK => ?_
          go_simp
          refine (pair_now (HPX.out.later (Below.refl wx.heap.size wx).drew)).mono ?_
          rintro e w7 ⟨rfl, rfl⟩
          refine hK.out _ _ (Later.refl _) ?_
          clear hK K
          try (simp only [Act.put]; try simp only [List.setIfInBounds_toArray]; try simp only [List.set_cons_zero, List.set_cons_succ])
          refine wpAnyL_take (i := 9) (d := some 65) (v := ?vad9) rfl rfl (by kernel_rfl) (by kernel_rfl) (by kernel_rfl) (fun _ _ _ h => h) (by rfl) ?yad9 ?_
          case yad9 => (intro w' hw'; go_simp; try (with_reducible rfl))
          simp only [Act.put]; try simp only [List.setIfInBounds_toArray]; try simp only [List.set_cons_zero, List.set_cons_succ]
          refine wpAnyL_take (i := 10) (d := some 66) (v := ?vad10) rfl rfl (by kernel_rfl) (by kernel_rfl) (by kernel_rfl) (fun _ _ _ h => h) (by rfl) ?yad10 ?_
          case yad10 => (intro w' hw'; go_simp; try (with_reducible rfl))
          simp only [Act.put]; try simp only [List.setIfInBounds_toArray]; try simp only [List.set_cons_zero, List.set_cons_succ]
          refine wpAnyL_take (i := 11) (d := some 67) (v := ?vad11) rfl rfl (by kernel_rfl) (by kernel_rfl) (by kernel_rfl) (fun _ _ _ h => h) (by rfl) ?yad11 ?_
          case yad11 => (intro w' hw'; go_simp; try (with_reducible rfl))
          simp only [Act.put]; try simp only [List.setIfInBounds_toArray]; try simp only [List.set_cons_zero, List.set_cons_succ]
          refine wpAnyL_take (i := 12) (d := some 68) (v := ?vad12) rfl rfl (by kernel_rfl) (by kernel_rfl) (by kernel_rfl) (fun _ _ _ h => h) (by rfl) ?yad12 ?_
          case yad12 => (intro w' hw'; go_simp; try (with_reducible rfl))
          simp only [Act.put]; try simp only [List.setIfInBounds_toArray]; try simp only [List.set_cons_zero, List.set_cons_succ]
          refine wpAnyL_take (i := 13) (d := some 69) (v := ?vad13) rfl rfl (by kernel_rfl) (by kernel_rfl) (by kernel_rfl) (fun _ _ _ h => h) (by rfl) ?yad13 ?_
          case yad13 => (intro w' hw'; go_simp; try (with_reducible rfl))
          simp only [Act.put]; try simp only [List.setIfInBounds_toArray]; try simp only [List.set_cons_zero, List.set_cons_succ]
          refine wpAnyL_take (i := 14) (d := some 70) (v := ?vad14) rfl rfl (by kernel_rfl) (by kernel_rfl) (by kernel_rfl) (fun _ _ _ h => h) (by rfl) ?yad14 ?_
          case yad14 => (intro w' hw'; have hlt : Below wx.heap.size wx w' := (Below.refl wx.heap.size wx).drew.trans hw'; have hc := cell_of_row w' bx 1 _ _ _ ((hlt.block bx (lt_of_block HXX.out)).trans HXX.out); simp only [List.getElem?_toArray, List.getElem?_cons_zero, List.getElem?_cons_succ] at hc; clear hlt; go_simp; try (with_reducible rfl))
          simp only [Act.put]; try simp only [List.setIfInBounds_toArray]; try simp only [List.set_cons_zero, List.set_cons_succ]
          refine wpAnyL_take (i := 16) (d := some 72) (v := ?vad16) rfl rfl (by kernel_rfl) (by kernel_rfl) (by kernel_rfl) (fun _ _ _ h => h) (by rfl) ?yad16 ?_
          case yad16 => (intro w' hw'; go_simp; try (with_reducible rfl))
          simp only [Act.put]; try simp only [List.setIfInBounds_toArray]; try simp only [List.set_cons_zero, List.set_cons_succ]
          refine wpAnyL_take (i := 17) (d := some 73) (v := ?vad17) rfl rfl (by kernel_rfl) (by kernel_rfl) (by kernel_rfl) (fun _ _ _ h => h) (by rfl) ?yad17 ?_
          case yad17 => (intro w' hw'; go_simp; try (with_reducible rfl))
          simp only [Act.put]; try simp only [List.setIfInBounds_toArray]; try simp only [List.set_cons_zero, List.set_cons_succ]
          refine wpAnyL_take (i := 18) (d := some 74) (v := ?vad18) rfl rfl (by kernel_rfl) (by kernel_rfl) (by kernel_rfl) (fun _ _ _ h => h) (by rfl) ?yad18 ?_
          case yad18 => (intro w' hw'; have hlt : Below wx.heap.size wx w' := (Below.refl wx.heap.size wx).drew.trans hw'; have hc := cell_of_row w' bx 1 _ _ _ ((hlt.block bx (lt_of_block HXX.out)).trans HXX.out); simp only [List.getElem?_toArray, List.getElem?_cons_zero, List.getElem?_cons_succ] at hc; clear hlt; go_simp; try (with_reducible rfl))
          simp only [Act.put]; try simp only [List.setIfInBounds_toArray]; try simp only [List.set_cons_zero, List.set_cons_succ]
          refine wpAnyL_only (i := 15) rfl (by kernel_rfl) (by rfl) fun K hK => ?_
          go_simp
          refine (pair_left nm (HPX.out.later (Below.refl wx.heap.size wx).drew) n1 n2).mono ?_
          rintro e w7 ⟨rfl, hb7⟩
          have L7 : Hid (Below wx.heap.size wx w7) := (Below.refl wx.heap.size wx).drew.trans hb7
          refine hK.out _ _ hb7 ?_
          clear hb7
          clear hK K
          try (simp only [Act.put]; try simp only [List.setIfInBounds_toArray]; try simp only [List.set_cons_zero, List.set_cons_succ])
          refine wpAnyL_only (i := 19) rfl (by kernel_rfl) (by rfl) fun K hK => ?_
          go_simp
          refine (pair_refleft nm (HPX.out.later L7.out)).mono ?_
          rintro e w8 ⟨rfl, hb8⟩
          have L8 : Hid (Below wx.heap.size wx w8) := L7.out.trans (hb8.mono L7.out.size)
          refine hK.out _ _ hb8 ?_
          clear hb8
          clear hK K
          try (simp only [Act.put]; try simp only [List.setIfInBounds_toArray]; try simp only [List.set_cons_zero, List.set_cons_succ])
          refine wpAnyL_take (i := 20) (d := some 76) (v := ?vad20) rfl rfl (by kernel_rfl) (by kernel_rfl) (by kernel_rfl) (fun _ _ _ h => h) (by rfl) ?yad20 ?_
          case yad20 => (intro w' hw'; go_simp; try (with_reducible rfl))
          simp only [Act.put]; try simp only [List.setIfInBounds_toArray]; try simp only [List.set_cons_zero, List.set_cons_succ]
          refine wpAnyL_take (i := 21) (d := some 77) (v := ?vad21) rfl rfl (by kernel_rfl) (by kernel_rfl) (by kernel_rfl) (fun _ _ _ h => h) (by rfl) ?yad21 ?_
          case yad21 => (intro w' hw'; go_simp; try (with_reducible rfl))
          simp only [Act.put]; try simp only [List.setIfInBounds_toArray]; try simp only [List.set_cons_zero, List.set_cons_succ]
          refine wpAnyL_take (i := 22) (d := some 78) (v := ?vad22) rfl rfl (by kernel_rfl) (by kernel_rfl) (by kernel_rfl) (fun _ _ _ h => h) (by rfl) ?yad22 ?_
          case yad22 => (intro w' hw'; go_simp; try (with_reducible rfl))
          simp only [Act.put]; try simp only [List.setIfInBounds_toArray]; try simp only [List.set_cons_zero, List.set_cons_succ]
          refine wpAnyL_take (i := 23) (d := some 79) (v := ?vad23) rfl rfl (by kernel_rfl) (by kernel_rfl) (by kernel_rfl) (fun _ _ _ h => h) (by rfl) ?yad23 ?_
          case yad23 => (intro w' hw'; go_simp; try (with_reducible rfl))
          simp only [Act.put]; try simp only [List.setIfInBounds_toArray]; try simp only [List.set_cons_zero, List.set_cons_succ]
          refine wpAnyL_take (i := 25) (d := some 81) (v := ?vad25) rfl rfl (by kernel_rfl) (by kernel_rfl) (by kernel_rfl) (fun _ _ _ h => h) (by rfl) ?yad25 ?_
          case yad25 => (intro w' hw'; go_simp; try (with_reducible rfl))
          simp only [Act.put]; try simp only [List.setIfInBounds_toArray]; try simp only [List.set_cons_zero, List.set_cons_succ]
          refine wpAnyL_only (i := 24) rfl (by kernel_rfl) (by rfl) fun K hK => ?_
          go_simp
          refine (pair_names (HPX.out.later L8.out)).mono ?_
          rintro e w9 ⟨A9, n9, c9, rfl, _, hi9, hn9, hb9⟩
          have L9 : Hid (Below wx.heap.size wx w9) := L8.out.trans (hb9.mono L8.out.size)
          have HI9 := hide hi9
          refine hK.out _ _ hb9 ?_
          clear hi9 hb9
          clear hK K
          try (simp only [Act.put]; try simp only [List.setIfInBounds_toArray]; try simp only [List.set_cons_zero, List.set_cons_succ])
          refine wpAnyL_only (i := 26) rfl (by kernel_rfl) (by rfl) fun K hK => ?_
          go_simp
          refine (pair_refnames (HPX.out.later L9.out)).mono ?_
          rintro e w10 ⟨A10, n10, c10, rfl, _, hi10, hn10, hb10⟩
          have L10 : Hid (Below wx.heap.size wx w10) := L9.out.trans (hb10.mono L9.out.size)
          have HI10 := hide hi10
          have HI9b := hide (HI9.out.below hb10)
          refine hK.out _ _ hb10 ?_
          clear hi10 hb10
          clear hK K
          try (simp only [Act.put]; try simp only [List.setIfInBounds_toArray]; try simp only [List.set_cons_zero, List.set_cons_succ])
          refine wpAnyL_only (i := 27) rfl (by kernel_rfl) (by rfl) fun K hK => ?_
          go_simp
          refine (refints_any A9 A10 n9 c9 n10 c10 w9.heap.size w10.heap.size _ _ w10 HI9b.out HI10.out (by have := HI9b.out.1; rw [namesT_len] at this; have := HPX.out.len; omega) (by have := HI10.out.1; rw [namesT_len] at this; have := HPX.out.len; omega)).mono ?_
          rw [eqI_self]
          rintro e w11 ⟨rfl, q11, rfl⟩
          refine hK.out _ _ (below_drewN _ _ _) ?_
          clear hK K
          try (simp only [Act.put]; try simp only [List.setIfInBounds_toArray]; try simp only [List.set_cons_zero, List.set_cons_succ])
          refine wpAnyL_take (i := 28) (d := some 84) (v := ?vad28) rfl rfl (by kernel_rfl) (by kernel_rfl) (by kernel_rfl) (fun _ _ _ h => h) (by rfl) ?yad28 ?_
          case yad28 => (intro w' hw'; go_simp; try (with_reducible rfl))
          simp only [Act.put]; try simp only [List.setIfInBounds_toArray]; try simp only [List.set_cons_zero, List.set_cons_succ]
          refine wpAnyL_take (i := 29) (d := some 85) (v := ?vad29) rfl rfl (by kernel_rfl) (by kernel_rfl) (by kernel_rfl) (fun _ _ _ h => h) (by rfl) ?yad29 ?_
          case yad29 => (intro w' hw'; go_simp; try (with_reducible rfl))
          simp only [Act.put]; try simp only [List.setIfInBounds_toArray]; try simp only [List.set_cons_zero, List.set_cons_succ]
          refine wpAnyL_done (by kernel_rfl) ?_ _
          have HPE := hide (HPX.out.later (L10.out.trans (below_drewN _ w10 q11))).drop
          have HBE := hide (HBB.out.trans ((L10.out.trans (below_drewN _ w10 q11)).mono HBB.out.size))
          go_wp2
          go_roundw
          case rel => exact ⟨k + 1, nw, _, by go_num, by omega, hnw0, by omega, HPE.out, HBE.out⟩
          case measure => simp [intOf]; omega
      · obtain rfl : k = n' := by omega
        go_wp2_with (fail)
        refine (lives_any _).mono ?_
        rintro e w6 ⟨rfl, hb6⟩
        have HB6 := hide (HB.out.trans (hb6.mono HB.out.size))
        clear hb6
        go_wp2
        go_ret
        exact ⟨rfl, HB6.out⟩
end Go.Proofs.Ythimdmgimlhbaaa
