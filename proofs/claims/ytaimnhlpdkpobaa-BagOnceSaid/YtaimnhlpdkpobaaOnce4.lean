/- The walk over droverlaw04.BagOnce: each message is taken once, by a number that never comes again. -/
import Derived.Test.YtaimnhlpdkpobaaOnceK
import Derived.Test.YtaimnhlpdkpobaaSame
import Derived.Test.YtaimnhlpdkpobaaClears
namespace Go.Proofs.Ytaimnhlpdkpobaa
open Go.RowKit Go.Maps

theorem else_new {g b : Nat} {i : Nat} (h1 : i ≠ g) (h2 : i ≠ b) : Else g b (.slice none 0 0) (.slice none 0 0) i := ⟨h1, h2, by simp [Value.ownBlock], by simp [Value.ownBlock]⟩

theorem contains_step (M : List Int) (k : Nat) (y : Int) (h : k < M.length) : (M.take (k + 1)).contains y = ((M.take k).contains y || (M.getD k 0 == y)) := by
  have h1 : M.getD k 0 = M[k] := by simp [List.getD, h]
  have h2 : [M[k]].contains y = (M[k] == y) := by
    rw [Bool.eq_iff_iff, List.contains_iff_mem, List.mem_singleton, beq_iff_eq]
    exact eq_comm
  rw [List.take_succ_eq_append_getElem h, List.contains_append, h1, h2]

set_option maxHeartbeats 4000000 in
set_option maxRecDepth 100000 in
theorem law_once (F : Nat → Prop) (v : Value) (ps : List MsgV) (tv : Value) (ts : List Int) (w : World) (hw : ∀ p ∈ ps, p.m.wf) (h : MsgsIn F w v ps) (htw : ∀ x ∈ ts, 0 ≤ x ∧ x < 18446744073709551616) (ht : UintsAt F w tv ts) :
    Calls Try.prog 6 #[v, tv] w fun e w' => e = .returned (.bool true) ∧ Below w.heap.size w w' := by
  obtain ⟨i0, hi, hz0, hz1, hz2⟩ := info_parts Try.infoAct
  obtain ⟨j0, hj, hy0, hy1, hy2⟩ := info_parts Try.infoI64
  obtain ⟨A, c, rfl, h1, h2, _⟩ := FlatAt.shape h.1
  obtain ⟨TA, tc, rfl, h3, h4, _⟩ := FlatAt.shape ht
  unfold maxLen at h2 h4
  have H : Hid (MsgsIn (· < w.heap.size) w (.slice A ps.length c) ps) := h.mono (fun i hi _ => hi)
  have HW := hide hw
  have HT : Hid (UintsAt (· < w.heap.size) w (.slice TA ts.length tc) ts) := FlatAt.mono ht (fun i hi _ => hi)
  have HTW := hide htw
  have hz0i : I64 0 := ⟨by decide, by decide⟩
  clear h hw ht htw
  by_cases hlong : 30 < ps.length ∨ 60 < ts.length
  · by_cases hl2 : 30 < ps.length
    · have hl1 : decide ((30 : Int) < (ps.length : Int)) = true := decide_eq_true (by omega)
      go_enter Try.func6, Try.ntmps6
      go_wp2_with (fail)
      refine (lives_any _).mono ?_
      rintro e w2 ⟨rfl, hb2⟩
      have HB2 := hide hb2
      clear hb2
      go_wp2
      go_ret
      exact ⟨rfl, HB2.out⟩
    · have hl1 : decide ((30 : Int) < (ps.length : Int)) = false := decide_eq_false (by omega)
      have hl3 : decide ((60 : Int) < (ts.length : Int)) = true := decide_eq_true (by omega)
      go_enter Try.func6, Try.ntmps6
      go_wp2_with (fail)
      refine (lives_any _).mono ?_
      rintro e w2 ⟨rfl, hb2⟩
      have HB2 := hide hb2
      clear hb2
      go_wp2
      go_ret
      exact ⟨rfl, HB2.out⟩
  have hl1 : decide ((30 : Int) < (ps.length : Int)) = false := decide_eq_false (by omega)
  have hl3 : decide ((60 : Int) < (ts.length : Int)) = false := decide_eq_false (by omega)
  go_enter Try.func6, Try.ntmps6
  go_wp2_with (fail)
  refine (new_yes 100 w (by decide) (by decide)).mono ?_
  rintro e w1 ⟨g, b, rfl, hg, hb, hbl, hbag⟩
  have HBL := hide hbl
  have S0 := hide (hbag (Else g b (.slice none 0 0) (.slice none 0 0)) (fun h => h.1 rfl) (fun h => h.2.1 rfl))
  have HGB : Hid (w.heap.size ≤ g ∧ w.heap.size ≤ b) := ⟨hg, hb⟩
  clear hbl hbag
  go_wp2
  go_loopw [32, 6] (fun j u wr => ∃ (k : Nat) (L : List Item), k ≤ ps.length ∧ j = .int .i64 (k : Int) ∧ u = .int .i64 (k : Int) ∧ BagAt (Else g b (.slice none 0 0) (.slice none 0 0)) wr g b 100 k L ∧ Fill ps k L ∧ Below w.heap.size w wr) (fun j _ _ => ps.length - (Go.RowKit.intOf j).toNat)
  case atStart => exact ⟨0, [], by omega, rfl, rfl, S0.out, Fill.zero ps, HBL.out⟩
  case round =>
    obtain ⟨k, L, hk, rfl, rfl, hst, hfl, hb⟩ := hrel
    have ST := hide hst
    have HF := hide hfl
    have HB := hide hb
    clear hst hfl hb
    by_cases hkn : k < ps.length
    · obtain ⟨x, b', off, c', hx, hv, _, _, _, hr, hli⟩ := MsgsIn.at_ (H.out.kept (Kept.of_below HB.out _)) (k := k) hkn
      obtain ⟨rfl, rfl⟩ : A = some ⟨b', off, none⟩ ∧ c = c' := by injection hv with e1 _ e3; exact ⟨e1, e3⟩
      have hwx := HW.out x (List.mem_of_getElem? hx)
      have HR := hide hr
      have HWX := hide hwx
      have HX := hide hx
      obtain ⟨m, s, o, i⟩ := x
      obtain ⟨k1, k2, k3⟩ := hli.cell
      have HLI := hide hli
      clear hx hv hr hli hwx
      have HZ : Hid ((wr.alloc (.cells zcells 42 (0, 0))).heap[wr.heap.size]? = some (.cells zcells 42 (0, 0))) := heap_alloc_new _ _
      go_wp2_with (first
        | (refine wpList_load_mid (by rfl) 42 _ (by rfl) b' (off + k * 34) (by rfl) _ _ HR.out Try.underlying42 (by rfl) (by kernel_rfl) ?_)
        | (refine wpList_store_box (by rfl) 42 _ _ (by rfl) (wr.heap.size) 0 ((m.cells s o i).toArray) (by rfl) (by rfl) 42 (zcells) (HZ.out) (by kernel_rfl) (by exact Nat.le_of_ble_eq_true rfl) (by exact m.one k1 k2 k3) ?_; intro w2 hb2 hg2; rw [put_zmsg] at hb2)
        | (refine wpList_load_box (by rfl) 42 _ (by rfl) (wr.heap.size) 0 (by rfl) 42 _ (hb2) 34 _ Try.underlying42 (by rfl) (by kernel_rfl) (m.cells s o i) (by rfl) (by rfl) ?_)
        | (refine wpList_build_one (by rfl) 44 2 _ (by rfl) (.agg (m.cells s o i).toArray) (by rfl) _ (built_act m s o i) ?_)
        | (refine wpList_buildSlice_one (by rfl) 22 44 _ (by rfl) i0 _ 36 Try.underlying22 hi hz0 hz1 (by decide) (by decide) (ActD.cells ⟨0, 0, m⟩ s o i).toArray (by rfl) (by rfl) ?_))
      have hB2 : Below wr.heap.size wr w2 := ((Below.refl _ _).alloc (Nat.le_refl _) _).grown hg2 (by simp) (fun k hk => by have := Option.some.inj hk; omega)
      have hlt2 : wr.heap.size < w2.heap.size := lt_of_block hb2
      refine (light_any (fun _ => True) _ [⟨⟨0, 0, m⟩, s, o, i⟩] _ (acts_one (a := ⟨0, 0, m⟩) (HLI.out.kept (Kept.of_below hB2 _)) ((Below.refl _ _).alloc (Nat.le_refl _) _) (heap_alloc_new w2 _)) (fun p hp => by rw [List.mem_singleton.1 hp]; exact ⟨hz0i, hz0i, HWX.out⟩)).mono ?_
      rintro e w3 ⟨bl, rfl, hok, hb3⟩
      have hB3 : Below w2.heap.size w2 w3 := ((Below.refl _ _).alloc (Nat.le_refl _) _).trans (Below.mono hb3 (by simp))
      have hB13 : Below wr.heap.size wr w3 := hB2.trans (hB3.mono hB2.size)
      have BX3 : w3.heap[wr.heap.size]? = some (.cells (m.cells s o i).toArray 42 (0, 0)) := (hB3.block _ hlt2).trans hb2
      have ST3 := hide (ST.out.later hB13)
      have HB3 := hide (HB.out.trans (hB13.mono HB.out.size))
      have HLI3 : Hid (Lists (· < w.heap.size) w3 m s o i) := HLI.out.kept (Kept.of_below hB13 _)
      have HOK := hide hok
      clear hb2 hg2 hB2 hlt2 hok hb3 hB3 hB13 HZ
      cases bl with
      | false =>
        go_wp2_with (fail)
        refine (lives_any _).mono ?_
        rintro e w4 ⟨rfl, hb4⟩
        have HB4 := hide hb4
        clear hb4
        go_wp2
        go_ret
        exact ⟨rfl, HB3.out.trans (HB4.out.mono HB3.out.size)⟩
      | true =>
        have hmok : m.ok := (HOK.out rfl).2 ⟨⟨0, 0, m⟩, s, o, i⟩ (by simp)
        have hLk := HF.out.1
        obtain ⟨hg3, hb3⟩ := ST3.out.lt
        obtain ⟨hge, hbe⟩ := HGB.out
        have CP := hide (put_yes m _ w3 ST3.out (by omega) (by omega) ⟨s, o, i, rfl, HLI3.out.mono (fun q _ (hq : q < w.heap.size) => else_new (by omega) (by omega))⟩ hmok (fun q hq => else_new (by omega) (by omega)))
        clear hmok hLk hg3 hb3 hge hbe
        go_wp2_with (refine wpList_load_box (by rfl) 42 _ (by rfl) (wr.heap.size) 0 (by rfl) 42 _ (BX3) 34 _ Try.underlying42 (by rfl) (by kernel_rfl) (m.cells s o i) (by rfl) (by rfl) ?_)
        refine CP.out.mono ?_
        rintro e w4 ⟨v4, rfl, B4, T4⟩
        have HB4 := hide (HB3.out.trans (T4.below (fun i e => by have := HGB.out; omega) HB3.out.size))
        have ST4 := hide B4
        have HF4 := hide (HF.out.next HX.out v4)
        clear B4 T4 BX3 CP
        go_wp2
        go_roundw
        case rel => exact ⟨k + 1, _, by omega, by go_num, by go_num, ST4.out, HF4.out, HB4.out⟩
        case measure => simp [Go.RowKit.intOf]; omega
    · obtain rfl : k = ps.length := by omega
      have G0 : Hid (Gone w.heap.size wr g b ps.length L (.slice none 0 0) []) :=
        ⟨by rw [cleared_nil]; exact ST.out, ST.out.rise, ST.out.ids, by simp [Fit], by rw [cleared_nil]; rfl, World.ownsRow_nil _ _ _ _, ⟨by simp [Value.ownBlock], by simp [Value.ownBlock]⟩, HGB.out.1, HGB.out.2, HB.out.size⟩
      go_wp2
      go_loopw [60, 11] (fun j u wr => ∃ (t : Nat) (M : List Int) (v11 : Value), t ≤ ts.length ∧ j = .int .i64 (t : Int) ∧ v11 = u ∧ Gone w.heap.size wr g b ps.length L v11 M ∧ M.length ≤ t ∧ Below w.heap.size w wr) (fun j _ _ => ts.length - (Go.RowKit.intOf j).toNat)
      case atStart => exact ⟨0, [], _, by omega, rfl, rfl, G0.out, by simp, HB.out⟩
      case round =>
        obtain ⟨t, M, v11, htk, rfl, rfl, hgo, hml, hb⟩ := hrel
        have GO := hide hgo
        have HB1 := hide hb
        clear hgo hb
        by_cases htn : t < ts.length
        · obtain ⟨x, b', off, c', hx, hv, _, _, _, hcell⟩ := UintsAt.at_ (HT.out.kept (Kept.of_below HB1.out _)) htn
          obtain ⟨rfl, rfl⟩ : TA = some ⟨b', off, none⟩ ∧ tc = c' := by injection hv with e1 _ e3; exact ⟨e1, e3⟩
          obtain ⟨hx0, hx1⟩ := HTW.out x (List.mem_of_getElem? hx)
          have HX := hide hx
          obtain ⟨q, hq, hqn⟩ : ∃ q : Nat, wrap64 (1 + wrap64 (x % ((ps.length : Int) + 1))) = (q : Int) + 1 ∧ q ≤ ps.length := by
            have e1 := Int.emod_nonneg x (b := (ps.length : Int) + 1) (by omega)
            have e2 := Int.emod_lt_of_pos x (b := (ps.length : Int) + 1) (by omega)
            refine ⟨(x % ((ps.length : Int) + 1)).toNat, ?_, by omega⟩
            have key : ∀ z : Int, 0 ≤ z → z < 1000 → wrap64 (1 + wrap64 z) = z + 1 := by intro z h0 h1; unfold wrap64; omega
            rw [key _ e1 (by omega)]
            omega
          have hid : I64 ((q : Int) + 1) := ⟨by omega, by omega⟩
          obtain ⟨A1, c1, rfl, _, _, h11⟩ := IHolds.of_own GO.out.row GO.out.fit
          have H11w := hide h11
          clear hx hv h11
          by_cases hin : q < ps.length ∧ ((q : Int) + 1) ∉ M
          · obtain ⟨hqp, hnm⟩ := hin
            obtain ⟨⟨xi, xv, xm⟩, p, hxi, hp, hm⟩ := (show Fill ps ps.length L from HF.out).item GO.out.rise hqp
            obtain rfl : xm = p.m := hm
            have hxi2 : itemAt (cleared L M) ((q : Int) + 1) = some ⟨xi, xv, p.m⟩ := (item_cleared hnm).trans hxi
            have HXI := hide hxi2
            have HPP := hide hp
            have CT := hide (take_ok ((q : Int) + 1) ⟨xi, xv, p.m⟩ wr GO.out.bag hid hxi2 (fun i hi => GO.out.new i hi))
            have hct : M.contains ((q : Int) + 1) = false := by simpa using hnm
            have HCT := hide hct
            clear hxi hxi2 hp hnm hct
            go_wp2_with (fail)
            refine CT.out.mono ?_
            rintro e w2 ⟨rfl, M5, B5, T5⟩
            obtain ⟨s, o, i, hv, hl⟩ := M5
            simp only at hv
            subst hv
            obtain ⟨k1, k2, k3⟩ := hl.cell
            have HL := hide hl
            have HB5 := hide B5
            have HT5 := hide T5
            have HB2 := hide (HB1.out.trans (GO.out.below T5))
            have RW2 := hide (GO.out.row2 T5)
            clear hl B5 T5 CT
            go_wp2_with (refine wpList_store_box (by rfl) 42 _ _ (by rfl) (w2.heap.size) 0 ((p.m.cells s o i).toArray) (by rfl) (by rfl) 42 (zcells) (heap_alloc_new w2 _) (by kernel_rfl) (by exact Nat.le_of_ble_eq_true rfl) (by exact p.m.one k1 k2 k3) ?_; intro w3 hb3 hg3; rw [put_zmsg] at hb3)
            have hB23 : Below w2.heap.size w2 w3 := ((Below.refl _ _).alloc (Nat.le_refl _) _).grown hg3 (by simp) (fun k hk => by have := Option.some.inj hk; omega)
            have HB23 := hide hB23
            have HB3 := hide (HB2.out.trans (hB23.mono HB2.out.size))
            have HBX := hide hb3
            have HL3 : Hid (w2.heap.size < w3.heap.size) := lt_of_block hb3
            have RW3 := own_below RW2.out hB23
            obtain ⟨A1', c1', e11, _, _, h11⟩ := IHolds.of_own RW3 GO.out.fit
            obtain ⟨rfl, rfl⟩ : A1 = A1' ∧ c1 = c1' := by injection e11 with e1 _ e3; exact ⟨e1, e3⟩
            have H11 := hide h11
            clear hb3 hg3 hB23 H11w RW3 e11 h11
            go_loop [79, 17] (fun i u => ∃ k : Nat, k ≤ M.length ∧ i = .int .i64 (k : Int) ∧ u = .bool ((M.take k).contains ((q : Int) + 1))) (fun i _ => M.length - (Go.RowKit.intOf i).toNat)
            case atStart => exact ⟨0, by omega, rfl, by simp⟩
            case round =>
              obtain ⟨k, hk, rfl, rfl⟩ := hrel
              by_cases hkm : k < M.length
              · obtain ⟨q1, off1, rfl, _, hc⟩ := H11.out.at_ hkm
                have HSTEP := hide (contains_step M k ((q : Int) + 1) hkm)
                obtain ⟨y, hy⟩ : ∃ y, y = M.getD k 0 := ⟨_, rfl⟩
                rw [← hy] at hc HSTEP
                obtain ⟨p0, hp0⟩ : ∃ z, (M.take k).contains ((q : Int) + 1) = z := ⟨_, rfl⟩
                rw [hp0] at HSTEP ⊢
                obtain ⟨p1, hp1⟩ : ∃ z, (y == (q : Int) + 1) = z := ⟨_, rfl⟩
                rw [hp1] at HSTEP
                clear hy hp0
                cases p0 with
                | true =>
                  clear hp1
                  go_wp2
                  go_round
                  case rel => exact ⟨k + 1, by omega, by go_num, by rw [HSTEP.out]; rfl⟩
                  case measure => simp [Go.RowKit.intOf]; omega
                | false =>
                  go_wp2
                  go_round
                  case rel => exact ⟨k + 1, by omega, by go_num, by rw [HSTEP.out]; simp⟩
                  case measure => simp [Go.RowKit.intOf]; omega
              · obtain rfl : k = M.length := by omega
                rw [List.take_length]
                rw [HCT.out]
                have hgt : decide ((ps.length : Int) < (q : Int) + 1) = false := decide_eq_false (by omega)
                have hl3 := HL.out.kept (Kept.of_below HB23.out _)
                obtain ⟨p', b', off', c'', hp', hv', _, _, hbl', hr', hlp⟩ := MsgsIn.at_ (H.out.kept (Kept.of_below HB3.out _)) (k := q) hqp
                obtain rfl : p = p' := by rw [HPP.out] at hp'; exact Option.some.inj hp'
                obtain ⟨rfl, rfl⟩ : A = some ⟨b', off', none⟩ ∧ c = c'' := by injection hv' with e1 _ e3; exact ⟨e1, e3⟩
                have HR : Hid (∀ w' : World, Later w3 w' → w'.rangeAt b' (off' + q * 34) p.cells) := fun w' hb j u hu => (World.cell?_of_block (Below.block hb b' hbl')).trans (hr' j u hu)
                have CS := hide (fun w' (hb : Later w3 w') => same_any _ _ s o i p.s p.o p.i p.m p.m w' (hl3.kept (Kept.of_below hb _)) (hlp.kept (Kept.of_below hb _)))
                simp only [decide_true] at CS
                clear hp' hv' hr' hlp hl3
                have L0 : Hid (Later w3 w3.drew) := Later.drew _
                have hwq : IntKind.i64.wrap (q : Int) = (q : Int) := by rw [IntKind.wrap_i64]; omega
                have hq0 : (0 : Int) ≤ (q : Int) ∧ (q : Int) < (ps.length : Int) := ⟨by omega, by omega⟩
                go_wp2
                refine wp_region_L (by kernel_rfl) ?_
                refine wpAnyL_take (i := 0) (d := some 98) (v := ?va0) rfl rfl (by kernel_rfl) (by kernel_rfl) (by kernel_rfl) (fun _ _ _ h => h) (by rfl) ?ya0 ?_
                case ya0 => (intro w' hw'; go_simp; try (with_reducible rfl))
                simp only [Act.put, List.setIfInBounds_toArray, List.set_cons_zero, List.set_cons_succ]
                refine wpAnyL_take (i := 1) (d := some 99) (v := ?va1) rfl rfl (by kernel_rfl) (by kernel_rfl) (by kernel_rfl) (fun _ _ _ h => h) (by rfl) ?ya1 ?_
                case ya1 => (intro w' hw'; go_simp; try (with_reducible rfl))
                simp only [Act.put, List.setIfInBounds_toArray, List.set_cons_zero, List.set_cons_succ]
                refine wpAnyL_take (i := 2) (d := some 100) (v := ?va2) rfl rfl (by kernel_rfl) (by kernel_rfl) (by kernel_rfl) (fun _ _ _ h => h) (by rfl) ?ya2 ?_
                case ya2 => (intro w' hw'; go_simp; try (with_reducible rfl))
                simp only [Act.put, List.setIfInBounds_toArray, List.set_cons_zero, List.set_cons_succ]
                refine wpAnyL_take (i := 3) (d := some 101) (v := .agg (p.m.cells s o i).toArray) rfl rfl (by kernel_rfl) (by kernel_rfl) (by kernel_rfl) (fun _ _ _ h => h) (by rfl) ?ya3 ?_
                case ya3 => (intro w' hw'; have hbx := (Below.block (L0.out.trans hw') w2.heap.size HL3.out).trans HBX.out; exact exec_load_box 42 _ (by rfl) w2.heap.size 0 (by rfl) 42 _ hbx 34 _ Try.underlying42 (by rfl) (by kernel_rfl) (p.m.cells s o i) (by rfl) (by rfl))
                simp only [Act.put, List.setIfInBounds_toArray, List.set_cons_zero, List.set_cons_succ]
                refine wpAnyL_take (i := 4) (d := some 102) (v := ?va4) rfl rfl (by kernel_rfl) (by kernel_rfl) (by kernel_rfl) (fun _ _ _ h => h) (by rfl) ?ya4 ?_
                case ya4 => (intro w' hw'; go_simp; try (with_reducible rfl))
                simp only [Act.put, List.setIfInBounds_toArray, List.set_cons_zero, List.set_cons_succ]
                refine wpAnyL_take (i := 5) (d := some 103) (v := ?va5) rfl rfl (by kernel_rfl) (by kernel_rfl) (by kernel_rfl) (fun _ _ _ h => h) (by rfl) ?ya5 ?_
                case ya5 => (intro w' hw'; go_simp; try (with_reducible rfl))
                simp only [Act.put, List.setIfInBounds_toArray, List.set_cons_zero, List.set_cons_succ]
                refine wpAnyL_take (i := 6) (d := some 104) (v := ?va6) rfl rfl (by kernel_rfl) (by kernel_rfl) (by kernel_rfl) (fun _ _ _ h => h) (by rfl) ?ya6 ?_
                case ya6 => (intro w' hw'; go_simp; try (with_reducible rfl))
                simp only [Act.put, List.setIfInBounds_toArray, List.set_cons_zero, List.set_cons_succ]
                refine wpAnyL_take (i := 7) (d := some 105) (v := ?va7) rfl rfl (by kernel_rfl) (by kernel_rfl) (by kernel_rfl) (fun _ _ _ h => h) (by rfl) ?ya7 ?_
                case ya7 => (intro w' hw'; go_simp; try (with_reducible rfl))
                simp only [Act.put, List.setIfInBounds_toArray, List.set_cons_zero, List.set_cons_succ]
                refine wpAnyL_take (i := 8) (d := some 106) (v := .agg p.cells.toArray) rfl rfl (by kernel_rfl) (by kernel_rfl) (by kernel_rfl) (fun _ _ _ h => h) (by rfl) ?ya8 ?_
                case ya8 => (intro w' hw'; exact exec_load_range 42 _ (by rfl) b' (off' + q * 34) (by rfl) _ (HR.out w' (L0.out.trans hw')) _ Try.underlying42 (by rfl) (by kernel_rfl))
                simp only [Act.put, List.setIfInBounds_toArray, List.set_cons_zero, List.set_cons_succ]
                refine wpAnyL_only (i := 9) rfl (by kernel_rfl) (by rfl) fun K hK => ?_
                go_simp
                refine (CS.out _ L0.out).mono ?_
                rintro e w8 ⟨rfl, hb8⟩
                have L8 : Hid (Later w3 w8) := L0.out.trans hb8
                have HB8 := hide hb8
                clear hb8
                refine hK.out _ _ HB8.out ?_
                clear hK K
                try simp only [Act.put, List.setIfInBounds_toArray, List.set_cons_zero, List.set_cons_succ]
                refine wpAnyL_take (i := 10) (d := some 108) (v := ?va10) rfl rfl (by kernel_rfl) (by kernel_rfl) (by kernel_rfl) (fun _ _ _ h => h) (by rfl) ?ya10 ?_
                case ya10 => (intro w' hw'; go_simp; try (with_reducible rfl))
                simp only [Act.put, List.setIfInBounds_toArray, List.set_cons_zero, List.set_cons_succ]
                refine wpAnyL_take (i := 11) (d := some 109) (v := ?va11) rfl rfl (by kernel_rfl) (by kernel_rfl) (by kernel_rfl) (fun _ _ _ h => h) (by rfl) ?ya11 ?_
                case ya11 => (intro w' hw'; go_simp; try (with_reducible rfl))
                simp only [Act.put, List.setIfInBounds_toArray, List.set_cons_zero, List.set_cons_succ]
                refine wpAnyL_done (by kernel_rfl) ?_ _
                have RW8 := hide (own_below RW2.out (HB23.out.trans (Below.mono L8.out HB23.out.size)))
                have HB38 := hide (HB3.out.trans (Below.mono L8.out HB3.out.size))
                have RW : Hid ((w8.alloc (.cells #[.int .i64 ((q : Int) + 1)] 3 (0, 0))).ownsRow w.heap.size 3 1 (.slice A1 M.length c1) M.length (ivs M)) := own_below RW8.out ((Below.refl _ _).alloc (Nat.le_refl _) _)
                have HLOW : Hid (w.heap.size ≤ (w8.alloc (.cells #[.int .i64 ((q : Int) + 1)] 3 (0, 0))).heap.size) := Nat.le_trans HB38.out.size (by simp)
                have HB9 := hide (HB38.out.alloc HB38.out.size (.cells #[.int .i64 ((q : Int) + 1)] 3 (0, 0)))
                have HBW : Hid (Below w2.heap.size w2 (w8.alloc (.cells #[.int .i64 ((q : Int) + 1)] 3 (0, 0)))) := (HB23.out.trans (Below.mono L8.out HB23.out.size)).alloc (Nat.le_trans HB23.out.size L8.out.size) _
                go_wp2_with (at_builtin; refine wpList_append_ints _ rfl (.tmp 110) (.tmp 112) 40 rfl w.heap.size 3 j0 (.int .i64 0) Try.underlying40 hj hy0 hy1 hy2 rfl _ _ _ rfl RW.out _ (some ⟨_, 0, none⟩) 1 1 [(q : Int) + 1] rfl (ints_lit1 _ _ _ hid) (by omega) (by exact HLOW.out) ?_; intro v5 w5 o5 g5)
                have GO5 := hide (GO.out.took HXI.out hid HB5.out HT5.out HBW.out o5 g5)
                have HBE := hide (HB9.out.trans (g5.below RW.out HLOW.out))
                clear o5 g5
                go_wp2
                go_roundw
                case rel => exact ⟨t + 1, M ++ [(q : Int) + 1], v5, by omega, by go_num, rfl, GO5.out, by simp; omega, HBE.out⟩
                case measure => simp [Go.RowKit.intOf]; omega
          · have hno : itemAt (cleared L M) ((q : Int) + 1) = none := by
              by_cases hm : ((q : Int) + 1) ∈ M
              · exact item_gone hm
              · exact item_high GO.out.ids (by have : ¬ q < ps.length := fun h => hin ⟨h, hm⟩; omega)
            have HIN := hide hin
            have CT := hide (take_err _ ((q : Int) + 1) 8 wr (by decide) (fun w' hb => find_none ((q : Int) + 1) w' (GO.out.bag.later hb) hid hno))
            clear hin hno
            go_wp2_with (fail)
            refine CT.out.mono ?_
            rintro e w2 ⟨rfl, hb2⟩
            have HB2 := hide hb2
            clear hb2 CT
            go_wp2_with (refine wpList_store_box (by rfl) 42 _ _ (by rfl) (w2.heap.size) 0 (zcells) (by rfl) (by rfl) 42 (zcells) (heap_alloc_new w2 _) (by kernel_rfl) (by exact Nat.le_of_ble_eq_true rfl) (by exact zcells_one) ?_; intro w3 hb3 hg3; rw [put_zero] at hb3)
            have hB23 : Below w2.heap.size w2 w3 := ((Below.refl _ _).alloc (Nat.le_refl _) _).grown hg3 (by simp) (fun k hk => by have := Option.some.inj hk; omega)
            have hB13 : Below wr.heap.size wr w3 := HB2.out.trans (hB23.mono HB2.out.size)
            have GO3 := hide (GO.out.later hB13)
            have HB3 := hide (HB1.out.trans (hB13.mono HB1.out.size))
            have H11 := hide (H11w.out.below hB13)
            clear hb3 hg3 hB23 hB13 H11w
            go_loop [79, 17] (fun i u => ∃ k : Nat, k ≤ M.length ∧ i = .int .i64 (k : Int) ∧ u = .bool ((M.take k).contains ((q : Int) + 1))) (fun i _ => M.length - (Go.RowKit.intOf i).toNat)
            case atStart => exact ⟨0, by omega, rfl, by simp⟩
            case round =>
              obtain ⟨k, hk, rfl, rfl⟩ := hrel
              by_cases hkm : k < M.length
              · obtain ⟨q1, off1, rfl, _, hc⟩ := H11.out.at_ hkm
                have HSTEP := hide (contains_step M k ((q : Int) + 1) hkm)
                obtain ⟨y, hy⟩ : ∃ y, y = M.getD k 0 := ⟨_, rfl⟩
                rw [← hy] at hc HSTEP
                obtain ⟨p0, hp0⟩ : ∃ z, (M.take k).contains ((q : Int) + 1) = z := ⟨_, rfl⟩
                rw [hp0] at HSTEP ⊢
                obtain ⟨p1, hp1⟩ : ∃ z, (y == (q : Int) + 1) = z := ⟨_, rfl⟩
                rw [hp1] at HSTEP
                clear hy hp0
                cases p0 with
                | true =>
                  clear hp1
                  go_wp2
                  go_round
                  case rel => exact ⟨k + 1, by omega, by go_num, by rw [HSTEP.out]; rfl⟩
                  case measure => simp [Go.RowKit.intOf]; omega
                | false =>
                  go_wp2
                  go_round
                  case rel => exact ⟨k + 1, by omega, by go_num, by rw [HSTEP.out]; simp⟩
                  case measure => simp [Go.RowKit.intOf]; omega
              · obtain rfl : k = M.length := by omega
                rw [List.take_length]
                by_cases hm : ((q : Int) + 1) ∈ M
                · have hct : M.contains ((q : Int) + 1) = true := by simpa using hm
                  rw [hct]
                  clear hct hm
                  go_wp2
                  go_roundw
                  case rel => exact ⟨t + 1, M, _, by omega, by go_num, rfl, GO3.out, by omega, HB3.out⟩
                  case measure => simp [Go.RowKit.intOf]; omega
                · have hct : M.contains ((q : Int) + 1) = false := by simpa using hm
                  have hgt : decide ((ps.length : Int) < (q : Int) + 1) = true := decide_eq_true (by have : ¬ q < ps.length := fun h => HIN.out ⟨h, hm⟩; omega)
                  rw [hct]
                  clear hct hm
                  go_wp2
                  go_roundw
                  case rel => exact ⟨t + 1, M, _, by omega, by go_num, rfl, GO3.out, by omega, HB3.out⟩
                  case measure => simp [Go.RowKit.intOf]; omega
        · obtain rfl : t = ts.length := by omega
          obtain ⟨A1, c1, rfl, _, _, _⟩ := IHolds.of_own GO.out.row GO.out.fit
          have hcount := GO.out.count
          have hLk := HF.out.1
          have C1 := hide (ids_yes wr GO.out.bag (by omega))
          have HCN := hide hcount
          have HLK := hide hLk
          clear hcount hLk
          go_wp2_with (fail)
          refine C1.out.mono ?_
          rintro e w2 ⟨A2, n2, c2, rfl, _, hi2, _, hb2⟩
          have hn2 : (idsOf (cleared L M)).length = n2 := hi2.1
          have heq : ((n2 : Int) == (ps.length : Int) - (M.length : Int)) = true := by
            have h1 := HCN.out
            have h2 := HLK.out
            rw [idsOf_len] at hn2
            simp
            omega
          have HB2 := hide (HB1.out.trans (hb2.mono HB1.out.size))
          clear hi2 hb2 hn2 C1
          go_wp2_with (fail)
          refine (lives_any _).mono ?_
          rintro e w3 ⟨rfl, hb3⟩
          have HB3 := hide (HB2.out.trans (hb3.mono HB2.out.size))
          clear hb3
          go_wp2
          go_ret
          exact ⟨rfl, HB3.out⟩
end Go.Proofs.Ytaimnhlpdkpobaa
