/- The walk over droverlaw04.BagClears: those that go to a place are cleared, and no others. -/
import Derived.Test.YtaimnhlpdkpobaaClearK
namespace Go.Proofs.Ytaimnhlpdkpobaa
open Go.RowKit Go.Maps

theorem built_act (m : MsgD) (s o i : Value) : Try.prog.built 44 [(2, .agg (m.cells s o i).toArray)] = some (ActD.cells ⟨0, 0, m⟩ s o i).toArray := by kernel_rfl

set_option maxHeartbeats 2000000 in
set_option maxRecDepth 100000 in
theorem law_clears (F : Nat → Prop) (v : Value) (ps : List MsgV) (place : Int) (w : World) (hw : ∀ p ∈ ps, p.m.wf) (h : MsgsIn F w v ps) (_ : I64 place) :
    Calls Try.prog 8 #[v, .int .i64 place] w fun e w' => e = .returned (.bool true) ∧ Below w.heap.size w w' := by
  obtain ⟨i0, hi, hz0, hz1, hz2⟩ := info_parts Try.infoAct
  obtain ⟨j0, hj, hy0, hy1, hy2⟩ := info_parts Try.infoI64
  obtain ⟨A, c, rfl, h1, h2, _⟩ := FlatAt.shape h.1
  unfold maxLen at h2
  have H : Hid (MsgsIn (· < w.heap.size) w (.slice A ps.length c) ps) := h.mono (fun i hi _ => hi)
  have HW := hide hw
  have hz0i : I64 0 := ⟨by decide, by decide⟩
  clear h hw
  go_enter Try.func8, Try.ntmps8
  go_wp2_with (fail)
  refine (new_yes 100 w (by decide) (by decide)).mono ?_
  rintro e w1 ⟨g, b, rfl, hg, hb, hbl, hbag⟩
  have HBL := hide hbl
  have S0 : Hid (St w.heap.size w1 g b 0 [] (.slice none 0 0) (.slice none 0 0) [] []) :=
    ⟨hbag _ (fun h => h.1 rfl) (fun h => h.2.1 rfl), rfl, World.ownsRow_nil _ _ _ _, World.ownsRow_nil _ _ _ _, ⟨by simp [Value.ownBlock], by simp [Value.ownBlock]⟩, ⟨by simp [Value.ownBlock], by simp [Value.ownBlock]⟩, by simp [Value.ownBlock], hg, hb, hbl.size⟩
  clear hbl hbag
  by_cases hlong : 30 < ps.length
  · have hl1 : decide ((30 : Int) < (ps.length : Int)) = true := decide_eq_true (by omega)
    go_wp2_with (fail)
    refine (lives_any _).mono ?_
    rintro e w2 ⟨rfl, hb2⟩
    have HB2 := hide hb2
    clear hb2
    go_wp2
    go_ret
    exact ⟨rfl, HBL.out.trans (HB2.out.mono HBL.out.size)⟩
  · have hl1 : decide ((30 : Int) < (ps.length : Int)) = false := decide_eq_false (by omega)
    go_wp2
    go_loopw [25, 6, 7] (fun j v6 v7 wr => ∃ (k : Nat) (L : List Item) (u6 u7 : Value), k ≤ ps.length ∧ j = .int .i64 (k : Int) ∧ u6 = v6 ∧ u7 = v7 ∧ St w.heap.size wr g b k L u6 u7 (toOf L place) (restOf L place) ∧ Below w.heap.size w wr) (fun j _ _ _ => ps.length - (Go.RowKit.intOf j).toNat)
    case atStart => exact ⟨0, [], _, _, by omega, rfl, rfl, rfl, S0.out, HBL.out⟩
    case round =>
      obtain ⟨k, L, v6, v7, hk, rfl, rfl, rfl, hst, hb⟩ := hrel
      have ST := hide hst
      have HB := hide hb
      clear hst hb
      by_cases hkn : k < ps.length
      · obtain ⟨x, b', off, c', hx, hv, _, _, _, hr, hli⟩ := MsgsIn.at_ (H.out.kept (Kept.of_below HB.out _)) (k := k) hkn
        obtain ⟨rfl, rfl⟩ : A = some ⟨b', off, none⟩ ∧ c = c' := by injection hv with e1 _ e3; exact ⟨e1, e3⟩
        have hwx := HW.out x (List.mem_of_getElem? hx)
        have HR := hide hr
        have HWX := hide hwx
        obtain ⟨m, s, o, i⟩ := x
        obtain ⟨k1, k2, k3⟩ := hli.cell
        have HLI := hide hli
        clear hx hv hr hli hwx
        have HZ : Hid ((wr.alloc (.cells zcells 42 (0, 0))).heap[wr.heap.size]? = some (.cells zcells 42 (0, 0))) := heap_alloc_new _ _
        go_wp2_with (first
          | (refine wpList_load_mid (by rfl) 42 _ (by rfl) b' (off + k * 34) (by rfl) _ _ HR.out Try.underlying42 (by rfl) (by kernel_rfl) ?_)
          | (refine wpList_store_box (by rfl) 42 _ _ (by rfl) (wr.heap.size) 0 ((m.cells s o i).toArray) (by rfl) (by rfl) 42 (zcells) (HZ.out) (by kernel_rfl) (by exact Nat.le_of_ble_eq_true rfl) (by exact m.one k1 k2 k3) ?_; intro w2 hb2 hg2; rw [put_zmsg] at hb2)
          | (refine wpList_load_box (by rfl) 42 _ (by rfl) (wr.heap.size) 0 (by rfl) 42 _ (hb2) 34 _ Try.underlying42 (by rfl) (by kernel_rfl) (m.cells s o i) (by rfl) (by rfl) ?_)
          | (refine wpList_build_one (by rfl) 44 2 _ (by rfl) (.agg (m.cells s o i).toArray) (by rfl) _ (built_act m s o i) ?_)
          | (refine wpList_buildSlice_one (by rfl) 22 44 _ (by rfl) i0 _ 36 Try.underlying22 hi hz0 hz1 (by decide) (by decide) (ActD.cells ⟨0, 0, m⟩ s o i).toArray (by rfl) (by rfl) ?_))
        have hB2 : Below wr.heap.size wr w2 := ((Below.refl _ _).alloc (Nat.le_refl _) _).grown hg2 (by simp) (fun k hk => by have := Option.some.inj hk; omega)
        have hlt2 : wr.heap.size < w2.heap.size := lt_of_block hb2
        refine (light_any (fun _ => True) _ [⟨⟨0, 0, m⟩, s, o, i⟩] _ (acts_one (a := ⟨0, 0, m⟩) (HLI.out.kept (Kept.of_below hB2 _)) ((Below.refl _ _).alloc (Nat.le_refl _) _) (heap_alloc_new w2 _)) (fun p hp => by rw [List.mem_singleton.1 hp]; exact ⟨hz0i, hz0i, HWX.out⟩)).mono ?_
        rintro e w3 ⟨bl, rfl, hok, hb3⟩
        have hB3 : Below w2.heap.size w2 w3 := ((Below.refl _ _).alloc (Nat.le_refl _) _).trans (Below.mono hb3 (by simp))
        have hB13 : Below wr.heap.size wr w3 := hB2.trans (hB3.mono hB2.size)
        have BX3 : w3.heap[wr.heap.size]? = some (.cells (m.cells s o i).toArray 42 (0, 0)) := (hB3.block _ hlt2).trans hb2
        have ST3 := hide (ST.out.later hB13)
        have HB3 := hide (HB.out.trans (hB13.mono HB.out.size))
        have HLI3 : Hid (Lists (· < w.heap.size) w3 m s o i) := HLI.out.kept (Kept.of_below hB13 _)
        have HS3 : Hid (wr.heap.size < w3.heap.size) := Nat.lt_of_lt_of_le hlt2 hB3.size
        have HOK := hide hok
        have HG : Hid (g < wr.heap.size ∧ b < wr.heap.size) := ST.out.bag.lt
        clear hb2 hg2 hB2 hlt2 hok hb3 hB3 hB13 HZ
        cases bl with
        | false =>
          go_wp2_with (fail)
          refine (lives_any _).mono ?_
          rintro e w4 ⟨rfl, hb4⟩
          have HB4 := hide hb4
          clear hb4
          go_wp2
          go_ret
          exact ⟨rfl, HB3.out.trans (HB4.out.mono HB3.out.size)⟩
        | true =>
          have hmok : m.ok := (HOK.out rfl).2 ⟨⟨0, 0, m⟩, s, o, i⟩ (by simp)
          have hLk := ST3.out.len
          have CP := hide (put_yes m _ w3 ST3.out.bag (by omega) (by omega) ⟨s, o, i, rfl, HLI3.out.mono (fun q _ hq => ST3.out.old q hq)⟩ hmok (fun q hq => ST3.out.new q hq))
          have HLk := hide hLk
          clear hmok hLk
          go_wp2_with (refine wpList_load_box (by rfl) 42 _ (by rfl) (wr.heap.size) 0 (by rfl) 42 _ (BX3) 34 _ Try.underlying42 (by rfl) (by kernel_rfl) (m.cells s o i) (by rfl) (by rfl) ?_)
          refine CP.out.mono ?_
          rintro e w4 ⟨v4, rfl, B4, T4⟩
          have hlt3 := HS3.out
          obtain ⟨hg4, hb4⟩ := HG.out
          have BX4 : w4.heap[wr.heap.size]? = some (.cells (m.cells s o i).toArray 42 (0, 0)) := (T4.block _ hlt3 (by rintro (e | e) <;> omega)).trans BX3
          have c2 := box_cell BX4 2 (.int .i64 m.dst) (by rfl)
          have HB4 := hide (HB3.out.trans (ST3.out.below T4))
          have ST4 := hide (ST3.out.put B4 T4)
          have HRI := hide B4.rise
          have hki : I64 ((k : Int) + 1) := ⟨by omega, by omega⟩
          have hto := toOf_le L place
          have hre := restOf_le L place
          have hLk := HLk.out
          have ST5 : Hid (St w.heap.size (w4.alloc (.cells #[.int .i64 ((k : Int) + 1)] 3 (0, 0))) g b (k + 1) _ v6 v7 (toOf L place) (restOf L place)) := ST4.out.later ((Below.refl _ _).alloc (Nat.le_refl _) _)
          have HB5 : Hid (Below w.heap.size w (w4.alloc (.cells #[.int .i64 ((k : Int) + 1)] 3 (0, 0)))) := HB4.out.alloc HB4.out.size _
          clear B4 T4 BX3 BX4 CP
          by_cases hd : m.dst = place
          · have hd1 : decide (m.dst = place) = true := decide_eq_true hd
            have hd2 : (m.dst == place) = true := by simpa using hd
            have HD := hide hd
            clear hd
            go_wp2_with (at_builtin; refine wpList_append_ints _ rfl (.tmp 43) (.tmp 46) 40 rfl w.heap.size 3 j0 (.int .i64 0) Try.underlying40 hj hy0 hy1 hy2 rfl _ _ _ rfl ST5.out.mine _ (some ⟨w4.heap.size, 0, none⟩) 1 1 [(k : Int) + 1] rfl (ints_lit1 w4 _ _ hki) (by omega) ST5.out.low.2.2 ?_; intro v5 w5 o5 g5)
            have ST6 := hide (ST5.out.app6 o5 g5)
            have HB6 := hide (HB5.out.trans (g5.below ST5.out.mine ST5.out.low.2.2))
            clear o5 g5
            go_wp2
            go_roundw
            case rel =>
              refine ⟨k + 1, L ++ [⟨(k : Int) + 1, v4, m⟩], v5, v7, by omega, by go_num, rfl, rfl, ?_, HB6.out⟩
              rw [toOf_snoc HRI.out, restOf_snoc, if_pos HD.out, if_pos HD.out, List.append_nil]
              exact ST6.out
            case measure => simp [Go.RowKit.intOf]; omega
          · have hd1 : decide (m.dst = place) = false := decide_eq_false hd
            have hd2 : (m.dst == place) = false := by simpa using hd
            have HD := hide hd
            clear hd
            go_wp2_with (at_builtin; refine wpList_append_ints _ rfl (.tmp 48) (.tmp 51) 40 rfl w.heap.size 3 j0 (.int .i64 0) Try.underlying40 hj hy0 hy1 hy2 rfl _ _ _ rfl ST5.out.oth _ (some ⟨w4.heap.size, 0, none⟩) 1 1 [(k : Int) + 1] rfl (ints_lit1 w4 _ _ hki) (by omega) ST5.out.low.2.2 ?_; intro v5 w5 o5 g5)
            have ST6 := hide (ST5.out.app7 o5 g5)
            have HB6 := hide (HB5.out.trans (g5.below ST5.out.oth ST5.out.low.2.2))
            clear o5 g5
            go_wp2
            go_roundw
            case rel =>
              refine ⟨k + 1, L ++ [⟨(k : Int) + 1, v4, m⟩], v6, v5, by omega, by go_num, rfl, rfl, ?_, HB6.out⟩
              rw [toOf_snoc HRI.out, restOf_snoc, if_neg HD.out, if_neg HD.out, List.append_nil]
              exact ST6.out
            case measure => simp [Go.RowKit.intOf]; omega
      · obtain rfl : k = ps.length := by omega
        have hf := ST.out.bag.fit (by omega)
        have hto := toOf_le L place
        have hre := restOf_le L place
        have hLk := ST.out.len
        obtain ⟨A6, c6, rfl, _, _, h6⟩ := IHolds.of_own ST.out.mine (toOf_fit hf place)
        have hf7 : Fit (restOf L place) := fun x hx => by
          obtain ⟨y, hy, rfl⟩ := List.mem_map.1 hx
          exact hf _ (List.mem_map_of_mem (List.mem_filter.1 hy).1)
        obtain ⟨A7, c7, rfl, _, _, h7⟩ := IHolds.of_own ST.out.oth hf7
        have HF7 := hide hf7
        have H6 := hide h6
        clear h6 h7 hf hf7
        have C1 := hide (to_yes place wr ST.out.bag (by omega))
        go_wp2_with (fail)
        refine C1.out.mono ?_
        rintro e w1 ⟨A1, n1, c1, rfl, _, hi1, _, hb1⟩
        have hn1 : (toOf L place).length = n1 := hi1.1
        have C2 := hide (refints_any A1 A6 n1 c1 _ c6 _ _ _ _ w1 hi1 (H6.out.below hb1) (by omega) (by omega))
        rw [eqI_self] at C2
        have ST1 := hide (ST.out.later hb1)
        have HB1 := hide (HB.out.trans (hb1.mono HB.out.size))
        have HN1 := hide hn1
        clear hi1 hb1 C1 hn1
        go_wp2_with (fail)
        refine C2.out.mono ?_
        rintro e w2 ⟨rfl, q2, rfl⟩
        have ST2 := hide (ST1.out.later (below_drewN _ w1 q2))
        have HB2 := hide (HB1.out.trans (below_drewN _ w1 q2))
        have C3 := hide (clear_yes place _ ST2.out.bag (by omega))
        clear C2
        go_wp2_with (fail)
        refine C3.out.mono ?_
        rintro e w3 ⟨rfl, B3, T3⟩
        have hlow := ST2.out.low
        have hgb := ST2.out.bag.lt
        have HRI := hide ST2.out.bag.rise
        have BL3 := hide (HB2.out.trans (T3.below (fun i e => by rw [e]; exact hlow.2.1) hlow.2.2))
        have O3 := hide (own_turned ST2.out.oth T3 (fun q e => by rintro rfl; exact ST2.out.seven.2 e))
        have C4 := hide (ids_yes w3 B3 (by omega))
        have HB3 := hide B3
        clear C3 B3 T3 hlow hgb
        go_wp2_with (fail)
        refine C4.out.mono ?_
        rintro e w4 ⟨A4, n4, c4, rfl, _, hi4, _, hb4⟩
        obtain ⟨A7', c7', e7, _, _, h7⟩ := IHolds.of_own (own_below O3.out hb4) HF7.out
        obtain ⟨rfl, rfl⟩ : A7 = A7' ∧ c7 = c7' := by injection e7 with e1 _ e3; exact ⟨e1, e3⟩
        have hn4 : (restOf L place).length = n4 := hi4.1
        have C5 := hide (refints_any A4 A7 n4 c4 _ c7 _ _ _ _ w4 hi4 h7 (by omega) (by omega))
        change Hid (Calls _ _ _ _ fun e w' => e = .returned (.bool (eqI (restOf L place) (restOf L place))) ∧ _) at C5
        rw [eqI_self] at C5
        have BL4 := hide (BL3.out.trans (hb4.mono BL3.out.size))
        have HB4 := hide (HB3.out.later hb4)
        clear hi4 hb4 h7 e7 C4 hn4
        go_wp2_with (fail)
        refine C5.out.mono ?_
        rintro e w5 ⟨rfl, q5, rfl⟩
        have BL5 := hide (BL4.out.trans (below_drewN _ w4 q5))
        have C6 := hide (clear_yes place _ (HB4.out.later (below_drewN _ w4 q5)) (by omega))
        clear C5
        go_wp2_with (fail)
        refine C6.out.mono ?_
        rintro e w6 ⟨he, B6, T6⟩
        obtain rfl : e = .returned (.int .i64 0) := by rw [he, toOf_rest HRI.out]; rfl
        have BL6 := hide (BL5.out.trans (T6.below (fun i e => by rw [e]; exact ST2.out.low.2.1) BL5.out.size))
        clear he B6 T6 C6
        go_wp2_with (fail)
        refine (lives_any _).mono ?_
        rintro e w7 ⟨rfl, hb7⟩
        have BL7 := hide (BL6.out.trans (hb7.mono BL6.out.size))
        clear hb7
        go_wp2
        go_ret
        exact ⟨rfl, BL7.out⟩
end Go.Proofs.Ytaimnhlpdkpobaa
