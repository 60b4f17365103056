/- The walk over droverlaw04.BagActs: whatever is done to a bag, it is the document's. -/
import Derived.Test.YtaimnhlpdkpobaaBPair
import Derived.Test.YtaimnhlpdkpobaaLight
import Derived.Test.YtaimnhlpdkpobaaRefInts
import Derived.Test.YtaimnhlpdkpobaaChain
import Derived.Deep.CutBlock
namespace Go.Proofs.Ytaimnhlpdkpobaa
open Go.RowKit

theorem act4_cells {w : World} {g : Nat} {a0 a1 : Int} {m : MsgD} {s o i : Value} (h : w.heap[g]? = some (.cells (ActV.cells ⟨⟨a0, a1, m⟩, s, o, i⟩).toArray 44 (0, 0))) :
    w.cell? ⟨g, 0, none⟩ = some (.int .i64 a0) ∧ w.cell? ⟨g, 1, none⟩ = some (.int .i64 a1) :=
  ⟨box_at h 0 _ (by rfl), box_at h 1 _ (by rfl)⟩

set_option maxHeartbeats 100000000 in
set_option maxRecDepth 100000 in
theorem law_acts (most : Int) (v : Value) (ps : List ActV) (w : World) (_hm : I64 most) (h : ActsIn (· < w.heap.size) w v ps) (hw : ∀ p ∈ ps, p.a.wf) :
    Calls Try.prog 3 #[.int .i64 most, v] w fun e w' => e = .returned (.bool true) ∧ Below w.heap.size w w' := by
  have LG := hide (light_any _ v ps w h hw)
  have LIVE : Hid (∀ w', Calls Try.prog 10 #[] w' fun e w'' => e = .returned (.bool true) ∧ Below w'.heap.size w' w'') := lives_any
  have H := hide h
  have HWF := hide hw
  obtain ⟨A, cp, rfl, h1, h2, _⟩ := FlatAt.shape h.1
  unfold maxLen at h2
  clear h hw _hm
  go_enter Try.func3, Try.ntmps3
  go_wp2_with (fail)
  refine LG.out.mono ?_
  rintro e w1 ⟨bl, rfl, hok, hb1⟩
  have HBW := hide hb1
  have HOK := hide hok
  clear hb1 hok LG
  cases bl with
  | false =>
    go_wp2_with (fail)
    refine (LIVE.out _).mono ?_
    rintro e w2 ⟨rfl, hb2⟩
    have B2 := hide (HBW.out.trans (hb2.mono HBW.out.size))
    clear hb2
    go_wp2
    go_ret
    exact ⟨rfl, B2.out⟩
  | true =>
    by_cases hmost : 0 ≤ most ∧ most ≤ 10000
    · obtain ⟨hm0, hm1⟩ := hmost
      have CN := hide (new_yes most w1 hm0 hm1)
      have CR := hide (fun w' => refnew_yes most w' hm0 hm1)
      clear hm0 hm1
      go_wp2_with (fail)
      refine CN.out.mono ?_
      rintro e w2 ⟨g, b, rfl, hg2, hb2, hbl2, hbag⟩
      have HBAG := hide hbag
      have HGB : Hid (w1.heap.size ≤ g ∧ w1.heap.size ≤ b) := ⟨hg2, hb2⟩
      have BL2 := hide hbl2
      clear hg2 hb2 hbl2 hbag
      go_wp2_with (fail)
      refine (CR.out _).mono ?_
      rintro e w3 ⟨rfl, hw3⟩
      obtain ⟨r, hr⟩ : ∃ r, r = w2.heap.size := ⟨_, rfl⟩
      have P3 : Hid (BP0 w1.heap.size w3 g b r most 0 []) := by
        have hb23 : Below w2.heap.size w2 w3 := by rw [hw3]; exact (Below.refl _ _).alloc (Nat.le_refl _) _
        have hc3 : w3.heap[w2.heap.size]? = some (.cells #[.int .i64 most, .int .i64 0, .slice none 0 0] 79 (0, 0)) := by rw [hw3]; exact heap_alloc_new _ _
        have hs3 : w3.heap.size = w2.heap.size + 1 := by rw [hw3]; simp
        have hbg := HBAG.out (Else3 g b r) (fun h => h.1 rfl) (fun h => h.2.1 rfl)
        have hlt := hbg.lt
        have hz := BL2.out.size
        exact ⟨⟨[], rfl, hbg.later hb23⟩, ⟨.slice none 0 0, [], ⟨rfl, by rw [hr]; exact hc3, ItemsIn.nil_ _ _, fun h => h.2.2 rfl, fun j hj => ⟨by omega, by omega, by omega⟩, by simp⟩⟩, by omega, by omega, HGB.out.1, HGB.out.2, by omega⟩
      have BL3 : Hid (Below w1.heap.size w1 w3) := by
        have hb23 : Below w2.heap.size w2 w3 := by rw [hw3]; exact (Below.refl _ _).alloc (Nat.le_refl _) _
        exact BL2.out.trans (hb23.mono BL2.out.size)
      rw [← hr]
      clear hw3 hr HBAG HGB BL2
      go_wp2
      go_loopw [44] (fun j wr => ∃ (k last : Nat) (Q : List (Int × MsgD)), k ≤ ps.length ∧ j = .int .i64 (k : Int) ∧ last ≤ k ∧ BP0 w1.heap.size wr g b r most last Q ∧ Below w1.heap.size w1 wr) (fun j _ => ps.length - (Go.RowKit.intOf j).toNat)
      case atStart => exact ⟨0, 0, [], by omega, rfl, by omega, P3.out, BL3.out⟩
      case round =>
        obtain ⟨k, last, Q, hk, rfl, hlk, hp, hb⟩ := hrel
        have PR := hide hp
        have BL := hide hb
        clear hp hb P3 BL3
        by_cases hkn : k < ps.length
        · have hk60 : ps.length ≤ 60 := (HOK.out trivial).1
          obtain ⟨x, b0, off, c', hx, hv, _, hbf, _, hr, hli⟩ := ActsIn.at_ (H.out.kept (Kept.of_below (HBW.out.trans (BL.out.mono HBW.out.size)) _)) (k := k) hkn
          obtain ⟨rfl, rfl⟩ : A = some ⟨b0, off, none⟩ ∧ cp = c' := by injection hv with e1 _ e3; exact ⟨e1, e3⟩
          have HAOK : Hid (x.a.m.ok) := (HOK.out trivial).2 x (List.mem_of_getElem? hx)
          have hwf := HWF.out x (List.mem_of_getElem? hx)
          have HR := hide hr
          obtain ⟨⟨a0, a1, m⟩, s, o, i⟩ := x
          have HI1 : Hid (I64 a1) := hwf.2.1
          obtain ⟨k1, k2, k3⟩ := hli.cell
          have AL : Hid (∀ w', Kept (fun i => i < w1.heap.size) wr w' → Lists (· < w1.heap.size) w' m s o i) := fun w' hb => (hli.mono fun i _ hi => Nat.lt_of_lt_of_le hi HBW.out.size).kept hb
          have HZ : Hid ((wr.alloc (.cells actZero 44 (0, 0))).heap[wr.heap.size]? = some (.cells actZero 44 (0, 0))) := heap_alloc_new _ _
          have HLK : Hid (last ≤ k ∧ k < 60) := ⟨hlk, by omega⟩
          clear hx hv hr hli hwf hbf hlk hk60
          go_upto_block 2 with (first | (refine wpList_load_mid (by rfl) 44 _ (by rfl) b0 (off + k * 36) (by rfl) _ _ HR.out Try.underlying44 (by rfl) (by kernel_rfl) ?_) | (refine wpList_store_box (by rfl) 44 _ _ (by rfl) wr.heap.size 0 (ActV.cells ⟨⟨a0, a1, m⟩, s, o, i⟩).toArray (by rfl) (by rfl) 44 actZero HZ.out (by kernel_rfl) (by exact Nat.le_of_ble_eq_true rfl) (by exact act_one _ k1 k2 k3) ?_; intro w2 hb2 hg2; rw [put_act] at hb2; have X2 := hide hb2; have Q2h : Hid (Below wr.heap.size wr w2) := ((Below.refl _ _).alloc (Nat.le_refl _) _).grown hg2 (by simp) (fun k hk => by have := Option.some.inj hk; omega); obtain ⟨e0, e1⟩ := act4_cells X2.out; clear hb2 hg2))
          clear e0 e1
          have P2 : Hid (BP w1.heap.size w2 g b r wr.heap.size most last Q last Q) := PR.out.with Q2h.out (lt_of_block X2.out) (by have := HLK.out; omega)
          have KB2 : Hid (Kept (fun i => i < w1.heap.size) wr w2) := Kept.of_below Q2h.out _
          have BB2 : Hid (Below w1.heap.size w1 w2) := BL.out.trans (Q2h.out.mono BL.out.size)
          go_cut [9] from 45 to 180 (fun s9 wx => s9 = .bool true ∧ ∃ last2 Q2, last2 ≤ last + 1 ∧ BP w1.heap.size wx g b r wr.heap.size most last2 Q2 last2 Q2 ∧ wx.heap[wr.heap.size]? = some (.cells (ActV.cells ⟨⟨a0, a1, m⟩, s, o, i⟩).toArray 44 (0, 0)) ∧ Below w1.heap.size w1 wx)
          case first =>
            by_cases hkd0 : a0 = 0
            · as_aux_lemma =>
                have hk0 : (a0 == 0) = true := by simpa using hkd0
                clear hkd0
                obtain ⟨z1, hz1⟩ : ∃ z1, (putQ most last Q m).1 = z1 := ⟨_, rfl⟩
                have HZ1v := hide hz1
                clear hz1
                obtain ⟨z2, hz2⟩ : ∃ z2, (putQ most last Q m).2.1 = z2 := ⟨_, rfl⟩
                have HZ2v := hide hz2
                clear hz2
                go_wp2_with (refine wpList_val rfl (by rfl) (exec_load_box 42 _ (by rfl) wr.heap.size 2 (by rfl) 44 _ X2.out 34 _ Try.underlying42 (by rfl) (by kernel_rfl) (m.cells s o i) (by rfl) (by rfl)) ?_)
                refine (bp_put m s o i P2.out (AL.out _ KB2.out) HAOK.out (by have := HLK.out; omega)).mono ?_
                rw [HZ1v.out, HZ2v.out]
                rintro e w3 ⟨rfl, p3, q3⟩
                have P3 := hide p3
                have X3 : Hid (w3.heap[wr.heap.size]? = some (.cells (ActV.cells ⟨⟨a0, a1, m⟩, s, o, i⟩).toArray 44 (0, 0))) := (q3.1.2 _ P2.out.box.2.1 P2.out.bxe).trans X2.out
                have KB3 : Hid (Kept (fun i => i < w1.heap.size) wr w3) := KB2.out.trans (q3.low P2.out.lows)
                have BB3 : Hid (Below w1.heap.size w1 w3) := BB2.out.trans (show Below w1.heap.size w2 w3 by first | exact q3.2 | exact (Below.refl _ _).drew.trans q3.2)
                clear p3 q3
                go_wp2_with (refine wpList_val rfl (by rfl) (exec_load_box 42 _ (by rfl) wr.heap.size 2 (by rfl) 44 _ X3.out 34 _ Try.underlying42 (by rfl) (by kernel_rfl) (m.cells s o i) (by rfl) (by rfl)) ?_)
                refine (bp_refput m s o i P3.out (AL.out _ KB3.out) (by have := HLK.out; omega) (by have h1 := P2.out.len; have h2 := HLK.out; omega)).mono ?_
                rw [HZ1v.out, HZ2v.out]
                rintro e w4 ⟨rfl, p4, q4⟩
                have P4 := hide p4
                have X4 : Hid (w4.heap[wr.heap.size]? = some (.cells (ActV.cells ⟨⟨a0, a1, m⟩, s, o, i⟩).toArray 44 (0, 0))) := (q4.1.2 _ P3.out.box.2.1 P3.out.bxe).trans X3.out
                have KB4 : Hid (Kept (fun i => i < w1.heap.size) wr w4) := KB3.out.trans (q4.low P3.out.lows)
                have BB4 : Hid (Below w1.heap.size w1 w4) := BB3.out.trans (show Below w1.heap.size w3 w4 by first | exact q4.2 | exact (Below.refl _ _).drew.trans q4.2)
                clear p4 q4
                go_wp2
                go_meet
                case rel => exact ⟨by first | rfl | simp, _, _, put_le, P4.out, X4.out, BB4.out⟩
            by_cases hkd1 : a0 = 1
            · as_aux_lemma =>
                have hk0 : (a0 == 0) = false := by simpa using hkd0
                have hk1 : (a0 == 1) = true := by simpa using hkd1
                clear hkd0 hkd1
                obtain ⟨y0, hy0⟩ : ∃ y0, (takeQ Q a1).1 = y0 := ⟨_, rfl⟩
                have HY0 := hide hy0
                clear hy0
                obtain ⟨y1, hy1⟩ : ∃ y1, (takeQ Q a1).2 = y1 := ⟨_, rfl⟩
                have HY1 := hide hy1
                clear hy1
                obtain ⟨e0, e1⟩ := act4_cells X2.out
                go_wp2_with (fail)
                clear e0 e1
                refine (bp_take a1 P2.out HI1.out).mono ?_
                rw [HY0.out, HY1.out]
                rintro e w3 ⟨⟨s3, o3, i3, rfl, hl3⟩, p3, q3⟩
                obtain ⟨j1, j2, j3⟩ := hl3.cell
                have HL3 := hide hl3
                have P3 := hide p3
                have X3 : Hid (w3.heap[wr.heap.size]? = some (.cells (ActV.cells ⟨⟨a0, a1, m⟩, s, o, i⟩).toArray 44 (0, 0))) := (q3.1.2 _ P2.out.box.2.1 P2.out.bxe).trans X2.out
                have KB3 : Hid (Kept (fun i => i < w1.heap.size) wr w3) := KB2.out.trans (q3.low P2.out.lows)
                have BB3 : Hid (Below w1.heap.size w1 w3) := BB2.out.trans (show Below w1.heap.size w2 w3 by first | exact q3.2 | exact (Below.refl _ _).drew.trans q3.2)
                clear p3 q3 hl3
                go_wp2_with (refine wpList_store_box (by rfl) 42 _ _ (by rfl) w3.heap.size 0 (y0.cells s3 o3 i3).toArray (by rfl) (by rfl) 42 (zcells) (heap_alloc_new w3 _) (by kernel_rfl) (by exact Nat.le_of_ble_eq_true rfl) (by exact y0.one j1 j2 j3) ?_; intro w4 hx hg; rw [put_zmsg] at hx; have B34 : Below w3.heap.size w3 w4 := ((Below.refl _ _).alloc (Nat.le_refl _) _).grown hg (by simp) (fun k hk => by have := Option.some.inj hk; omega); have HB34 := hide B34; have V4 := hide hx; obtain ⟨e0, e1⟩ := act4_cells ((B34.block _ (lt_of_block X3.out)).trans X3.out); clear hx hg B34)
                clear e0 e1
                have P4 := hide (P3.out.later HB34.out)
                have X4 : Hid (w4.heap[wr.heap.size]? = some (.cells (ActV.cells ⟨⟨a0, a1, m⟩, s, o, i⟩).toArray 44 (0, 0))) := ((HB34.out).block _ (lt_of_block X3.out)).trans X3.out
                have KB4 : Hid (Kept (fun i => i < w1.heap.size) wr w4) := KB3.out.trans (Kept.of_below (HB34.out) _)
                have BB4 : Hid (Below w1.heap.size w1 w4) := BB3.out.trans ((HB34.out).mono (show w1.heap.size ≤ w3.heap.size from P3.out.blt))
                have HL4 := hide (HL3.out.kept (Kept.of_below HB34.out _))
                have HE4 : Hid (Else3 g b r w3.heap.size) := else_new P3.out (Nat.le_refl _)
                refine (bp_reftake a1 P4.out P2.out.rise).mono ?_
                rw [HY0.out, HY1.out]
                rintro e w5 ⟨⟨s5, o5, i5, rfl, hl5⟩, p5, q5⟩
                obtain ⟨j4, j5, j6⟩ := hl5.cell
                have HL5 := hide hl5
                have V5 := hide ((q5.1.2 _ (lt_of_block V4.out) HE4.out).trans V4.out)
                have HL4b := hide (HL4.out.kept q5.1)
                have P5 := hide p5
                have X5 : Hid (w5.heap[wr.heap.size]? = some (.cells (ActV.cells ⟨⟨a0, a1, m⟩, s, o, i⟩).toArray 44 (0, 0))) := (q5.1.2 _ P4.out.box.2.1 P4.out.bxe).trans X4.out
                have KB5 : Hid (Kept (fun i => i < w1.heap.size) wr w5) := KB4.out.trans (q5.low P4.out.lows)
                have BB5 : Hid (Below w1.heap.size w1 w5) := BB4.out.trans (show Below w1.heap.size w4 w5 by first | exact q5.2 | exact (Below.refl _ _).drew.trans q5.2)
                clear p5 q5 hl5
                go_wp2_with (first
                  | (refine wpList_store_box (by rfl) 42 _ _ (by rfl) w5.heap.size 0 (y0.cells s5 o5 i5).toArray (by rfl) (by rfl) 42 (zcells) (heap_alloc_new w5 _) (by kernel_rfl) (by exact Nat.le_of_ble_eq_true rfl) (by exact y0.one j4 j5 j6) ?_; intro w6 hx hg; rw [put_zmsg] at hx; have B56 : Below w5.heap.size w5 w6 := ((Below.refl _ _).alloc (Nat.le_refl _) _).grown hg (by simp) (fun k hk => by have := Option.some.inj hk; omega); have HB56 := hide B56; have W6 := hide hx; have V6 := hide ((B56.block _ (lt_of_block V5.out)).trans V5.out); clear hx hg B56)
                  | (refine wpList_val rfl (by rfl) (exec_load_box 42 _ (by rfl) w3.heap.size 0 (by rfl) 42 _ V6.out 34 _ Try.underlying42 (by rfl) (by kernel_rfl) (y0.cells s3 o3 i3) (by rfl) (by rfl)) ?_)
                  | (refine wpList_val rfl (by rfl) (exec_load_box 42 _ (by rfl) w5.heap.size 0 (by rfl) 42 _ W6.out 34 _ Try.underlying42 (by rfl) (by kernel_rfl) (y0.cells s5 o5 i5) (by rfl) (by rfl)) ?_))
                have P6 := hide (P5.out.later HB56.out)
                have X6 : Hid (w6.heap[wr.heap.size]? = some (.cells (ActV.cells ⟨⟨a0, a1, m⟩, s, o, i⟩).toArray 44 (0, 0))) := ((HB56.out).block _ (lt_of_block X5.out)).trans X5.out
                have KB6 : Hid (Kept (fun i => i < w1.heap.size) wr w6) := KB5.out.trans (Kept.of_below (HB56.out) _)
                have BB6 : Hid (Below w1.heap.size w1 w6) := BB5.out.trans ((HB56.out).mono (show w1.heap.size ≤ w5.heap.size from P5.out.blt))
                refine (same_self y0 (HL4b.out.kept (Kept.of_below HB56.out _)) (HL5.out.kept (Kept.of_below HB56.out _))).mono ?_
                rintro e w7 ⟨rfl, hb7⟩
                have HB7 := hide hb7
                clear hb7
                have P7 := hide (P6.out.later HB7.out)
                have X7 : Hid (w7.heap[wr.heap.size]? = some (.cells (ActV.cells ⟨⟨a0, a1, m⟩, s, o, i⟩).toArray 44 (0, 0))) := ((HB7.out).block _ (lt_of_block X6.out)).trans X6.out
                have KB7 : Hid (Kept (fun i => i < w1.heap.size) wr w7) := KB6.out.trans (Kept.of_below (HB7.out) _)
                have BB7 : Hid (Below w1.heap.size w1 w7) := BB6.out.trans ((HB7.out).mono (show w1.heap.size ≤ w6.heap.size from P6.out.blt))
                go_wp2
                go_meet
                case rel => exact ⟨by first | rfl | simp, _, _, (Nat.le_succ _), P7.out, X7.out, BB7.out⟩
            by_cases hkd2 : a0 = 2
            · as_aux_lemma =>
                have hk0 : (a0 == 0) = false := by simpa using hkd0
                have hk1 : (a0 == 1) = false := by simpa using hkd1
                have hk2 : (a0 == 2) = true := by simpa using hkd2
                clear hkd0 hkd1 hkd2
                obtain ⟨z1, hz1⟩ : ∃ z1, (twiceQ most last Q a1).1 = z1 := ⟨_, rfl⟩
                have HZ1v := hide hz1
                clear hz1
                obtain ⟨z2, hz2⟩ : ∃ z2, (twiceQ most last Q a1).2.1 = z2 := ⟨_, rfl⟩
                have HZ2v := hide hz2
                clear hz2
                obtain ⟨e0, e1⟩ := act4_cells X2.out
                go_wp2_with (fail)
                clear e0 e1
                refine (bp_twice a1 P2.out HI1.out (by have := HLK.out; omega)).mono ?_
                rw [HZ1v.out, HZ2v.out]
                rintro e w3 ⟨rfl, p3, q3⟩
                have P3 := hide p3
                have X3 : Hid (w3.heap[wr.heap.size]? = some (.cells (ActV.cells ⟨⟨a0, a1, m⟩, s, o, i⟩).toArray 44 (0, 0))) := (q3.1.2 _ P2.out.box.2.1 P2.out.bxe).trans X2.out
                have KB3 : Hid (Kept (fun i => i < w1.heap.size) wr w3) := KB2.out.trans (q3.low P2.out.lows)
                have BB3 : Hid (Below w1.heap.size w1 w3) := BB2.out.trans (show Below w1.heap.size w2 w3 by first | exact q3.2 | exact (Below.refl _ _).drew.trans q3.2)
                clear p3 q3
                obtain ⟨e0, e1⟩ := act4_cells X3.out
                go_wp2_with (fail)
                clear e0 e1
                refine (bp_reftwice a1 P3.out (by have := HLK.out; omega) (by have h1 := P2.out.len; have h2 := HLK.out; omega)).mono ?_
                rw [HZ1v.out, HZ2v.out]
                rintro e w4 ⟨rfl, p4, q4⟩
                have P4 := hide p4
                have X4 : Hid (w4.heap[wr.heap.size]? = some (.cells (ActV.cells ⟨⟨a0, a1, m⟩, s, o, i⟩).toArray 44 (0, 0))) := (q4.1.2 _ P3.out.box.2.1 P3.out.bxe).trans X3.out
                have KB4 : Hid (Kept (fun i => i < w1.heap.size) wr w4) := KB3.out.trans (q4.low P3.out.lows)
                have BB4 : Hid (Below w1.heap.size w1 w4) := BB3.out.trans (show Below w1.heap.size w3 w4 by first | exact q4.2 | exact (Below.refl _ _).drew.trans q4.2)
                clear p4 q4
                go_wp2
                go_meet
                case rel => exact ⟨by first | rfl | simp, _, _, twice_le, P4.out, X4.out, BB4.out⟩
            by_cases hkd3 : a0 = 3
            · as_aux_lemma =>
                have hk0 : (a0 == 0) = false := by simpa using hkd0
                have hk1 : (a0 == 1) = false := by simpa using hkd1
                have hk2 : (a0 == 2) = false := by simpa using hkd2
                have hk3 : (a0 == 3) = true := by simpa using hkd3
                clear hkd0 hkd1 hkd2 hkd3
                obtain ⟨z1, hz1⟩ : ∃ z1, ((toQ Q a1).length : Int) = z1 := ⟨_, rfl⟩
                have HZ1v := hide hz1
                clear hz1
                have HFIT := hide P2.out.fit
                have HRISE := hide P2.out.rise
                go_wp2
                have XD2 : Hid (w2.drew.heap[wr.heap.size]? = some (.cells (ActV.cells ⟨⟨a0, a1, m⟩, s, o, i⟩).toArray 44 (0, 0))) := X2.out
                refine wp_region_R (R := fun a b => Kept (fun i => i = wr.heap.size) a b) (by kernel_rfl) ?_
                refine wpAnyR_take (pre_keptL (fun i => i = wr.heap.size)) (i := 0) (d := some 124) (v := ?vara0) rfl rfl (by kernel_rfl) (by kernel_rfl) (by kernel_rfl) (fun _ _ _ h => h) (by rfl) ?yara0 ?_
                case yara0 => (intro w' hw'; go_simp; try (with_reducible rfl))
                simp only [Act.put]; try simp only [List.setIfInBounds_toArray]; try simp only [List.set_cons_zero, List.set_cons_succ]
                refine wpAnyR_take (pre_keptL (fun i => i = wr.heap.size)) (i := 1) (d := some 125) (v := ?vara1) rfl rfl (by kernel_rfl) (by kernel_rfl) (by kernel_rfl) (fun _ _ _ h => h) (by rfl) ?yara1 ?_
                case yara1 => (intro w' hw'; go_simp; try (with_reducible rfl))
                simp only [Act.put]; try simp only [List.setIfInBounds_toArray]; try simp only [List.set_cons_zero, List.set_cons_succ]
                refine wpAnyR_take (pre_keptL (fun i => i = wr.heap.size)) (i := 2) (d := some 126) (v := ?vara2) rfl rfl (by kernel_rfl) (by kernel_rfl) (by kernel_rfl) (fun _ _ _ h => h) (by rfl) ?yara2 ?_
                case yara2 => (intro w' hw'; obtain ⟨e0, e1⟩ := act4_cells ((hw'.2 _ (lt_of_block XD2.out) rfl).trans XD2.out); go_simp; try (with_reducible rfl))
                simp only [Act.put]; try simp only [List.setIfInBounds_toArray]; try simp only [List.set_cons_zero, List.set_cons_succ]
                refine wpAnyR_take (pre_keptL (fun i => i = wr.heap.size)) (i := 4) (d := some 128) (v := ?vara4) rfl rfl (by kernel_rfl) (by kernel_rfl) (by kernel_rfl) (fun _ _ _ h => h) (by rfl) ?yara4 ?_
                case yara4 => (intro w' hw'; go_simp; try (with_reducible rfl))
                simp only [Act.put]; try simp only [List.setIfInBounds_toArray]; try simp only [List.set_cons_zero, List.set_cons_succ]
                refine wpAnyR_take (pre_keptL (fun i => i = wr.heap.size)) (i := 5) (d := some 129) (v := ?vara5) rfl rfl (by kernel_rfl) (by kernel_rfl) (by kernel_rfl) (fun _ _ _ h => h) (by rfl) ?yara5 ?_
                case yara5 => (intro w' hw'; go_simp; try (with_reducible rfl))
                simp only [Act.put]; try simp only [List.setIfInBounds_toArray]; try simp only [List.set_cons_zero, List.set_cons_succ]
                refine wpAnyR_take (pre_keptL (fun i => i = wr.heap.size)) (i := 6) (d := some 130) (v := ?vara6) rfl rfl (by kernel_rfl) (by kernel_rfl) (by kernel_rfl) (fun _ _ _ h => h) (by rfl) ?yara6 ?_
                case yara6 => (intro w' hw'; obtain ⟨e0, e1⟩ := act4_cells ((hw'.2 _ (lt_of_block XD2.out) rfl).trans XD2.out); go_simp; try (with_reducible rfl))
                simp only [Act.put]; try simp only [List.setIfInBounds_toArray]; try simp only [List.set_cons_zero, List.set_cons_succ]
                refine wpAnyR_only (i := 3) rfl (by kernel_rfl) (by rfl) fun K hK => ?_
                go_simp
                refine (bp_clear a1 (P2.out.later (Below.refl w2.heap.size w2).drew)).mono ?_
                rw [HZ1v.out]
                rintro e w3 ⟨rfl, p3, q3⟩
                have P3 := hide p3
                have X3 : Hid (w3.heap[wr.heap.size]? = some (.cells (ActV.cells ⟨⟨a0, a1, m⟩, s, o, i⟩).toArray 44 (0, 0))) := (q3.1.2 _ P2.out.box.2.1 P2.out.bxe).trans X2.out
                have KB3 : Hid (Kept (fun i => i < w1.heap.size) wr w3) := KB2.out.trans (q3.low P2.out.lows)
                have BB3 : Hid (Below w1.heap.size w1 w3) := BB2.out.trans (show Below w1.heap.size w2 w3 by first | exact q3.2 | exact (Below.refl _ _).drew.trans q3.2)
                have hkx : Kept (fun i => i = wr.heap.size) _ _ := q3.kb P2.out.bxe
                refine hK.out _ _ hkx ?_
                clear p3 q3 hkx
                clear hK K
                try (simp only [Act.put]; try simp only [List.setIfInBounds_toArray]; try simp only [List.set_cons_zero, List.set_cons_succ])
                refine wpAnyR_only (i := 7) rfl (by kernel_rfl) (by rfl) fun K hK => ?_
                go_simp
                refine (bp_refclear a1 P3.out HFIT.out HRISE.out).mono ?_
                rw [HZ1v.out]
                rintro e w4 ⟨rfl, p4, q4⟩
                have P4 := hide p4
                have X4 : Hid (w4.heap[wr.heap.size]? = some (.cells (ActV.cells ⟨⟨a0, a1, m⟩, s, o, i⟩).toArray 44 (0, 0))) := (q4.1.2 _ P3.out.box.2.1 P3.out.bxe).trans X3.out
                have KB4 : Hid (Kept (fun i => i < w1.heap.size) wr w4) := KB3.out.trans (q4.low P3.out.lows)
                have BB4 : Hid (Below w1.heap.size w1 w4) := BB3.out.trans (show Below w1.heap.size w3 w4 by first | exact q4.2 | exact (Below.refl _ _).drew.trans q4.2)
                have hkx : Kept (fun i => i = wr.heap.size) _ _ := q4.kb P3.out.bxe
                refine hK.out _ _ hkx ?_
                clear p4 q4 hkx
                clear hK K
                try (simp only [Act.put]; try simp only [List.setIfInBounds_toArray]; try simp only [List.set_cons_zero, List.set_cons_succ])
                refine wpAnyR_take (pre_keptL (fun i => i = wr.heap.size)) (i := 8) (d := some 132) (v := ?vara8) rfl rfl (by kernel_rfl) (by kernel_rfl) (by kernel_rfl) (fun _ _ _ h => h) (by rfl) ?yara8 ?_
                case yara8 => (intro w' hw'; go_simp; try (with_reducible rfl))
                simp only [Act.put]; try simp only [List.setIfInBounds_toArray]; try simp only [List.set_cons_zero, List.set_cons_succ]
                refine wpAnyR_take (pre_keptL (fun i => i = wr.heap.size)) (i := 9) (d := some 9) (v := ?vara9) rfl rfl (by kernel_rfl) (by kernel_rfl) (by kernel_rfl) (fun _ _ _ h => h) (by rfl) ?yara9 ?_
                case yara9 => (intro w' hw'; go_simp; try (with_reducible rfl))
                simp only [Act.put]; try simp only [List.setIfInBounds_toArray]; try simp only [List.set_cons_zero, List.set_cons_succ]
                refine wpAnyR_done (by kernel_rfl) ?_ _
                go_wp2
                go_meet
                case rel => exact ⟨by first | rfl | simp, _, _, (Nat.le_succ _), P4.out, X4.out, BB4.out⟩
            · as_aux_lemma =>
                have hk0 : (a0 == 0) = false := by simpa using hkd0
                have hk1 : (a0 == 1) = false := by simpa using hkd1
                have hk2 : (a0 == 2) = false := by simpa using hkd2
                have hk3 : (a0 == 3) = false := by simpa using hkd3
                clear hkd0 hkd1 hkd2 hkd3
                go_wp2
                go_meet
                case rel => exact ⟨by first | rfl | simp, _, _, (Nat.le_succ _), P2.out, X2.out, BB2.out⟩
          case rest =>
            as_aux_lemma =>
              obtain ⟨rfl, last2, Q2, hle, hpC, hxC, hbC⟩ := hcut
              have PA := hide hpC
              have XA := hide hxC
              have BA := hide hbC
              clear hpC hxC hbC
              have HLE : Hid (last2 ≤ k + 1) := by have := HLK.out; show _ ≤ _; omega
              clear hle
              obtain ⟨e0, e1⟩ := act4_cells XA.out
              go_wp2_with (fail)
              clear e0 e1
              obtain ⟨y0, hy0⟩ : ∃ y0, (lookQ Q2 a1).1 = y0 := ⟨_, rfl⟩
              have HY0 := hide hy0
              clear hy0
              obtain ⟨y1, hy1⟩ : ∃ y1, (lookQ Q2 a1).2 = y1 := ⟨_, rfl⟩
              have HY1 := hide hy1
              clear hy1
              refine (bp_look a1 PA.out HI1.out).mono ?_
              rw [HY0.out, HY1.out]
              rintro e m1 ⟨⟨s1, o1, i1, rfl, hl1⟩, hb1⟩
              obtain ⟨j1, j2, j3⟩ := hl1.cell
              have HL1 := hide hl1
              have UB1 := hide hb1
              clear hl1 hb1
              go_wp2_with (refine wpList_store_box (by rfl) 42 _ _ (by rfl) m1.heap.size 0 (y0.cells s1 o1 i1).toArray (by rfl) (by rfl) 42 (zcells) (heap_alloc_new m1 _) (by kernel_rfl) (by exact Nat.le_of_ble_eq_true rfl) (by exact y0.one j1 j2 j3) ?_; intro m2 hx hg; rw [put_zmsg] at hx; have B12 : Below m1.heap.size m1 m2 := ((Below.refl _ _).alloc (Nat.le_refl _) _).grown hg (by simp) (fun k hk => by have := Option.some.inj hk; omega); have UB2 : Hid (Below wc.heap.size wc m2) := UB1.out.trans (B12.mono UB1.out.size); have V2 := hide hx; have HL2 := hide (HL1.out.kept (Kept.of_below B12 _)); obtain ⟨e0, e1⟩ := act4_cells ((UB2.out.block _ (lt_of_block XA.out)).trans XA.out); clear hx hg B12)
              clear e0 e1
              refine (bp_reflook a1 (PA.out.later UB2.out)).mono ?_
              rw [HY0.out, HY1.out]
              rintro e m3 ⟨⟨s3, o3, i3, rfl, hl3⟩, hb3⟩
              obtain ⟨j4, j5, j6⟩ := hl3.cell
              have HL3 := hide hl3
              have UB3 : Hid (Below wc.heap.size wc m3) := UB2.out.trans (hb3.mono UB2.out.size)
              have V3 := hide ((hb3.block _ (lt_of_block V2.out)).trans V2.out)
              have HL2b := hide (HL2.out.kept (Kept.of_below hb3 _))
              clear hl3 hb3
              go_wp2_with (refine wpList_store_box (by rfl) 42 _ _ (by rfl) m3.heap.size 0 (y0.cells s3 o3 i3).toArray (by rfl) (by rfl) 42 (zcells) (heap_alloc_new m3 _) (by kernel_rfl) (by exact Nat.le_of_ble_eq_true rfl) (by exact y0.one j4 j5 j6) ?_; intro m4 hx hg; rw [put_zmsg] at hx; have B34 : Below m3.heap.size m3 m4 := ((Below.refl _ _).alloc (Nat.le_refl _) _).grown hg (by simp) (fun k hk => by have := Option.some.inj hk; omega); have UB4 : Hid (Below wc.heap.size wc m4) := UB3.out.trans (B34.mono UB3.out.size); have W4 := hide hx; have V4 := hide ((B34.block _ (lt_of_block V3.out)).trans V3.out); have HL2c := hide (HL2b.out.kept (Kept.of_below B34 _)); have HL4 := hide (HL3.out.kept (Kept.of_below B34 _)); clear hx hg B34)
              obtain ⟨l7, hl7⟩ : ∃ l, l = idsQ Q2 := ⟨_, rfl⟩
              obtain ⟨l8, hl8⟩ : ∃ l, l = toQ Q2 a1 := ⟨_, rfl⟩
              have HQL : Hid (l7.length ≤ 1099511627000 ∧ l8.length ≤ 1099511627000) := by
                have h1 := PA.out.len
                have h2 := HLE.out
                have h3 := HLK.out
                have h4 := to_le Q2 a1 Q2.length
                rw [List.take_length] at h4
                have h5 : (idsQ Q2).length = Q2.length := by simp [idsQ]
                rw [hl7, hl8]
                exact ⟨by omega, by omega⟩
              have H7 := hide hl7
              have H8 := hide hl8
              clear hl7 hl8
              have CI : Hid (∀ w', Below wc.heap.size wc w' → Calls Try.prog 25 #[.pointer (some ⟨g, 0, none⟩)] w' (NewInts w' l7)) := fun w' hb => by rw [H7.out]; exact bp_ids (PA.out.later hb)
              have CJ : Hid (∀ w', Below wc.heap.size wc w' → Calls Try.prog 26 #[.pointer (some ⟨r, 0, none⟩)] w' (NewInts w' l7)) := fun w' hb => by rw [H7.out]; exact refids_any w' (PA.out.later hb).ref PA.out.fit
              have CT : Hid (∀ w', Below wc.heap.size wc w' → Calls Try.prog 27 #[.pointer (some ⟨g, 0, none⟩), .int .i64 a1] w' (NewInts w' l8)) := fun w' hb => by rw [H8.out]; exact bp_to a1 (PA.out.later hb)
              have CU : Hid (∀ w', Below wc.heap.size wc w' → Calls Try.prog 28 #[.pointer (some ⟨r, 0, none⟩), .int .i64 a1] w' (NewInts w' l8)) := fun w' hb => by rw [H8.out]; exact refto_any a1 w' (PA.out.later hb).ref PA.out.fit
              refine wp_region_L (by kernel_rfl) ?_
              refine wpAnyL_take (i := 0) (d := some 147) (v := ?vatt0) rfl rfl (by kernel_rfl) (by kernel_rfl) (by kernel_rfl) (fun _ _ _ h => h) (by rfl) ?yatt0 ?_
              case yatt0 => (intro w' hw'; go_simp; try (with_reducible rfl))
              simp only [Act.put]; try simp only [List.setIfInBounds_toArray]; try simp only [List.set_cons_zero, List.set_cons_succ]
              refine wpAnyL_take (i := 1) (d := some 148) (v := ?vatt1) rfl rfl (by kernel_rfl) (by kernel_rfl) (by kernel_rfl) (fun _ _ _ h => h) (by rfl) ?yatt1 ?_
              case yatt1 => (intro w' hw'; go_simp; try (with_reducible rfl))
              simp only [Act.put]; try simp only [List.setIfInBounds_toArray]; try simp only [List.set_cons_zero, List.set_cons_succ]
              refine wpAnyL_take (i := 2) (d := some 149) (v := ?vatt2) rfl rfl (by kernel_rfl) (by kernel_rfl) (by kernel_rfl) (fun _ _ _ h => h) (by rfl) ?yatt2 ?_
              case yatt2 => (intro w' hw'; go_simp; try (with_reducible rfl))
              simp only [Act.put]; try simp only [List.setIfInBounds_toArray]; try simp only [List.set_cons_zero, List.set_cons_succ]
              refine wpAnyL_take (i := 3) (d := some 150) (v := .agg (y0.cells s1 o1 i1).toArray) rfl rfl (by kernel_rfl) (by kernel_rfl) (by kernel_rfl) (fun _ _ _ h => h) (by rfl) ?yatt3 ?_
              case yatt3 => (intro w' hw'; exact exec_load_box 42 _ (by rfl) m1.heap.size 0 (by rfl) 42 _ ((((Below.refl m4.heap.size m4).drew.trans hw').block _ (lt_of_block V4.out)).trans V4.out) 34 _ Try.underlying42 (by rfl) (by kernel_rfl) (y0.cells s1 o1 i1) (by rfl) (by rfl))
              simp only [Act.put]; try simp only [List.setIfInBounds_toArray]; try simp only [List.set_cons_zero, List.set_cons_succ]
              refine wpAnyL_take (i := 4) (d := some 151) (v := .agg (y0.cells s3 o3 i3).toArray) rfl rfl (by kernel_rfl) (by kernel_rfl) (by kernel_rfl) (fun _ _ _ h => h) (by rfl) ?yatt4 ?_
              case yatt4 => (intro w' hw'; exact exec_load_box 42 _ (by rfl) m3.heap.size 0 (by rfl) 42 _ ((((Below.refl m4.heap.size m4).drew.trans hw').block _ (lt_of_block W4.out)).trans W4.out) 34 _ Try.underlying42 (by rfl) (by kernel_rfl) (y0.cells s3 o3 i3) (by rfl) (by rfl))
              simp only [Act.put]; try simp only [List.setIfInBounds_toArray]; try simp only [List.set_cons_zero, List.set_cons_succ]
              refine wpAnyL_only (i := 5) rfl (by kernel_rfl) (by rfl) fun K hK => ?_
              go_simp
              refine (same_self y0 (HL2c.out.kept (Kept.of_below (Below.refl m4.heap.size m4).drew _)) (HL4.out.kept (Kept.of_below (Below.refl m4.heap.size m4).drew _))).mono ?_
              rintro e z1 ⟨rfl, hz1⟩
              have HZ1 : Hid (Below m4.heap.size m4 z1) := (Below.refl m4.heap.size m4).drew.trans hz1
              refine hK.out _ _ hz1 ?_
              clear hz1
              clear hK K
              try (simp only [Act.put]; try simp only [List.setIfInBounds_toArray]; try simp only [List.set_cons_zero, List.set_cons_succ])
              refine wpAnyL_take (i := 6) (d := some 153) (v := ?vatt6) rfl rfl (by kernel_rfl) (by kernel_rfl) (by kernel_rfl) (fun _ _ _ h => h) (by rfl) ?yatt6 ?_
              case yatt6 => (intro w' hw'; go_simp; try (with_reducible rfl))
              simp only [Act.put]; try simp only [List.setIfInBounds_toArray]; try simp only [List.set_cons_zero, List.set_cons_succ]
              refine wpAnyL_take (i := 7) (d := some 154) (v := ?vatt7) rfl rfl (by kernel_rfl) (by kernel_rfl) (by kernel_rfl) (fun _ _ _ h => h) (by rfl) ?yatt7 ?_
              case yatt7 => (intro w' hw'; go_simp; try (with_reducible rfl))
              simp only [Act.put]; try simp only [List.setIfInBounds_toArray]; try simp only [List.set_cons_zero, List.set_cons_succ]
              refine wpAnyL_take (i := 8) (d := some 155) (v := ?vatt8) rfl rfl (by kernel_rfl) (by kernel_rfl) (by kernel_rfl) (fun _ _ _ h => h) (by rfl) ?yatt8 ?_
              case yatt8 => (intro w' hw'; go_simp; try (with_reducible rfl))
              simp only [Act.put]; try simp only [List.setIfInBounds_toArray]; try simp only [List.set_cons_zero, List.set_cons_succ]
              refine wpAnyL_take (i := 9) (d := some 156) (v := ?vatt9) rfl rfl (by kernel_rfl) (by kernel_rfl) (by kernel_rfl) (fun _ _ _ h => h) (by rfl) ?yatt9 ?_
              case yatt9 => (intro w' hw'; go_simp; try (with_reducible rfl))
              simp only [Act.put]; try simp only [List.setIfInBounds_toArray]; try simp only [List.set_cons_zero, List.set_cons_succ]
              refine wpAnyL_take (i := 10) (d := some 157) (v := ?vatt10) rfl rfl (by kernel_rfl) (by kernel_rfl) (by kernel_rfl) (fun _ _ _ h => h) (by rfl) ?yatt10 ?_
              case yatt10 => (intro w' hw'; go_simp; try (with_reducible rfl))
              simp only [Act.put]; try simp only [List.setIfInBounds_toArray]; try simp only [List.set_cons_zero, List.set_cons_succ]
              refine wpAnyL_take (i := 11) (d := some 158) (v := ?vatt11) rfl rfl (by kernel_rfl) (by kernel_rfl) (by kernel_rfl) (fun _ _ _ h => h) (by rfl) ?yatt11 ?_
              case yatt11 => (intro w' hw'; go_simp; try (with_reducible rfl))
              simp only [Act.put]; try simp only [List.setIfInBounds_toArray]; try simp only [List.set_cons_zero, List.set_cons_succ]
              refine wpAnyL_take (i := 12) (d := some 159) (v := ?vatt12) rfl rfl (by kernel_rfl) (by kernel_rfl) (by kernel_rfl) (fun _ _ _ h => h) (by rfl) ?yatt12 ?_
              case yatt12 => (intro w' hw'; go_simp; try (with_reducible rfl))
              simp only [Act.put]; try simp only [List.setIfInBounds_toArray]; try simp only [List.set_cons_zero, List.set_cons_succ]
              refine wpAnyL_take (i := 13) (d := some 160) (v := ?vatt13) rfl rfl (by kernel_rfl) (by kernel_rfl) (by kernel_rfl) (fun _ _ _ h => h) (by rfl) ?yatt13 ?_
              case yatt13 => (intro w' hw'; go_simp; try (with_reducible rfl))
              simp only [Act.put]; try simp only [List.setIfInBounds_toArray]; try simp only [List.set_cons_zero, List.set_cons_succ]
              refine wpAnyL_take (i := 14) (d := some 161) (v := ?vatt14) rfl rfl (by kernel_rfl) (by kernel_rfl) (by kernel_rfl) (fun _ _ _ h => h) (by rfl) ?yatt14 ?_
              case yatt14 => (intro w' hw'; go_simp; try (with_reducible rfl))
              simp only [Act.put]; try simp only [List.setIfInBounds_toArray]; try simp only [List.set_cons_zero, List.set_cons_succ]
              refine wpAnyL_take (i := 16) (d := some 163) (v := ?vatt16) rfl rfl (by kernel_rfl) (by kernel_rfl) (by kernel_rfl) (fun _ _ _ h => h) (by rfl) ?yatt16 ?_
              case yatt16 => (intro w' hw'; go_simp; try (with_reducible rfl))
              simp only [Act.put]; try simp only [List.setIfInBounds_toArray]; try simp only [List.set_cons_zero, List.set_cons_succ]
              refine wpAnyL_only (i := 15) rfl (by kernel_rfl) (by rfl) fun K hK => ?_
              go_simp
              refine (CI.out _ (UB4.out.trans ((HZ1.out).mono UB4.out.size))).mono ?_
              rintro e z2 ⟨Ap1, np1, cp1, rfl, _, hi, _, hb⟩
              have Ip1 := hide hi
              have HZ2 : Hid (Below m4.heap.size m4 z2) := HZ1.out.trans (hb.mono HZ1.out.size)
              refine hK.out _ _ hb ?_
              clear hi hb
              clear hK K
              try (simp only [Act.put]; try simp only [List.setIfInBounds_toArray]; try simp only [List.set_cons_zero, List.set_cons_succ])
              refine wpAnyL_only (i := 17) rfl (by kernel_rfl) (by rfl) fun K hK => ?_
              go_simp
              refine (CJ.out _ (UB4.out.trans ((HZ2.out).mono UB4.out.size))).mono ?_
              rintro e z3 ⟨Ap2, np2, cp2, rfl, _, hi, _, hb⟩
              have Ip2 := hide hi
              have HZ3 : Hid (Below m4.heap.size m4 z3) := HZ2.out.trans (hb.mono HZ2.out.size)
              have Ip1b := hide (Ip1.out.below hb)
              have hn1 : np1 ≤ 1099511627000 := by have h1 := Ip1.out.1; have h2 := HQL.out; omega
              have hn2 : np2 ≤ 1099511627000 := by have h1 := hi.1; have h2 := HQL.out; omega
              have CEp := hide (refints_any Ap1 Ap2 np1 cp1 np2 cp2 _ _ l7 l7 z3 Ip1b.out hi hn1 hn2)
              rw [eqI_self] at CEp
              clear hn1 hn2
              refine hK.out _ _ hb ?_
              clear hi hb
              clear hK K
              try (simp only [Act.put]; try simp only [List.setIfInBounds_toArray]; try simp only [List.set_cons_zero, List.set_cons_succ])
              refine wpAnyL_only (i := 18) rfl (by kernel_rfl) (by rfl) fun K hK => ?_
              go_simp
              refine CEp.out.mono ?_
              rintro e z4 ⟨rfl, q9, hq9⟩
              have hb9 : Below z3.heap.size z3 z4 := by rw [hq9]; exact below_drewN _ _ _
              have HZ4 : Hid (Below m4.heap.size m4 z4) := HZ3.out.trans (hb9.mono HZ3.out.size)
              refine hK.out _ _ hb9 ?_
              clear hq9 hb9
              clear hK K
              try (simp only [Act.put]; try simp only [List.setIfInBounds_toArray]; try simp only [List.set_cons_zero, List.set_cons_succ])
              refine wpAnyL_take (i := 19) (d := some 166) (v := ?vatt19) rfl rfl (by kernel_rfl) (by kernel_rfl) (by kernel_rfl) (fun _ _ _ h => h) (by rfl) ?yatt19 ?_
              case yatt19 => (intro w' hw'; go_simp; try (with_reducible rfl))
              simp only [Act.put]; try simp only [List.setIfInBounds_toArray]; try simp only [List.set_cons_zero, List.set_cons_succ]
              refine wpAnyL_take (i := 20) (d := some 167) (v := ?vatt20) rfl rfl (by kernel_rfl) (by kernel_rfl) (by kernel_rfl) (fun _ _ _ h => h) (by rfl) ?yatt20 ?_
              case yatt20 => (intro w' hw'; go_simp; try (with_reducible rfl))
              simp only [Act.put]; try simp only [List.setIfInBounds_toArray]; try simp only [List.set_cons_zero, List.set_cons_succ]
              refine wpAnyL_take (i := 21) (d := some 168) (v := ?vatt21) rfl rfl (by kernel_rfl) (by kernel_rfl) (by kernel_rfl) (fun _ _ _ h => h) (by rfl) ?yatt21 ?_
              case yatt21 => (intro w' hw'; go_simp; try (with_reducible rfl))
              simp only [Act.put]; try simp only [List.setIfInBounds_toArray]; try simp only [List.set_cons_zero, List.set_cons_succ]
              refine wpAnyL_take (i := 22) (d := some 169) (v := ?vatt22) rfl rfl (by kernel_rfl) (by kernel_rfl) (by kernel_rfl) (fun _ _ _ h => h) (by rfl) ?yatt22 ?_
              case yatt22 => (intro w' hw'; go_simp; try (with_reducible rfl))
              simp only [Act.put]; try simp only [List.setIfInBounds_toArray]; try simp only [List.set_cons_zero, List.set_cons_succ]
              refine wpAnyL_take (i := 23) (d := some 170) (v := ?vatt23) rfl rfl (by kernel_rfl) (by kernel_rfl) (by kernel_rfl) (fun _ _ _ h => h) (by rfl) ?yatt23 ?_
              case yatt23 => (intro w' hw'; go_simp; try (with_reducible rfl))
              simp only [Act.put]; try simp only [List.setIfInBounds_toArray]; try simp only [List.set_cons_zero, List.set_cons_succ]
              refine wpAnyL_take (i := 24) (d := some 171) (v := ?vatt24) rfl rfl (by kernel_rfl) (by kernel_rfl) (by kernel_rfl) (fun _ _ _ h => h) (by rfl) ?yatt24 ?_
              case yatt24 => (intro w' hw'; obtain ⟨e0, e1⟩ := act4_cells (((UB4.out.trans ((HZ4.out.trans (Below.mono hw' HZ4.out.size)).mono UB4.out.size)).block _ (lt_of_block XA.out)).trans XA.out); go_simp; try (with_reducible rfl))
              simp only [Act.put]; try simp only [List.setIfInBounds_toArray]; try simp only [List.set_cons_zero, List.set_cons_succ]
              refine wpAnyL_take (i := 26) (d := some 173) (v := ?vatt26) rfl rfl (by kernel_rfl) (by kernel_rfl) (by kernel_rfl) (fun _ _ _ h => h) (by rfl) ?yatt26 ?_
              case yatt26 => (intro w' hw'; go_simp; try (with_reducible rfl))
              simp only [Act.put]; try simp only [List.setIfInBounds_toArray]; try simp only [List.set_cons_zero, List.set_cons_succ]
              refine wpAnyL_take (i := 27) (d := some 174) (v := ?vatt27) rfl rfl (by kernel_rfl) (by kernel_rfl) (by kernel_rfl) (fun _ _ _ h => h) (by rfl) ?yatt27 ?_
              case yatt27 => (intro w' hw'; go_simp; try (with_reducible rfl))
              simp only [Act.put]; try simp only [List.setIfInBounds_toArray]; try simp only [List.set_cons_zero, List.set_cons_succ]
              refine wpAnyL_take (i := 28) (d := some 175) (v := ?vatt28) rfl rfl (by kernel_rfl) (by kernel_rfl) (by kernel_rfl) (fun _ _ _ h => h) (by rfl) ?yatt28 ?_
              case yatt28 => (intro w' hw'; obtain ⟨e0, e1⟩ := act4_cells (((UB4.out.trans ((HZ4.out.trans (Below.mono hw' HZ4.out.size)).mono UB4.out.size)).block _ (lt_of_block XA.out)).trans XA.out); go_simp; try (with_reducible rfl))
              simp only [Act.put]; try simp only [List.setIfInBounds_toArray]; try simp only [List.set_cons_zero, List.set_cons_succ]
              refine wpAnyL_only (i := 25) rfl (by kernel_rfl) (by rfl) fun K hK => ?_
              go_simp
              refine (CT.out _ (UB4.out.trans ((HZ4.out).mono UB4.out.size))).mono ?_
              rintro e z5 ⟨Ar1, nr1, cr1, rfl, _, hi, _, hb⟩
              have Ir1 := hide hi
              have HZ5 : Hid (Below m4.heap.size m4 z5) := HZ4.out.trans (hb.mono HZ4.out.size)
              refine hK.out _ _ hb ?_
              clear hi hb
              clear hK K
              try (simp only [Act.put]; try simp only [List.setIfInBounds_toArray]; try simp only [List.set_cons_zero, List.set_cons_succ])
              refine wpAnyL_only (i := 29) rfl (by kernel_rfl) (by rfl) fun K hK => ?_
              go_simp
              refine (CU.out _ (UB4.out.trans ((HZ5.out).mono UB4.out.size))).mono ?_
              rintro e z6 ⟨Ar2, nr2, cr2, rfl, _, hi, _, hb⟩
              have Ir2 := hide hi
              have HZ6 : Hid (Below m4.heap.size m4 z6) := HZ5.out.trans (hb.mono HZ5.out.size)
              have Ir1b := hide (Ir1.out.below hb)
              have hn1 : nr1 ≤ 1099511627000 := by have h1 := Ir1.out.1; have h2 := HQL.out; omega
              have hn2 : nr2 ≤ 1099511627000 := by have h1 := hi.1; have h2 := HQL.out; omega
              have CEr := hide (refints_any Ar1 Ar2 nr1 cr1 nr2 cr2 _ _ l8 l8 z6 Ir1b.out hi hn1 hn2)
              rw [eqI_self] at CEr
              clear hn1 hn2
              refine hK.out _ _ hb ?_
              clear hi hb
              clear hK K
              try (simp only [Act.put]; try simp only [List.setIfInBounds_toArray]; try simp only [List.set_cons_zero, List.set_cons_succ])
              refine wpAnyL_only (i := 30) rfl (by kernel_rfl) (by rfl) fun K hK => ?_
              go_simp
              refine CEr.out.mono ?_
              rintro e z7 ⟨rfl, q9, hq9⟩
              have hb9 : Below z6.heap.size z6 z7 := by rw [hq9]; exact below_drewN _ _ _
              have HZ7 : Hid (Below m4.heap.size m4 z7) := HZ6.out.trans (hb9.mono HZ6.out.size)
              refine hK.out _ _ hb9 ?_
              clear hq9 hb9
              clear hK K
              try (simp only [Act.put]; try simp only [List.setIfInBounds_toArray]; try simp only [List.set_cons_zero, List.set_cons_succ])
              refine wpAnyL_take (i := 31) (d := some 178) (v := ?vatt31) rfl rfl (by kernel_rfl) (by kernel_rfl) (by kernel_rfl) (fun _ _ _ h => h) (by rfl) ?yatt31 ?_
              case yatt31 => (intro w' hw'; go_simp; try (with_reducible rfl))
              simp only [Act.put]; try simp only [List.setIfInBounds_toArray]; try simp only [List.set_cons_zero, List.set_cons_succ]
              refine wpAnyL_take (i := 32) (d := some 179) (v := ?vatt32) rfl rfl (by kernel_rfl) (by kernel_rfl) (by kernel_rfl) (fun _ _ _ h => h) (by rfl) ?yatt32 ?_
              case yatt32 => (intro w' hw'; go_simp; try (with_reducible rfl))
              simp only [Act.put]; try simp only [List.setIfInBounds_toArray]; try simp only [List.set_cons_zero, List.set_cons_succ]
              refine wpAnyL_done (by kernel_rfl) ?_ _
              go_wp2
              go_roundw
              case rel => exact ⟨k + 1, last2, Q2, by omega, by go_num, HLE.out, PA.out.drop.later (UB4.out.trans ((HZ7.out).mono UB4.out.size)), BA.out.trans ((UB4.out.trans ((HZ7.out).mono UB4.out.size)).mono BA.out.size)⟩
              case measure => simp [Go.RowKit.intOf]; omega
        · have hlt : decide (k < ps.length) = false := by simpa using hkn
          go_wp2_with (fail)
          refine (LIVE.out _).mono ?_
          rintro e w2 ⟨rfl, hb2⟩
          have B2 := hide (HBW.out.trans ((BL.out.trans (hb2.mono BL.out.size)).mono HBW.out.size))
          clear hb2
          go_wp2
          go_ret
          exact ⟨rfl, B2.out⟩
    · have CN := hide (new_no most w1 (by omega))
      have CR := hide (fun w' => refnew_no most w' (by omega))
      clear hmost
      go_wp2_with (fail)
      refine CN.out.mono ?_
      rintro e w2 ⟨rfl, rfl⟩
      go_wp2_with (fail)
      refine (CR.out _).mono ?_
      rintro e w2 ⟨rfl, rfl⟩
      go_wp2_with (fail)
      refine (LIVE.out _).mono ?_
      rintro e w2 ⟨rfl, hb2⟩
      have B2 := hide (HBW.out.trans (hb2.mono HBW.out.size))
      clear hb2
      go_wp2
      go_ret
      exact ⟨rfl, B2.out⟩
end Go.Proofs.Ytaimnhlpdkpobaa
