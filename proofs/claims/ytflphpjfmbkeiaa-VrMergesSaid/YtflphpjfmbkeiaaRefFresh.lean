/- The document's Stale, Merge and Fresh of layer 10. -/
import Derived.Test.YtflphpjfmbkeiaaFresh
import Derived.Test.YtflphpjfmbkeiaaMerge
namespace Go.Proofs.Ytflphpjfmbkeiaa
open Go.RowKit

theorem merge_keep {a b : List Int} {k : Nat} {x : Int} (hx : (mergeUp a b k).getD k 0 = x ∧ k < (mergeUp a b k).length) (hs : (mergeUp a b k).set k x = mergeUp a b (k + 1)) : mergeUp a b (k + 1) = mergeUp a b k := by
  rw [← hs]
  apply List.ext_getElem (by simp)
  intro i h1 h2
  by_cases hi : i = k
  · subst hi
    rw [List.getElem_set_self, ← hx.1]
    simp [List.getD, hx.2]
  · rw [List.getElem_set_ne (by omega)]
theorem MsgsIn.low {F : Nat → Prop} {w : World} {v : Value} {ps : List MsgV} (h : MsgsIn F w v ps) : MsgsIn (· < w.heap.size) w v ps := ⟨h.1.mono (fun _ hi _ => hi), fun p hp => (h.2 p hp).mono (fun _ hi _ => hi)⟩

set_option maxHeartbeats 2000000 in
set_option maxRecDepth 100000 in
theorem refstale_any {F G : Nat → Prop} {w : World} {v : Value} {l : List Int} {m : MsgD} {s o i : Value} (hl : SlI F w v l) (hm : IncsAt G w i m.incs) (hi : I64 m.src) :
    Calls Try.prog 14 #[v, .agg (m.cells s o i).toArray] w fun e w' => e = .returned (.bool (staleB l m)) ∧ Later w w' := by
  have HB : Hid (Later w (w.alloc (.cells (m.cells s o i).toArray 40 (0, 0)))) := (Below.refl _ _).alloc (Nat.le_refl _) _
  have hx : (w.alloc (.cells (m.cells s o i).toArray 40 (0, 0))).heap[w.heap.size]? = some (.cells (m.cells s o i).toArray 40 (0, 0)) := heap_alloc_new _ _
  have c1 := box_cell hx 1 (.int .i64 m.src) (by rfl)
  have c33 := box_cell hx 33 i (by rfl)
  obtain ⟨A, c, rfl, h1, h2⟩ := hl.shape
  obtain ⟨A2, c2, rfl, h3, h4, _⟩ := FlatAt.shape hm
  have HS := hide (hl.kept (Kept.of_below HB.out F))
  have HI := hide (hm.kept (Kept.of_below HB.out G))
  obtain ⟨n, hn⟩ : ∃ n, l.length = n := ⟨_, rfl⟩
  obtain ⟨k, hk⟩ : ∃ k, m.incs.length = k := ⟨_, rfl⟩
  rw [hn] at HS
  rw [hk] at HS HI c33 ⊢
  rw [hn]
  have hn2 : n ≤ maxLen := by omega
  have hk2 : k ≤ maxLen := by omega
  unfold maxLen at hn2 hk2
  have HN := hide hn
  have HK := hide hk
  obtain ⟨x, hx2⟩ : ∃ x, m.src = x := ⟨_, rfl⟩
  have HX := hide hx2
  have hxi : I64 x := by rw [← hx2]; exact hi
  unfold I64 at hxi
  clear hl hm hx h1 h2 h3 h4 hn hk hi
  unfold MsgD.cells at c1 c33 ⊢
  rw [hx2] at c1 c33 ⊢
  clear hx2
  by_cases hx1 : x < 1
  · have H : Hid (staleB l m = true) := by show _ = _; exact stale_out (.inl (by rw [HX.out]; exact hx1))
    go_enter Try.func14, Try.ntmps14
    go_wp2
    go_ret
    exact ⟨ret_bool H.out.symm, (Below.refl _ _).alloc (Nat.le_refl _) _⟩
  · obtain ⟨p, rfl⟩ : ∃ p : Nat, x = (p : Int) + 1 := ⟨(x - 1).toNat, by omega⟩
    by_cases hp : p < n ∧ p < k
    · obtain ⟨hp1, hp2⟩ := hp
      have H := hide (stale_in HX.out (l := l) (by rw [HN.out]; exact hp1) (by rw [HK.out]; exact hp2))
      obtain ⟨b, off, rfl, _, hc⟩ := HS.out.cell (i := p) hp1
      obtain ⟨y, b2, off2, c3, hy, hv, _, _, _, hc2⟩ := IncsAt.at_ HI.out (i := p) (by rw [HK.out]; exact hp2)
      obtain rfl : A2 = some ⟨b2, off2, none⟩ := by injection hv
      have hy2 : m.incs.getD p 0 = y := by simp [List.getD, hy]
      rw [hy2] at H
      obtain ⟨z, hz⟩ : ∃ z, l.getD p 0 = z := ⟨_, rfl⟩
      rw [hz] at hc H
      have hmn : decide ((n : Int) < (p : Int) + 1) = false := by simp; omega
      have hmk : decide ((k : Int) < (p : Int) + 1) = false := by simp; omega
      unfold MsgD.cells at hc hc2
      rw [HX.out] at hc hc2
      clear hy hv hy2 hz
      go_enter Try.func14, Try.ntmps14
      go_wp2
      go_quiet (fail)
      go_wp2
      go_ret
      exact ⟨ret_bool H.out.symm, ((Below.refl _ _).alloc (Nat.le_refl _) _).trans (below_drewN _ _ _)⟩
    · have H : Hid (staleB l m = true) := by show _ = _; exact stale_out (.inr (by rw [HX.out, HN.out, HK.out]; omega))
      by_cases hpn : p < n
      · have hmn : decide ((n : Int) < (p : Int) + 1) = false := by simp; omega
        have hmk : decide ((k : Int) < (p : Int) + 1) = true := by simp; omega
        go_enter Try.func14, Try.ntmps14
        go_wp2
        go_ret
        exact ⟨ret_bool H.out.symm, (Below.refl _ _).alloc (Nat.le_refl _) _⟩
      · have hmn : decide ((n : Int) < (p : Int) + 1) = true := by simp; omega
        go_enter Try.func14, Try.ntmps14
        go_wp2
        go_ret
        exact ⟨ret_bool H.out.symm, (Below.refl _ _).alloc (Nat.le_refl _) _⟩

set_option maxHeartbeats 2000000 in
set_option maxRecDepth 100000 in
theorem refmerge_any {F G : Nat → Prop} {w : World} {u v : Value} {a b : List Int} (ha : SlI F w u a) (hb : SlI G w v b) (hn : a.length ≤ 1000000) :
    Calls Try.prog 17 #[u, v] w (NewInts w (mergeL a b)) := by
  obtain ⟨i0, hi, hz0, hz1, hz2⟩ := info_parts Try.infoInt
  have H := hide ha.1
  obtain ⟨A, c, rfl, h1, h2⟩ := ha.shape
  obtain ⟨A2, c2, rfl, h3, h4⟩ := hb.shape
  have HA := hide ha.2
  have HBF := hide hb.2
  have HB := hide hb
  have h5 : b.length ≤ maxLen := by omega
  unfold maxLen at h5
  obtain ⟨m, hm⟩ : ∃ m, b.length = m := ⟨_, rfl⟩
  obtain ⟨n, hn2⟩ : ∃ n, a.length = n := ⟨_, rfl⟩
  have HM := hide hm
  have HN := hide hn2
  rw [hm] at HB h5 ⊢
  unfold IncsAt at H
  rw [hn2] at H hn ⊢
  clear ha hb h1 h2 h3 h4 hm hn2
  go_enter Try.func17, Try.ntmps17
  go_wp2_with (at_builtin; refine wpList_append_flat _ rfl _ _ 22 rfl w.heap.size 3 i0 _ 1 8 Try.underlying22 hi hz0 hz1 hz2 rfl (by decide) _ 0 [] rfl (ownsRow_lit w _ 1) F _ n c _ rfl (H.out.kept (Kept.of_below ((Below.refl _ _).alloc (Nat.le_refl _) _) F)) (by unfold maxLen; omega) (by omega) (by simp) ?_; intro r w1 hown hg; obtain ⟨AR, cR, hv, hnc⟩ := own_slice hown; subst hv)
  have hbl : Below w.heap.size w w1 := ((Below.refl _ _).alloc (Nat.le_refl _) _).trans (later_own (ownsRow_lit w _ 1) (by simp) hg)
  have hown' : w1.ownsRow w.heap.size 3 1 (.slice AR n cR) n (ivs (mergeUp a b 0)) := by
    rw [merge_zero]
    have h2 : w1.ownsRow w.heap.size 3 1 (.slice AR n cR) n (a.map fun x => Value.int .i64 x) := by simpa using hown
    exact h2
  have HO := hide hown'
  have HL := hide hbl
  clear hown hown' hbl hg
  go_wp2
  go_loopw [13] (fun j wr => ∃ k : Nat, k ≤ n ∧ j = .int .i64 (k : Int) ∧ wr.ownsRow w.heap.size 3 1 (.slice AR n cR) n (ivs (mergeUp a b k)) ∧ Below w.heap.size w wr) (fun j _ => n - (Go.RowKit.intOf j).toNat)
  case atStart => exact ⟨0, by omega, rfl, HO.out, HL.out⟩
  case round =>
    obtain ⟨k, hk, rfl, hown, hbw⟩ := hrel
    have HW := hide hown
    have HB2 := hide hbw
    clear hown hbw
    by_cases hkn : k < n
    · obtain ⟨g, c9, hv, hg, hlt, _, _⟩ := iown_at HW.out (by omega)
      obtain ⟨rfl, rfl⟩ : AR = some ⟨g, 0, none⟩ ∧ cR = c9 := by injection hv with e1 _ e3; exact ⟨e1, e3⟩
      have hc := iown_cell HW.out hkn
      have hf := iown_free HW.out k
      rw [merge_get a b (by rw [HN.out]; exact hkn), if_neg (by omega)] at hc
      have HS := hide (merge_set a b k)
      have HX : Hid ((mergeUp a b k).getD k 0 = a.getD k 0 ∧ k < (mergeUp a b k).length) := ⟨by rw [merge_get a b (by rw [HN.out]; exact hkn), if_neg (by omega)], by rw [merge_len, HN.out]; exact hkn⟩
      have HD := hide (HB.out.kept (Kept.of_below HB2.out G))
      obtain ⟨x, hx⟩ : ∃ x, a.getD k 0 = x := ⟨_, rfl⟩
      rw [hx] at hc HS HX
      clear hv hx
      by_cases hkm : k < m
      · obtain ⟨b2, off2, rfl, _, hc2⟩ := HD.out.cell (i := k) hkm
        obtain ⟨y, hy⟩ : ∃ y, b.getD k 0 = y := ⟨_, rfl⟩
        rw [hy] at hc2 HS
        clear hy
        by_cases hxy : x < y
        · rw [show max x y = y from by omega] at HS
          have hd : decide (x < y) = true := by simpa using hxy
          go_wp2
          go_roundw
          case rel =>
            have h := iown_set HW.out k y
            refine ⟨k + 1, by omega, by go_num, ?_, HB2.out.grown h.2 HB2.out.size (fun j hj => by have := Option.some.inj hj; omega)⟩
            rw [← HS.out]
            exact h.1
          case measure => simp [Go.RowKit.intOf]; omega
        · rw [show max x y = x from by omega] at HS
          have hd : decide (x < y) = false := by simpa using hxy
          have HK := hide (merge_keep HX.out HS.out)
          go_wp2
          go_roundw
          case rel => exact ⟨k + 1, by omega, by go_num, by rw [HK.out]; exact HW.out, HB2.out⟩
          case measure => simp [Go.RowKit.intOf]; omega
      · have hy : b.getD k 0 = 0 := by
          have h1 := HM.out
          simp [List.getD, List.getElem?_eq_none (show b.length ≤ k by omega)]
        rw [hy] at HS
        clear hy
        by_cases hxy : x < 0
        · rw [show max x 0 = 0 from by omega] at HS
          have hd : decide (x < 0) = true := by simpa using hxy
          go_wp2
          go_roundw
          case rel =>
            have h := iown_set HW.out k 0
            refine ⟨k + 1, by omega, by go_num, ?_, HB2.out.grown h.2 HB2.out.size (fun j hj => by have := Option.some.inj hj; omega)⟩
            rw [← HS.out]
            exact h.1
          case measure => simp [Go.RowKit.intOf]; omega
        · rw [show max x 0 = x from by omega] at HS
          have hd : decide (x < 0) = false := by simpa using hxy
          have HK := hide (merge_keep HX.out HS.out)
          go_wp2
          go_roundw
          case rel => exact ⟨k + 1, by omega, by go_num, by rw [HK.out]; exact HW.out, HB2.out⟩
          case measure => simp [Go.RowKit.intOf]; omega
    · obtain rfl : k = n := by omega
      go_wp2
      go_ret
      have h1 := HW.out
      rw [show mergeUp a b k = mergeL a b from by rw [mergeL, HN.out]] at h1
      obtain ⟨A', c', hv, hnc', _, hh⟩ := IHolds.of_own h1 (merge_fit HA.out HBF.out _)
      obtain ⟨rfl, rfl⟩ : AR = A' ∧ cR = c' := by injection hv with e1 _ e3; exact ⟨e1, e3⟩
      exact ⟨AR, k, cR, rfl, h1, hh, hnc', HB2.out⟩

set_option maxHeartbeats 4000000 in
set_option maxRecDepth 100000 in
theorem reffresh_any {F G : Nat → Prop} {w : World} {v u : Value} {ps : List MsgV} {a : List Int} (h : MsgsIn F w v ps) (hu : SlI G w u a) (hn : ps.length ≤ 1000) (hw : ∀ p ∈ ps, p.m.lightN 200 ∧ p.m.incs.length ≤ 200 ∧ I64 p.m.src) :
    Calls Try.prog 11 #[v, u] w (Freshed a ps w) := by
  obtain ⟨i0, hi, hz0, hz1, hz2⟩ := info_parts Try.infoMsg
  obtain ⟨A, cap, rfl, _, _, _⟩ := FlatAt.shape h.1
  obtain ⟨n, hn1⟩ : ∃ n, ps.length = n := ⟨_, rfl⟩
  have HN := hide hn1
  have HW := hide hw
  have HU := hide hu
  rw [hn1] at h hn ⊢
  have HM := hide (MsgsIn.low h)
  clear h hw hu hn1
  go_enter Try.func11, Try.ntmps11
  go_wp2
  go_loopw [5, 10] (fun r0 j wr => ∃ (q : Nat) (qs : List MsgV) (r : Value), r = r0 ∧ q ≤ n ∧ j = .int .i64 (q : Int) ∧ MRow wr w.heap.size r qs ∧ qs.map MsgV.m = freshL a ((ps.take q).map MsgV.m) ∧ qs.length ≤ q ∧ Later w wr) (fun _ j _ => n - (Go.RowKit.intOf j).toNat)
  case atStart => exact ⟨0, [], _, rfl, by omega, rfl, MRow.nil _ _, rfl, Nat.le_refl _, Below.refl _ _⟩
  case round =>
    obtain ⟨q, qs, r, rfl, hq, rfl, hrow, heq, hql, hb⟩ := hrel
    have HR := hide hrow
    have HE := hide heq
    have HB := hide hb
    clear hrow heq hb
    by_cases hlt : q < n
    · obtain ⟨p, b, off, c', hx, hv, _, _, _, hr, hli⟩ := MsgsIn.at_ (MsgsIn.kept (by rw [← HN.out] at HM; exact HM.out) (Kept.of_below HB.out _)) (k := q) (by rw [HN.out]; exact hlt)
      obtain ⟨rfl, rfl⟩ : A = some ⟨b, off, none⟩ ∧ cap = c' := by injection hv with e1 _ e3; exact ⟨e1, e3⟩
      have HNX := hide (fresh_next (a := a) hx)
      have hwx := HW.out p (List.mem_of_getElem? hx)
      have HRG := hide hr
      obtain ⟨m, s, o, i⟩ := p
      obtain ⟨k1, k2, k3⟩ := hli.cell
      have HZ : Hid ((wr.alloc (.cells zcells 40 (0, 0))).heap[wr.heap.size]? = some (.cells zcells 40 (0, 0))) := heap_alloc_new _ _
      have HLI := hide hli
      have HWX := hide hwx
      have CS := hide (fun w' (hl : Later wr w') => refstale_any (s := s) (o := o) (i := i) (HU.out.kept (Kept.of_below (HB.out.trans hl) _)) (hli.kept (Kept.of_below hl _)).2.2 hwx.2.2)
      clear hx hv hr hli hwx
      obtain ⟨t, ht⟩ : ∃ t, staleB a m = t := ⟨_, rfl⟩
      simp only [ht] at CS
      have HT := hide ht
      clear ht
      go_wp2_with (first
        | (refine wpList_load_mid (by rfl) 40 _ (by rfl) b (off + q * 34) (by rfl) _ _ HRG.out Try.underlying40 (by rfl) (by kernel_rfl) ?_)
        | (refine wpList_store_box (by rfl) 40 _ _ (by rfl) (wr.heap.size) 0 ((m.cells s o i).toArray) (by rfl) (by rfl) 40 (zcells) (HZ.out) (by kernel_rfl) (by exact Nat.le_of_ble_eq_true rfl) (by exact m.one k1 k2 k3) ?_; intro w2 hb2 hg2; rw [put_zmsg] at hb2)
        | (refine wpList_load_box (by rfl) 40 _ (by rfl) (wr.heap.size) 0 (by rfl) 40 _ (hb2) 34 _ Try.underlying40 (by rfl) (by kernel_rfl) (m.cells s o i) (by rfl) (by rfl) ?_))
      have hB2 : Later wr w2 := ((Below.refl _ _).alloc (Nat.le_refl _) _).grown hg2 (by simp) (fun k hk => by have := Option.some.inj hk; omega)
      refine (CS.out w2 hB2).mono ?_
      rintro e w3 ⟨rfl, hl3⟩
      have HX3 := hide ((Below.block hl3 _ (lt_of_block hb2)).trans hb2)
      have L3 : Hid (Later wr w3) := hB2.trans hl3
      clear hb2 hg2 hB2 hl3 CS
      cases t with
      | true =>
        go_wp2
        go_roundw
        case rel => exact ⟨q + 1, qs, _, rfl, by omega, by go_num, HR.out.later L3.out, by rw [HE.out, HNX.out, show staleB a (MsgV.m ⟨m, s, o, i⟩) = true from HT.out]; simp, by omega, HB.out.trans L3.out⟩
        case measure => simp [Go.RowKit.intOf]; omega
      | false =>
        have HR4 := hide (HR.out.later L3.out)
        have HL4 : Hid (Lists (fun b => some b ≠ r.ownBlock) w3 m s o i) := (HLI.out.kept (Kept.of_below L3.out _)).mono (fun b _ hf hb => by have h1 := (HR.out.own.lt b hb.symm).1; have h2 : b < w.heap.size := hf; omega)
        have HO := hide (HR4.out.own.alloc (.cells (m.cells s o i).toArray 40 (0, 0)))
        have hsz : w.heap.size ≤ w3.heap.size := Below.size (HB.out.trans L3.out)
        go_wp2_with (first
          | (refine wpList_load_box (by rfl) 40 _ (by rfl) (wr.heap.size) 0 (by rfl) 40 _ (HX3.out) 34 _ Try.underlying40 (by rfl) (by kernel_rfl) (m.cells s o i) (by rfl) (by rfl) ?_)
          | (refine wpList_buildSlice_one (by rfl) 23 40 _ (by rfl) i0 _ 34 Try.underlying23 hi hz0 hz1 (by decide) (by decide) ((m.cells s o i).toArray) (by rfl) (by rfl) ?_)
          | (at_builtin; refine wpList_append_flat_to (by rfl) _ _ 23 (by rfl) w.heap.size 40 i0 _ 34 304 Try.underlying23 hi hz0 hz1 hz2 (by rfl) (by decide) r qs.length (qs.flatMap MsgV.cells) (by rfl) HO.out w3.heap.size 1 1 (m.cells s o i) (by rfl) (fun _ => True) (flat_one w3 40 34 (m.cells s o i).toArray (by rfl) (by exact m.one k1 k2 k3) (fun _ => True) trivial) (by decide) (by unfold maxLen; omega) (by omega) (by simp; omega) ?_; intro v5 w5 o5 g5 e5))
        have R5 := hide (MRow.next (p := ⟨m, s, o, i⟩) HR4.out HL4.out o5 g5 e5)
        have L5 : Hid (Later w w5) := Below.grown (Below.alloc (HB.out.trans L3.out) hsz _) g5 (by simp; omega) (fun k hk => (HR.out.own.lt k hk).1)
        clear o5 g5 e5
        go_wp2
        go_roundw
        case rel => exact ⟨q + 1, qs ++ [⟨m, s, o, i⟩], _, rfl, by omega, by go_num, R5.out, by rw [List.map_append, HE.out, HNX.out, show staleB a (MsgV.m ⟨m, s, o, i⟩) = false from HT.out]; simp, by simp; omega, L5.out⟩
        case measure => simp [Go.RowKit.intOf]; omega
    · obtain rfl : q = n := by omega
      have hall : qs.map MsgV.m = freshL a (ps.map MsgV.m) := by rw [HE.out, List.take_of_length_le (by have := HN.out; omega)]
      have HALL := hide hall
      clear hall
      go_wp2
      go_ret
      exact ⟨_, qs, rfl, HR.out.msgs, HALL.out, HB.out⟩
end Go.Proofs.Ytflphpjfmbkeiaa
