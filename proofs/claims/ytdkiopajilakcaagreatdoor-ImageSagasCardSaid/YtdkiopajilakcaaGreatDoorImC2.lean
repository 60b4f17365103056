/- Texts merged: ImF, ImG, NtGoodI, NtGoodO, OrderR, NtPartN, NtPartE, NtPartF, NtPartT, NtNWrite, NtNRead, NtPartR, Lit, Lit2, LitN, NtPlaces, NtStepP, LitW, NtRecsS, NtObjects, NtGoodM, OrderS, OrderV, NtRecsSr, NtDefP, NtOpP, NtRecsO, NtNums, NtMsgPl, NtCrc, NtEnvMath, NtNoteMsg, NtReplyP, NtMsgP. -/
import Derived.Test.YtdkiopajilakcaaGreatDoorImC1
import Derived.Laws.EntriesVeiled
import Derived.Maps.AppendAt
import Derived.Lib.ConvBytes
import Derived.Laws.AppendOwn
import Derived.WalkKit
/- slices.DeleteFunc at a row of fields: what is left out goes, the others stay in their order. -/
namespace Go.Proofs.YtdkiopajilakcaaGreatDoor
open Go.RowKit Go.Shelf
structure DelAt (g : Nat) (L : List Fd) (rs : List Value) (n i j : Nat) (cur : List Fd) (W : World) : Prop where
  blk : FBlk g cur rs W
  len : cur.length = n
  lo : cur.take i = keepF (L.take j)
  hi : cur.drop j = L.drop j
  le : i < j
theorem DelAt.get {g : Nat} {L : List Fd} {rs : List Value} {n i j : Nat} {cur : List Fd} {W : World} (h : DelAt g L rs n i j cur W) {f : Fd} (hf : L[j]? = some f) : cur[j]? = some f := by
  have h1 : (cur.drop j)[0]? = (L.drop j)[0]? := by rw [h.hi]
  rw [List.getElem?_drop, List.getElem?_drop, Nat.add_zero] at h1
  rw [h1, hf]
theorem take_snoc {L : List Fd} {j : Nat} {f : Fd} (hf : L[j]? = some f) : L.take (j + 1) = L.take j ++ [f] := by
  obtain ⟨h1, h2⟩ := List.getElem?_eq_some_iff.1 hf
  rw [List.take_succ_eq_append_getElem h1, h2]
theorem DelAt.skip {g : Nat} {L : List Fd} {rs : List Value} {n i j : Nat} {cur : List Fd} {W W' : World} (h : DelAt g L rs n i j cur W) {f : Fd} (hf : L[j]? = some f) (ho : f.out = true) (hl : Later W W') : DelAt g L rs n i (j + 1) cur W' := by
  refine ⟨h.blk.below hl, h.len, ?_, ?_, by have := h.le; omega⟩
  · rw [h.lo, take_snoc hf]
    unfold keepF
    rw [List.filter_append]
    simp [ho]
  · have := congrArg (List.drop 1) h.hi
    rw [List.drop_drop, List.drop_drop] at this
    first | exact this | (rw [Nat.add_comm 1 j] at this; exact this)
theorem DelAt.keep {g : Nat} {L : List Fd} {rs : List Value} {n i j : Nat} {cur : List Fd} {W W' : World} (h : DelAt g L rs n i j cur W) {f : Fd} (hf : L[j]? = some f) (ho : f.out = false) (hj : j < n) (hb : FBlk g (cur.set i f) rs W') : DelAt g L rs n (i + 1) (j + 1) (cur.set i f) W' := by
  have hle := h.le
  have hln := h.len
  refine ⟨hb, by rw [List.length_set]; exact h.len, ?_, ?_, by omega⟩
  · have hi : (cur.set i f)[i]? = some f := by rw [List.getElem?_set_self (by omega)]
    rw [take_snoc hi, take_snoc hf, List.take_set_of_le (by omega)]
    have hlo := h.lo
    unfold keepF at hlo ⊢
    rw [List.filter_append, hlo]
    simp [ho]
  · rw [List.drop_set_of_lt (by omega)]
    have := congrArg (List.drop 1) h.hi
    rw [List.drop_drop, List.drop_drop] at this
    first | exact this | (rw [Nat.add_comm 1 j] at this; exact this)
section
variable {w : World} {g n c : Nat} {L : List Fd} {rs : List Value}
def Dels (g c : Nat) (L : List Fd) (rs : List Value) (w : World) (e : Ending) (w' : World) : Prop :=
  ∃ L' : List Fd, e = .returned (.slice (some ⟨g, 0, none⟩) (keepF L).length c) ∧ FBlk g L' rs w' ∧ L'.take (keepF L).length = keepF L ∧ L'.length = L.length ∧ Turned (fun i => i = g) w w'
set_option maxHeartbeats 8000000 in
set_option maxRecDepth 100000 in
theorem del_any (h : FBlk g L rs w) (hL : L.length = n) (hn : n ≤ 1099511627000) (hnc : n ≤ c) :
    Calls Tryz.prog 57 #[.slice (some ⟨g, 0, none⟩) n c, .func (.func 58) #[] #[]] w (Dels g c L rs w) := by
  have C := hide (index_any (c := c) h hL hn)
  have H := hide h
  have HL := hide hL
  clear h hL
  go_enter Tryz.func57, Tryz.ntmps57
  go_wp2_with (fail)
  refine C.out.mono ?_
  rintro e w1 ⟨hl1, hr⟩
  have L1 : Hid (Later w w1) := hl1
  clear hl1 C
  rcases hr with ⟨rfl, hk⟩ | ⟨k, rfl, hkn, hk1, hk2⟩
  · have HK := hide hk
    clear hk
    go_wp2
    go_ret
    refine ⟨L, by rw [HK.out, HL.out]; rfl, H.out.below L1.out, by rw [HK.out]; exact List.take_length, rfl, Turned.of_below L1.out _⟩
  · have HD : Hid (DelAt g L rs n k (k + 1) L w1) := ⟨H.out.below L1.out, HL.out, hk2.symm, rfl, by omega⟩
    have ek : ((k : Int) == -1) = false := by rw [beq_eq_false_iff_ne]; omega
    clear hk1 hk2
    go_wp2
    go_loopw [5, 6] (fun s5 s6 wr => ∃ (i j : Nat) (cur : List Fd), j ≤ n ∧ i < j ∧ s5 = .int .i64 (i : Int) ∧ s6 = .int .i64 (j : Int) ∧ Hid (DelAt g L rs n i j cur wr) ∧ Hid (Turned (fun i => i = g) w wr)) (fun _ s6 _ => n - (Go.RowKit.intOf s6).toNat)
    case atStart => exact ⟨k, k + 1, L, by omega, by omega, rfl, by go_num, HD.out, Turned.of_below L1.out _⟩
    case round =>
      obtain ⟨i, j, cur, hj, hij, rfl, rfl, HA, TR⟩ := hrel
      clear ek
      by_cases hjn : j < n
      · obtain ⟨f, hf⟩ : ∃ f, L[j]? = some f := ⟨L[j]'(by rw [HL.out]; exact hjn), List.getElem?_eq_getElem _⟩
        have HF := hide hf
        have HR := hide (HA.out.blk.range (HA.out.get hf))
        have I5 : Hid (FBox wr.heap.size fdZ (wr.alloc (.cells #[.int .i64 0, .bool false, .int .u64 0, .slice none 0 0] 51 (0, 0)))) := heap_alloc_new _ _
        have L5a : Hid (Later wr (wr.alloc (.cells #[.int .i64 0, .bool false, .int .u64 0, .slice none 0 0] 51 (0, 0)))) := (Below.refl _ _).alloc (Nat.le_refl _) _
        clear hf
        go_wp2_with (first | (refine wpList_val rfl (by rfl) (exec_load_fd _ (by rfl) (by rfl) HR.out) ?_) | (refine wpList_store_fd (f := f) (by rfl) _ _ (by rfl) (by rfl) I5.out (by rfl) ?_))
        intro w5 Z5 G5
        have L5 : Hid (Later wr w5) := L5a.out.grown G5 (by simp) (fun k hk => by have b1 := Option.some.inj hk; omega)
        have Z5h := hide Z5
        have HGL : Hid (g < wr.heap.size) := lt_of_block HA.out.blk
        obtain ⟨o, ho⟩ : ∃ o, f.out = o := ⟨_, rfl⟩
        have HO := hide ho
        have CC := hide (out_any (w := w5) f)
        rw [ho] at CC
        have HZR := hide Z5.range
        clear Z5 G5 I5 L5a ho
        go_wp2_with (refine wpList_val rfl (by rfl) (exec_load_fd _ (by rfl) (by rfl) HZR.out) ?_)
        refine CC.out.mono ?_
        rintro e w6 ⟨rfl, hl6⟩
        have L56 : Later w5 w6 := hl6
        have LR5 : Later wr w5 := L5.out
        have L6 : Hid (Later wr w6) := Later.trans LR5 L56
        have Z6 := hide (Z5h.out.below hl6)
        have HZR6 := hide Z6.out.range
        clear hl6 CC L56 LR5
        cases o with
        | true =>
          have HA6 : Hid (DelAt g L rs n i (j + 1) cur w6) := HA.out.skip HF.out HO.out L6.out
          go_wp2
          go_roundw
          case rel => exact ⟨i, j + 1, cur, by omega, by omega, rfl, by go_num, HA6.out, TR.out.trans (Turned.of_below L6.out _)⟩
          case measure => simp [Go.RowKit.intOf]; omega
        | false =>
          have HB6 : Hid (FBlk g cur rs w6) := HA.out.blk.below L6.out
          have hcl : cur.length = n := HA.out.len
          have hci : i < cur.length := by omega
          clear hcl
          go_wp2_with (first | (refine wpList_val rfl (by rfl) (exec_load_fd _ (by rfl) (by rfl) HZR6.out) ?_) | (refine wpList_store_row (f := f) (by rfl) _ _ (by rfl) i _ hci (by rfl) (by rfl) HB6.out (by rfl) ?_))
          intro w7 Z7 G7
          have HA7 : Hid (DelAt g L rs n (i + 1) (j + 1) (cur.set i f) w7) := HA.out.keep HF.out HO.out hjn Z7
          have T7 : Hid (Turned (fun i => i = g) w w7) := (TR.out.trans (Turned.of_below L6.out _)).trans (Turned.of_grown G7 (fun g e => (Option.some.inj e).symm))
          clear Z7 G7 hci
          go_wp2
          go_roundw
          case rel => exact ⟨i + 1, j + 1, cur.set i f, by omega, by omega, by go_num, by go_num, HA7.out, T7.out⟩
          case measure => simp [Go.RowKit.intOf]; omega
      · obtain rfl : j = n := by omega
        have HB : Hid (FBlk g cur rs wr) := HA.out.blk
        have hcl : cur.length = i + (j - i) := by have := HA.out.len; omega
        have hci : 0 < j - i := by omega
        have HK : Hid (cur.take i = keepF L) := by
          have h1 := HA.out.lo
          rw [List.take_of_length_le (show L.length ≤ j by rw [HL.out]; omega)] at h1
          exact h1
        have HKL : Hid ((keepF L).length = i) := by
          show _ = _
          rw [← HK.out, List.length_take]
          omega
        go_wp2_with (refine wpList_clear_row (by rfl) _ (by rfl) i (j - i) _ _ hci (by rfl) hcl (by rfl) HB.out ?_)
        intro w7 Z7 G7
        have HZ7 := hide Z7
        have T7 : Hid (Turned (fun i => i = g) w w7) := TR.out.trans (Turned.of_grown G7 (fun g e => (Option.some.inj e).symm))
        clear Z7 G7
        go_wp2
        go_ret
        refine ⟨_, by rw [HKL.out]; rfl, HZ7.out, ?_, ?_, T7.out⟩
        · rw [HKL.out, List.take_append_of_le_length (by simp; omega), List.take_take, Nat.min_self]
          exact HK.out
        · simp [HL.out]
          omega
end
end Go.Proofs.YtdkiopajilakcaaGreatDoor
/- record: the fields that are not zero, one behind the other. -/
namespace Go.Proofs.YtdkiopajilakcaaGreatDoor
open Go.RowKit Go.Shelf
def keepP (ps : List PF) : List PF := ps.filter fun p => !(decide (p.2.2.1 = 0) && decide (p.2.2.2.length = 0))
theorem keep_pf : ∀ (L : List Fd), (∀ f ∈ L, f.b.length = f.n) → (keepF L).map Fd.pf = keepP (L.map Fd.pf)
  | [], _ => rfl
  | x :: r, h => by
    have ih := keep_pf r (fun f hf => h f (by simp [hf]))
    have hx := h x (by simp)
    unfold keepF keepP at ih ⊢
    rw [List.map_cons, List.filter_cons, List.filter_cons]
    have e : (!x.out) = (!(decide (x.pf.2.2.1 = 0) && decide (x.pf.2.2.2.length = 0))) := by
      unfold Fd.out
      show _ = (!(decide (x.v = 0) && decide (x.b.length = 0)))
      rw [hx]
    rw [← e]
    cases x.out with
    | true => simpa using ih
    | false => simp [ih]
theorem FBlk.fholds {g : Nat} {L' L : List Fd} {rs : List Value} {w : World} {m : Nat} (h : FBlk g L' rs w) (hk : L'.take m = L) (hm : m = L.length) (hf : ∀ f ∈ L, f.ok w w.heap.size) : FHolds w w.heap.size (some ⟨g, 0, none⟩) m L :=
  ⟨hm.symm, hf, fun _ => ⟨g, 0, rfl, lt_of_block h, fun i f hi j u hu => by
    have h1 : L'[i]? = some f := by
      have hlt : i < L.length := (List.getElem?_eq_some_iff.1 hi).1
      rw [← hk, List.getElem?_take, if_pos (by omega)] at hi
      exact hi
    have h2 := h.range h1 j u (by simpa using hu)
    rw [Nat.zero_add]
    exact h2⟩⟩
theorem own_fblk {w : World} {B n : Nat} {v : Value} {L : List Fd} (h : w.ownsRow B 51 4 v n (fcells L)) (hn : 0 < n) : ∃ g c rs, v = .slice (some ⟨g, 0, none⟩) n c ∧ B ≤ g ∧ n ≤ c ∧ FBlk g L rs w ∧ L.length = n := by
  obtain ⟨hl, h⟩ := h
  rw [fcells_len] at hl
  rcases h with ⟨_, h0⟩ | ⟨g, cap, cur, rfl, hB, hb, hnc, _, _, ht⟩
  · omega
  · refine ⟨g, cap, cur.toList.drop (n * 4), rfl, hB, hnc, ?_, by omega⟩
    show _ = _
    rw [hb, ← ht, List.take_append_drop, Array.toArray_toList]
theorem FdAt.turned1 {w w' : World} {g : Nat} {L : List Fd} {rs : List Value} {f : Fd} (h : FdAt w f) (hg : FBlk g L rs w) (ht : Turned (fun i => i = g) w w') : FdAt w' f :=
  h.of_heap ht.size fun b cs fr hb => ht.block b (lt_of_block hb) (fun e => by
    subst e
    have h1 : w.heap[b]? = some (.cells (fcells L ++ rs).toArray 51 (0, 0)) := hg
    rw [hb] at h1
    injection h1 with h1
    injection h1 with _ h2 _
    exact absurd h2 (by decide))
def Recs (B : Nat) (ps : List PF) (w : World) (e : Ending) (w' : World) : Prop :=
  ∃ A n c, e = .returned (.slice A n c) ∧ w'.ownsRow B 5 1 (.slice A n c) n (bvs (prec (keepP ps))) ∧ Holds w' w'.heap.size A n (prec (keepP ps)) ∧ n ≤ c ∧ Below B w w'
theorem room_keep (L : List Fd) : room (keepF L) ≤ room L := by
  induction L with
  | nil => simp [keepF, room]
  | cons x r ih =>
    unfold keepF room at ih ⊢
    rw [List.filter_cons]
    split
    · simp at ih ⊢; omega
    · simp at ih ⊢; omega
section
variable {w : World} {g n c B : Nat} {L : List Fd} {rs : List Value}
set_option maxHeartbeats 4000000 in
set_option maxRecDepth 100000 in
theorem record_any17 (h : FBlk g L rs w) (hL : L.length = n) (hn : n ≤ 1000) (hnc : n ≤ c) (hf : ∀ f ∈ L, FdAt w f) (hr : room L ≤ 1099511627000) (hB : B ≤ g) :
    Calls Tryz.prog 29 #[.slice (some ⟨g, 0, none⟩) n c] w (Recs B (L.map Fd.pf) w) := by
  have CD := hide (del_any (c := c) h hL (by omega) hnc)
  have HFD := hide hf
  have H := hide h
  have HRM := hide hr
  have HLN : Hid ((keepF L).length ≤ 1000) := by
    have := List.length_filter_le (fun f : Fd => !f.out) L
    show (L.filter _).length ≤ 1000
    omega
  have HBG := hide hB
  clear h hL hn hnc hf hr hB
  go_enter Tryz.func29, Tryz.ntmps29
  go_wp2_with (fail)
  refine CD.out.mono ?_
  rintro e w2 ⟨L', rfl, hb2, hk2, hl2, ht2⟩
  have hfd : ∀ f ∈ keepF L, FdAt w2 f := fun f hf => (HFD.out f (List.mem_filter.1 hf).1).turned1 H.out ht2
  have hfh : FHolds w2 w2.heap.size (some ⟨g, 0, none⟩) (keepF L).length (keepF L) := hb2.fholds hk2 rfl (fun f hf => (hfd f hf).ok)
  have HPF : Hid ((keepF L).map Fd.pf = keepP (L.map Fd.pf)) := keep_pf L (fun f hf => (HFD.out f hf).ok.2.2.2.1)
  have HLE : Hid (recOf (keepF L) = prec (keepP (L.map Fd.pf))) := by
    show _ = _
    rw [recOf_pf _ (fun f hf => (hfd f hf).ok.2.2.2.1), HPF.out]
  have CW := hide (write_new (some ⟨g, 0, none⟩) (keepF L).length c (keepF L) w2 hfh (Nat.le_trans (room_keep L) HRM.out) (by have := HLN.out; omega))
  rw [HLE.out] at CW
  have T2 := hide ht2
  have HGL : Hid (g < w.heap.size) := lt_of_block H.out
  clear hb2 hk2 hl2 ht2 hfd hfh CD
  go_wp2_with (fail)
  refine CW.out.mono ?_
  rintro e w3 ⟨A3, n3, c3, rfl, ho3, hh3, hc3, hl3⟩
  have HO3 := hide (And.intro ho3 (And.intro hh3 (And.intro hc3 hl3)))
  clear ho3 hh3 hc3 hl3 CW
  go_wp2
  go_ret
  have hs : B ≤ w2.heap.size := by have a1 := T2.out.size; have a2 := HGL.out; have a3 := HBG.out; omega
  have b1 : Below B w w2 := T2.out.below (fun i hi => by have a3 := HBG.out; omega) (by have a2 := HGL.out; have a3 := HBG.out; omega)
  exact ⟨A3, n3, c3, rfl, own_base HO3.out.1 hs, HO3.out.2.1, HO3.out.2.2.1, b1.trans (Below.mono HO3.out.2.2.2 hs)⟩
end
end Go.Proofs.YtdkiopajilakcaaGreatDoor
/- Which numbers, which steps may be. -/
namespace Go.Proofs.YtdkiopajilakcaaGreatDoor
open Go.RowKit

set_option maxHeartbeats 1000000 in
theorem may_any (x : Int) (w : World) : Calls Tryz.prog 140 #[.int .i64 x] w fun e w' => e = .returned (.bool (mayB x)) ∧ Later w w' := by
  by_cases h0 : 0 ≤ x
  · by_cases h1 : x ≤ 1099511627776
    · go_enter Tryz.func140, Tryz.ntmps140
      go_wp2
      go_ret
      exact ⟨ret_bool (by simp [mayB, h0, h1]), Later.refl _⟩
    · go_enter Tryz.func140, Tryz.ntmps140
      go_wp2
      go_ret
      exact ⟨ret_bool (by simp [mayB, h0, h1]), Later.refl _⟩
  · go_enter Tryz.func140, Tryz.ntmps140
    go_wp2
    go_ret
    exact ⟨ret_bool (by simp [mayB]; omega), Later.refl _⟩

set_option maxHeartbeats 1000000 in
set_option maxRecDepth 100000 in
theorem allcI_any (x : Int) (p : Bool) {w : World} {bx : Nat} (h : w.heap[bx]? = some (.cells #[.func (.func 140) #[] #[]] 156 (0, 0))) (hG : ∀ w', Later w w' → Calls Tryz.prog 140 #[.int .i64 x] w' fun e w'' => e = .returned (.bool p) ∧ Later w' w'') :
    Calls Tryz.prog 158 #[.int .i64 x, .pointer (some ⟨bx, 0, none⟩)] w fun e w' => e = .returned (.bool (!p)) ∧ Later w w' := by
  have c1 := cell_of_row w bx 0 _ _ _ h
  simp only [List.getElem?_toArray, List.getElem?_cons_zero] at c1
  have hbl := lt_of_block h
  have C := hide (hG w (Later.refl _))
  have HL0 : Hid (Later w w) := Later.refl _
  clear h hG
  go_enter Tryz.func158, Tryz.ntmps158
  go_wp2_with (fail)
  refine C.out.mono ?_
  rintro e w1 ⟨rfl, hl⟩
  have HL := hide (HL0.out.trans hl)
  clear hl C c1 hbl
  go_wp2
  go_ret
  exact ⟨rfl, HL.out⟩
set_option maxHeartbeats 2000000 in
set_option maxRecDepth 100000 in
theorem indexI_any {w : World} {A : Option Addr} {n c bx : Nat} {F : Nat → Prop} {l : List Int} (hb : w.heap[bx]? = some (.cells #[.func (.func 140) #[] #[]] 156 (0, 0))) (h : IncsAt F w (.slice A n c) l) (hn : n = l.length) :
    Calls Tryz.prog 171 #[.slice A n c, .func (.func 158) #[] #[.pointer (some ⟨bx, 0, none⟩)]] w fun e w' => ∃ i : Int, e = .returned (.int .i64 i) ∧ decide (0 ≤ i) = !(l.all mayB) ∧ Later w w' := by
  have hnb : n ≤ 9223372036854775807 := by
    obtain ⟨_, _, hv, h1, h2, _⟩ := FlatAt.shape h
    injection hv with _ e2 e3
    unfold maxLen at h2
    omega
  have H := hide h
  have HN := hide hn
  have HB := hide hb
  clear h hn hb
  go_enter Tryz.func171, Tryz.ntmps171
  go_wp2
  go_loopw [8] (fun i wr => ∃ q : Nat, q ≤ n ∧ i = .int .i64 (q : Int) ∧ (l.take q).all mayB = true ∧ Later w wr) (fun i _ => n - (Go.RowKit.intOf i).toNat)
  case atStart => exact ⟨0, by omega, rfl, by simp, Later.refl _⟩
  case round =>
    obtain ⟨q, hq, rfl, hall, hlat⟩ := hrel
    have HA := hide hall
    have HL := hide hlat
    clear hall hlat
    by_cases hlt : q < n
    · obtain ⟨x, b, off, c', hxk, hv, _, _, hbw, hr⟩ := IncsAt.at_ (H.out.kept (Kept.of_below HL.out F)) (i := q) (by rw [← HN.out]; exact hlt)
      obtain ⟨rfl, rfl⟩ : A = some ⟨b, off, none⟩ ∧ c = c' := by injection hv with e1 _ e3; exact ⟨e1, e3⟩
      have HXK := hide hxk
      have C := hide (allcI_any x (mayB x) ((Below.block HL.out bx (lt_of_block HB.out)).trans HB.out) (fun w' _ => may_any x w'))
      obtain ⟨t, ht⟩ : ∃ t, mayB x = t := ⟨_, rfl⟩
      rw [ht] at C
      have HT := hide ht
      clear hxk ht hv
      go_wp2_with (fail)
      refine C.out.mono ?_
      rintro e w1 ⟨rfl, hl⟩
      have HL1 := hide (HL.out.trans hl)
      clear hl C
      cases t with
      | true =>
        go_wp2
        go_roundw
        case rel =>
          refine ⟨q + 1, by omega, by go_num, ?_, HL1.out⟩
          rw [List.take_add_one, HXK.out]
          simp [HA.out, HT.out]
        case measure => simp [Go.RowKit.intOf]; omega
      | false =>
        go_wp2
        go_ret
        refine ⟨(q : Int), rfl, ?_, HL1.out⟩
        have hno : l.all mayB = false := by
          rw [List.all_eq_false]
          exact ⟨x, List.mem_of_getElem? HXK.out, by rw [HT.out]; simp⟩
        rw [hno]
        simp
    · have hall : l.all mayB = true := by
        have h1 := HA.out
        rwa [List.take_of_length_le (by have := HN.out; omega)] at h1
      have HALL := hide hall
      clear hall
      go_wp2
      go_ret
      exact ⟨-1, rfl, by rw [HALL.out]; decide, HL.out⟩
set_option maxHeartbeats 1000000 in
set_option maxRecDepth 100000 in
theorem allI_any {w : World} {A : Option Addr} {n c : Nat} {F : Nat → Prop} {l : List Int} (h : IncsAt F w (.slice A n c) l) (hn : n = l.length) :
    Calls Tryz.prog 139 #[.slice A n c, .func (.func 140) #[] #[]] w fun e w' => e = .returned (.bool (l.all mayB)) ∧ Later w w' := by
  have hl : Later w (w.alloc (.cells #[.func (.func 140) #[] #[]] 156 (0, 0))) := Later.alloc _ _
  have hb : (w.alloc (.cells #[.func (.func 140) #[] #[]] 156 (0, 0))).heap[w.heap.size]? = some (.cells #[.func (.func 140) #[] #[]] 156 (0, 0)) := heap_alloc_new _ _
  have C : Hid (Calls Tryz.prog 157 #[.slice A n c, .func (.func 158) #[] #[.pointer (some ⟨w.heap.size, 0, none⟩)]] (w.alloc (.cells #[.func (.func 140) #[] #[]] 156 (0, 0))) fun e w' => e = .returned (.bool (!(l.all mayB))) ∧ Later (w.alloc (.cells #[.func (.func 140) #[] #[]] 156 (0, 0))) w') := by
    have C0 := hide (indexI_any hb (h.kept (Kept.of_below hl F)) hn)
    show Calls _ _ _ _ _
    clear h hn hb hl
    go_enter Tryz.func157, Tryz.ntmps157
    go_wp2_with (fail)
    refine C0.out.mono ?_
    rintro e w1 ⟨i, rfl, hi, hl⟩
    have HI := hide hi
    have HL := hide hl
    clear hi hl C0
    go_wp2
    go_ret
    exact ⟨ret_bool HI.out, HL.out⟩
  have HL := hide hl
  clear h hn hb hl
  go_enter Tryz.func139, Tryz.ntmps139
  go_wp2_with (fail)
  refine C.out.mono ?_
  rintro e w1 ⟨rfl, hl1⟩
  have HL1 := hide (HL.out.trans hl1)
  clear hl1 C
  go_wp2
  go_ret
  exact ⟨ret_bool (by simp), HL1.out⟩

set_option maxHeartbeats 1000000 in
theorem small_any {w : World} {A : Option Addr} {n c : Nat} {F : Nat → Prop} {l : List Int} (h : IncsAt F w (.slice A n c) l) (hn : n = l.length) : Calls Tryz.prog 119 #[.slice A n c] w fun e w' => e = .returned (.bool (l.all mayB)) ∧ Later w w' := by
  have C := hide (allI_any h hn)
  clear h hn
  go_enter Tryz.func119, Tryz.ntmps119
  go_wp2_with (fail)
  refine C.out.mono ?_
  rintro e w1 ⟨rfl, hl⟩
  have HL := hide hl
  clear hl C
  go_wp2
  go_ret
  exact ⟨rfl, HL.out⟩
theorem incs_new (l : List Int) (w : World) (hm : l.length ≤ 1000) : IncsAt (fun _ => True) (w.alloc (.cells (l.map fun x => Value.int .i64 x).toArray 3 (0, 0))) (.slice (some ⟨w.heap.size, 0, none⟩) l.length l.length) l := by
  have hb : (w.alloc (.cells (l.map fun x => Value.int .i64 x).toArray 3 (0, 0))).heap[w.heap.size]? = some (.cells (l.map fun x => Value.int .i64 x).toArray 3 (0, 0)) := heap_alloc_new _ _
  refine ⟨by simp, fun u hu => ?_, some ⟨w.heap.size, 0, none⟩, l.length, rfl, Nat.le_refl _, by unfold maxLen; omega, (fun h => by cases h), fun _ => ⟨w.heap.size, 0, rfl, trivial, lt_of_block hb, fun j u hj => ?_⟩⟩
  · obtain ⟨x, _, rfl⟩ := List.mem_map.1 hu
    rfl
  · rw [cell_of_row _ _ _ _ _ _ hb, Nat.zero_add]
    simpa using hj

set_option maxHeartbeats 2000000 in
set_option maxRecDepth 100000 in
theorem goodstep_any (x : StepD) (w : World) : Calls Tryz.prog 87 #[.agg #[.string x.name, .int .i64 x.stub, .int .i64 x.retry, .int .i64 x.wait, .bool x.undo, .bool x.pivot]] w fun e w' => e = .returned (.bool (stepG x)) ∧ Later w w' := by
  by_cases h1 : x.name.size ≤ 16
  · have e1 : (x.name.size : Int) ≤ 16 := by omega
    have hl : Later w ((w.alloc (.cells #[.string x.name, .int .i64 x.stub, .int .i64 x.retry, .int .i64 x.wait, .bool x.undo, .bool x.pivot] 42 (0, 0))).alloc (.cells #[.int .i64 x.stub, .int .i64 x.retry, .int .i64 x.wait] 3 (0, 0))) := (Later.alloc _ _).trans (Later.alloc _ _)
    have C := hide (small_any (incs_new [x.stub, x.retry, x.wait] (w.alloc (.cells #[.string x.name, .int .i64 x.stub, .int .i64 x.retry, .int .i64 x.wait, .bool x.undo, .bool x.pivot] 42 (0, 0))) (by simp)) rfl)
    simp only [World.size_alloc] at C
    have HL := hide hl
    have H1 := hide h1
    clear hl h1
    go_enter Tryz.func87, Tryz.ntmps87
    go_wp2_with (fail)
    refine C.out.mono ?_
    rintro e w1 ⟨rfl, hl1⟩
    have HL1 := hide (HL.out.trans hl1)
    clear hl1 C
    go_wp2
    go_ret
    exact ⟨ret_bool (by unfold stepG; simp [H1.out, Bool.and_assoc]), HL1.out⟩
  · have e1 : ¬ (x.name.size : Int) ≤ 16 := by omega
    have H1 := hide h1
    clear h1
    go_enter Tryz.func87, Tryz.ntmps87
    go_wp2
    go_ret
    exact ⟨ret_bool (by unfold stepG; simp [H1.out]), Later.alloc _ _⟩

set_option maxHeartbeats 1000000 in
set_option maxRecDepth 100000 in
theorem allcS_any (x : StepD) (p : Bool) {w : World} {bx : Nat} (h : w.heap[bx]? = some (.cells #[.func (.func 87) #[] #[]] 143 (0, 0))) (hG : ∀ w', Later w w' → Calls Tryz.prog 87 #[.agg #[.string x.name, .int .i64 x.stub, .int .i64 x.retry, .int .i64 x.wait, .bool x.undo, .bool x.pivot]] w' fun e w'' => e = .returned (.bool p) ∧ Later w' w'') :
    Calls Tryz.prog 118 #[.agg #[.string x.name, .int .i64 x.stub, .int .i64 x.retry, .int .i64 x.wait, .bool x.undo, .bool x.pivot], .pointer (some ⟨bx, 0, none⟩)] w fun e w' => e = .returned (.bool (!p)) ∧ Later w w' := by
  have c1 := cell_of_row w bx 0 _ _ _ h
  simp only [List.getElem?_toArray, List.getElem?_cons_zero] at c1
  have hbl := lt_of_block h
  have C := hide (hG (w.alloc (.cells #[.string x.name, .int .i64 x.stub, .int .i64 x.retry, .int .i64 x.wait, .bool x.undo, .bool x.pivot] 42 (0, 0))) (Later.alloc _ _))
  have HL0 : Hid (Later w (w.alloc (.cells #[.string x.name, .int .i64 x.stub, .int .i64 x.retry, .int .i64 x.wait, .bool x.undo, .bool x.pivot] 42 (0, 0)))) := Later.alloc _ _
  clear h hG
  go_enter Tryz.func118, Tryz.ntmps118
  go_wp2_with (fail)
  refine C.out.mono ?_
  rintro e w1 ⟨rfl, hl⟩
  have HL := hide (HL0.out.trans hl)
  clear hl C c1 hbl
  go_wp2
  go_ret
  exact ⟨rfl, HL.out⟩
set_option maxHeartbeats 2000000 in
set_option maxRecDepth 100000 in
theorem indexS_any {w : World} {A : Option Addr} {n c bx : Nat} {F : Nat → Prop} {l : List StepD} (hb : w.heap[bx]? = some (.cells #[.func (.func 87) #[] #[]] 143 (0, 0))) (h : StepsAt F w (.slice A n c) l) (hn : n = l.length) :
    Calls Tryz.prog 138 #[.slice A n c, .func (.func 118) #[] #[.pointer (some ⟨bx, 0, none⟩)]] w fun e w' => ∃ i : Int, e = .returned (.int .i64 i) ∧ decide (0 ≤ i) = !(l.all stepG) ∧ Later w w' := by
  have hnb : n ≤ 9223372036854775807 := by
    obtain ⟨_, _, hv, h1, h2, _⟩ := FlatAt.shape h
    injection hv with _ e2 e3
    unfold maxLen at h2
    omega
  have H := hide h
  have HN := hide hn
  have HB := hide hb
  clear h hn hb
  go_enter Tryz.func138, Tryz.ntmps138
  go_wp2
  go_loopw [8] (fun i wr => ∃ q : Nat, q ≤ n ∧ i = .int .i64 (q : Int) ∧ (l.take q).all stepG = true ∧ Later w wr) (fun i _ => n - (Go.RowKit.intOf i).toNat)
  case atStart => exact ⟨0, by omega, rfl, by simp, Later.refl _⟩
  case round =>
    obtain ⟨q, hq, rfl, hall, hlat⟩ := hrel
    have HA := hide hall
    have HL := hide hlat
    clear hall hlat
    by_cases hlt : q < n
    · obtain ⟨x, b, off, c', hxk, hv, _, _, hbw, hr⟩ := StepsAt.at_ (H.out.kept (Kept.of_below HL.out F)) (i := q) (by rw [← HN.out]; exact hlt)
      obtain ⟨rfl, rfl⟩ : A = some ⟨b, off, none⟩ ∧ c = c' := by injection hv with e1 _ e3; exact ⟨e1, e3⟩
      obtain ⟨r0, r1, r2, r3, r4, r5⟩ := range_step hr
      have HXK := hide hxk
      have C := hide (allcS_any x (stepG x) ((Below.block HL.out bx (lt_of_block HB.out)).trans HB.out) (fun w' _ => goodstep_any x w'))
      obtain ⟨t, ht⟩ : ∃ t, stepG x = t := ⟨_, rfl⟩
      rw [ht] at C
      have HT := hide ht
      clear hxk ht hv hr
      go_wp2_with (fail)
      refine C.out.mono ?_
      rintro e w1 ⟨rfl, hl⟩
      have HL1 := hide (HL.out.trans hl)
      clear hl C
      cases t with
      | true =>
        go_wp2
        go_roundw
        case rel =>
          refine ⟨q + 1, by omega, by go_num, ?_, HL1.out⟩
          rw [List.take_add_one, HXK.out]
          simp [HA.out, HT.out]
        case measure => simp [Go.RowKit.intOf]; omega
      | false =>
        go_wp2
        go_ret
        refine ⟨(q : Int), rfl, ?_, HL1.out⟩
        have hno : l.all stepG = false := by
          rw [List.all_eq_false]
          exact ⟨x, List.mem_of_getElem? HXK.out, by rw [HT.out]; simp⟩
        rw [hno]
        simp
    · have hall : l.all stepG = true := by
        have h1 := HA.out
        rwa [List.take_of_length_le (by have := HN.out; omega)] at h1
      have HALL := hide hall
      clear hall
      go_wp2
      go_ret
      exact ⟨-1, rfl, by rw [HALL.out]; decide, HL.out⟩
set_option maxHeartbeats 1000000 in
set_option maxRecDepth 100000 in
theorem allS_any {w : World} {A : Option Addr} {n c : Nat} {F : Nat → Prop} {l : List StepD} (h : StepsAt F w (.slice A n c) l) (hn : n = l.length) :
    Calls Tryz.prog 86 #[.slice A n c, .func (.func 87) #[] #[]] w fun e w' => e = .returned (.bool (l.all stepG)) ∧ Later w w' := by
  have hl : Later w (w.alloc (.cells #[.func (.func 87) #[] #[]] 143 (0, 0))) := Later.alloc _ _
  have hb : (w.alloc (.cells #[.func (.func 87) #[] #[]] 143 (0, 0))).heap[w.heap.size]? = some (.cells #[.func (.func 87) #[] #[]] 143 (0, 0)) := heap_alloc_new _ _
  have C : Hid (Calls Tryz.prog 117 #[.slice A n c, .func (.func 118) #[] #[.pointer (some ⟨w.heap.size, 0, none⟩)]] (w.alloc (.cells #[.func (.func 87) #[] #[]] 143 (0, 0))) fun e w' => e = .returned (.bool (!(l.all stepG))) ∧ Later (w.alloc (.cells #[.func (.func 87) #[] #[]] 143 (0, 0))) w') := by
    have C0 := hide (indexS_any hb (h.kept (Kept.of_below hl F)) hn)
    show Calls _ _ _ _ _
    clear h hn hb hl
    go_enter Tryz.func117, Tryz.ntmps117
    go_wp2_with (fail)
    refine C0.out.mono ?_
    rintro e w1 ⟨i, rfl, hi, hl⟩
    have HI := hide hi
    have HL := hide hl
    clear hi hl C0
    go_wp2
    go_ret
    exact ⟨ret_bool HI.out, HL.out⟩
  have HL := hide hl
  clear h hn hb hl
  go_enter Tryz.func86, Tryz.ntmps86
  go_wp2_with (fail)
  refine C.out.mono ?_
  rintro e w1 ⟨rfl, hl1⟩
  have HL1 := hide (HL.out.trans hl1)
  clear hl1 C
  go_wp2
  go_ret
  exact ⟨ret_bool (by simp), HL1.out⟩
end Go.Proofs.YtdkiopajilakcaaGreatDoor
/- Which definitions, operations, replies, commands may be. -/
namespace Go.Proofs.YtdkiopajilakcaaGreatDoor
open Go.RowKit

set_option maxHeartbeats 2000000 in
set_option maxRecDepth 100000 in
theorem gooddef_any (F : Nat → Prop) (name : ByteArray) (l : List StepD) (sA : Option Addr) (n sc : Nat) (w : World) (hn : n = l.length) (h : StepsAt F w (.slice sA n sc) l) :
    Calls Tryz.prog 44 #[.agg #[.string name, .slice sA n sc]] w fun e w' => e = .returned (.bool (defG ⟨name, l⟩)) ∧ Later w w' := by
  have hl : Later w (w.alloc (.cells #[.string name, .slice sA n sc] 24 (0, 0))) := Later.alloc _ _
  have C := hide (allS_any (h.kept (Kept.of_below hl F)) hn)
  have HL := hide hl
  have HN := hide hn
  obtain ⟨t, ht⟩ : ∃ t, l.all stepG = t := ⟨_, rfl⟩
  rw [ht] at C
  have HT := hide ht
  clear h hl ht hn
  by_cases h1 : name.size ≤ 16
  · have e1 : (name.size : Int) ≤ 16 := by omega
    have H1 := hide h1
    clear h1
    by_cases h2 : n ≤ 8
    · have H2 : Hid (l.length ≤ 8) := by show _ ≤ _; rw [← HN.out]; exact h2
      go_enter Tryz.func44, Tryz.ntmps44
      go_wp2_with (fail)
      refine C.out.mono ?_
      rintro e w1 ⟨rfl, hl1⟩
      have HL1 := hide (HL.out.trans hl1)
      clear hl1 C
      go_wp2
      go_ret
      exact ⟨ret_bool (by unfold defG; simp [H1.out, H2.out, HT.out]), HL1.out⟩
    · have H2 : Hid (¬ l.length ≤ 8) := by show ¬ _; rw [← HN.out]; exact h2
      go_enter Tryz.func44, Tryz.ntmps44
      go_wp2
      go_ret
      exact ⟨ret_bool (by unfold defG; simp [H2.out]), HL.out⟩
  · have e1 : ¬ (name.size : Int) ≤ 16 := by omega
    have H1 := hide h1
    clear h1
    go_enter Tryz.func44, Tryz.ntmps44
    go_wp2
    go_ret
    exact ⟨ret_bool (by unfold defG; simp [H1.out]), HL.out⟩

end Go.Proofs.YtdkiopajilakcaaGreatDoor
/- A region whose order is open, of calls that turn but one part of memory beside operations that read another: as text Order, over whatever relation of worlds. -/
namespace Go.Proofs.YtdkiopajilakcaaGreatDoor
open Go.RowKit

def Pre (R : World → World → Prop) : Prop := (∀ w, R w w) ∧ ∀ {a b c : World}, R a b → R b c → R a c
theorem pre_grown (r : Option Nat) : Pre (fun a b => a.grownBy b r) := ⟨fun w => World.grownBy.refl w r, fun h k => h.trans k⟩

section
variable {P : Program} {ops : Array Oper} {Q : Exit → Act → World → Prop} {md : Region.Mode} {R : World → World → Prop}

def wpAnyR (R : World → World → Prop) (P : Program) (md : Region.Mode) (ops : Array Oper) (Q : Exit → Act → World → Prop) : Nat → Array Bool → Act → World → Prop
  | 0, listed, a, w => Region.ready md ops listed = [] ∧ Q .normal a w
  | fuel + 1, listed, a, w =>
    (Region.ready md ops listed = [] → Q .normal a w) ∧
    ∀ i ∈ Region.ready md ops listed, wpOp P ops Q i (fun a' w' => R w w' ∧ wpAnyR R P md ops Q fuel (listed.setIfInBounds i true) a' w') a w

theorem wpAny_of_R : ∀ (fuel : Nat) (listed : Array Bool) (a : Act) (w : World), wpAnyR R P md ops Q fuel listed a w → wpAny P md ops Q fuel listed a w
  | 0, _, _, _, h => h
  | fuel + 1, _, _, _, h => ⟨h.1, fun i hi => wpOp_mono (fun a' w' h' => wpAny_of_R fuel _ a' w' h'.2) (h.2 i hi)⟩

theorem yields_rel {o : Oper} {v : Value} {a : Act} {w w' : World} (h : YieldsIf P ops (R w) o v a) (hR : Pre R) (hl : R w w') : YieldsIf P ops (R w') o v a :=
  h.imp (fun ⟨hw, hv⟩ => ⟨hw, fun u hu => hv u (hR.2 hl hu)⟩) id

theorem wpAnyR_first (hR : Pre R) {i : Nat} {oi : Oper} {v : Value} (hi : ops[i]? = some oi) (hsel : ∀ (j : Nat) (o : Oper) cs b, ops[j]? = some o → o.op ≠ .select cs b)
    (hQ : ∀ c a w, Q (.panic c) (a.put oi.dst v) w → Q (.panic c) a w) :
    ∀ (fuel : Nat) (listed : Array Bool) (a : Act) (w : World),
      (∀ j oj, ops[j]? = some oj → j ≠ i → listed.getD j true = false → (∀ e ∈ oj.after, Region.binds md e = true → e.on ≠ i) → oi.apart ops oj = true) →
      i ∈ Region.ready md ops listed → YieldsIf P ops (R w) oi v a →
      wpAnyR R P md ops Q fuel (listed.setIfInBounds i true) (a.put oi.dst v) w → wpAnyR R P md ops Q (fuel + 1) listed a w := by
  intro fuel
  induction fuel with
  | zero =>
    intro listed a w _ hr hy H
    refine ⟨fun h => (by rw [h] at hr; cases hr), fun j hj => ?_⟩
    by_cases hji : j = i
    · subst hji
      exact hy.wpOp hi (hR.1 w) ⟨hR.1 w, H⟩
    · have := ready_mono hj hji
      rw [H.1] at this
      cases this
  | succ fuel ih =>
    intro listed a w hfree hr hy H
    refine ⟨fun h => (by rw [h] at hr; cases hr), fun j hj => ?_⟩
    by_cases hji : j = i
    · subst hji
      exact hy.wpOp hi (hR.1 w) ⟨hR.1 w, H⟩
    · have h1 := H.2 j (ready_mono hj hji)
      obtain ⟨hjun, oj, hoj, hall⟩ := mem_ready.1 hj
      have hnot : ∀ e ∈ oj.after, Region.binds md e = true → e.on ≠ i := fun e he hb heq => by
        have q1 := hall e he hb
        have q0 := (mem_ready.1 hr).1
        rw [heq] at q1
        rcases Nat.lt_or_ge i listed.size with h' | h'
        · simp [h'] at q0 q1
          rw [q0] at q1
          cases q1
        · simp [Array.getElem?_eq_none h'] at q1
      have h2 := wpOp_putIf hoj (hfree j oj hoj hji hjun hnot) (fun cs b => hsel i oi cs b hi) (fun cs b => hsel j oj cs b hoj) hQ hy h1
      have hfree' : ∀ k ok, ops[k]? = some ok → k ≠ i → (listed.setIfInBounds j true).getD k true = false →
          (∀ e ∈ ok.after, Region.binds md e = true → e.on ≠ i) → oi.apart ops ok = true := fun k ok hk hki hun hno => by
        refine hfree k ok hk hki ?_ hno
        by_cases hjk : j = k
        · subst hjk; exact hjun
        · rw [getD_set_ne true hjk] at hun; exact hun
      refine wpOp_mono (fun a' w' h3 => ⟨h3.2.1, ih (listed.setIfInBounds j true) a' w' hfree' (ready_mono hr (Ne.symm hji)) (yields_rel h3.1 hR h3.2.1) ?_⟩) h2
      rw [Array.setIfInBounds_comm _ _ hji]
      exact h3.2.2

theorem wpAnyR_take (hR : Pre R) {i : Nat} {oi : Oper} {d : Option Tmp} {v : Value} {fuel : Nat} {listed : Array Bool} {a : Act} {w : World} (hi : ops[i]? = some oi) (hd : oi.dst = d)
    (hs : Region.noSelect ops = true) (hf : Region.free md ops listed i = true) (hr : (Region.ready md ops listed).contains i = true)
    (hQ : ∀ c a w, Q (.panic c) (a.put d v) w → Q (.panic c) a w) (hw : Region.wanted oi (yielded ops a.tmps) = true) (hy : ∀ w', R w w' → (execOp a.eval oi).run P w' = .ok (.value v) w')
    (h : wpAnyR R P md ops Q fuel (listed.setIfInBounds i true) (a.put d v) w) : wpAnyR R P md ops Q (fuel + 1) listed a w := by
  subst hd
  exact wpAnyR_first hR hi (Region.noSelect_spec hs) hQ fuel listed a w (Region.free_spec hi hf) (by simpa using hr) (.inl ⟨hw, hy⟩) h

theorem wpAnyR_only {i : Nat} {o : Oper} {fuel : Nat} {listed : Array Bool} {a : Act} {w : World} (ho : ops[i]? = some o) (hr : Region.ready md ops listed = [i]) (hw : Region.wanted o (yielded ops a.tmps) = true)
    (h : ∀ K' : Act → World → Prop, Hid (∀ a' w', R w w' → wpAnyR R P md ops Q fuel (listed.setIfInBounds i true) a' w' → K' a' w') → Oper.wp P o a w K' Q) : wpAnyR R P md ops Q (fuel + 1) listed a w := by
  refine ⟨fun h0 => absurd (hr ▸ h0) (by simp), fun j hj => ?_⟩
  rw [hr] at hj
  obtain rfl : j = i := by simpa using hj
  refine wpOp_step ho fun K' hK => ?_
  rw [if_pos hw]
  exact h K' fun a' w' hl hn => hK a' w' ⟨hl, hn⟩

theorem wpAnyR_done {listed : Array Bool} {a : Act} {w : World} (hr : Region.ready md ops listed = []) (h : Q .normal a w) : ∀ fuel, wpAnyR R P md ops Q fuel listed a w
  | 0 => ⟨hr, h⟩
  | _ + 1 => ⟨fun _ => h, by rw [hr]; simp⟩

theorem wp_region_R {id : Nat} {a : Act} {w : World} (hm : P.follows .mixedOrders = true)
    (h : wpAnyR R P .any ops Q ops.size (Array.replicate ops.size false) a w.drew) : (Code.region id ops true).wp P Q a w :=
  wp_region_any hm (wpAny_of_R _ _ _ _ h)
end

end Go.Proofs.YtdkiopajilakcaaGreatDoor
/- The parts of numbers: how they are written, how they are read. -/
namespace Go.Proofs.YtdkiopajilakcaaGreatDoor
open Go.RowKit

def NumPl {S : Type} (Inv : (Nat → Prop) → S → World → Prop) (g o : Nat) (set : S → Int → S) : Prop :=
  ∀ P s w, Inv P s w → P g ∧ g < w.heap.size ∧ (∃ x, w.cell? ⟨g, o, none⟩ = some (.int .i64 x)) ∧ w.frozen? ⟨g, o, none⟩ = false ∧ ∀ x, I64 x → Inv P (set s x) (w.setCell ⟨g, o, none⟩ (.int .i64 x))
theorem NumPl.lt {S : Type} {Inv : (Nat → Prop) → S → World → Prop} {g o : Nat} {set : S → Int → S} {P : Nat → Prop} {s : S} {w : World} (h : NumPl Inv g o set) (hi : Inv P s w) : g < w.heap.size := (h P s w hi).2.1
theorem grown_cell (w : World) (g o : Nat) (v : Value) : w.grownBy (w.setCell ⟨g, o, none⟩ v) (some g) :=
  ⟨rfl, rfl, rfl, by simp [World.setCell], fun i _ hne => heap_setCell_other _ _ _ _ (fun e => hne (by rw [e]))⟩
theorem heap_third (w : World) (A B C : Obj) : (((w.alloc A).alloc B).alloc C).heap[w.heap.size + 1 + 1]? = some C := by
  have h := heap_alloc_new ((w.alloc A).alloc B) C
  rwa [show ((w.alloc A).alloc B).heap.size = w.heap.size + 1 + 1 from by simp] at h
theorem heap_firsts (w : World) (A B C : Obj) : (((w.alloc A).alloc B).alloc C).heap[w.heap.size]? = some A ∧ (((w.alloc A).alloc B).alloc C).heap[w.heap.size + 1]? = some B ∧ (((w.alloc A).alloc B).alloc C).heap.size = w.heap.size + 3 := by
  have z1 : (w.alloc A).heap.size = w.heap.size + 1 := World.size_alloc _ _
  have z2 : ((w.alloc A).alloc B).heap.size = w.heap.size + 1 + 1 := by rw [World.size_alloc, z1]
  have h1 : ((w.alloc A).alloc B).heap[w.heap.size]? = some A := (Below.block (Later.alloc (w.alloc A) B) _ (by omega)).trans (heap_alloc_new w A)
  have h2 : ((w.alloc A).alloc B).heap[w.heap.size + 1]? = some B := by
    have h := heap_alloc_new (w.alloc A) B
    rwa [z1] at h
  exact ⟨(Below.block (Later.alloc ((w.alloc A).alloc B) C) _ (by omega)).trans h1, (Below.block (Later.alloc ((w.alloc A).alloc B) C) _ (by omega)).trans h2, by rw [World.size_alloc, z2]⟩
theorem turned_drew (P : Nat → Prop) (w : World) : Turned P w w.drew := ⟨rfl, rfl, rfl, Nat.le_refl _, fun _ _ _ => rfl⟩
def NumIs (num : Int) (g o : Nat) (w : World) (e : Ending) (w' : World) : Prop :=
  ∃ p : PartV, e = .returned (.agg p.cells.toArray) ∧ p.num = num ∧ Later w w' ∧
    (∀ (St : World → Prop) (v : Int), I64 v → (∀ w, St w → w.cell? ⟨g, o, none⟩ = some (.int .i64 v)) → WrOK w.heap.size w'.heap.size w' St p (pnum num v)) ∧
    (∀ (S : Type) (Inv : (Nat → Prop) → S → World → Prop) (sz : S → Nat) (set : S → Int → S), InvOK Inv → NumPl Inv g o set → RdOK w.heap.size w'.heap.size w' Inv sz p fun s f => set s (zag f.2.2.1))
theorem fields_one {w w1 : World} {fs : List PF} {p : PF} {f : Fd} (hfs : fs = [p]) (hp : f.pf = p) (hl : Later w w1) (ho : FdAt w1 f) :
    FieldsIs fs w (.returned (.slice (some ⟨w1.heap.size, 0, none⟩) 1 1)) (w1.alloc (.cells #[.int .i64 f.num, .bool f.text, .int .u64 f.v, .slice f.a f.n f.c] 51 (0, 0))) := by
  have hl2 : Later w1 (w1.alloc (.cells #[.int .i64 f.num, .bool f.text, .int .u64 f.v, .slice f.a f.n f.c] 51 (0, 0))) := Later.alloc _ _
  have ho2 := ho.below hl2
  refine ⟨_, 1, 1, [f], rfl, ⟨rfl, ?_, fun _ => ⟨w1.heap.size, 0, rfl, by simp, ?_⟩⟩, ?_, ?_, Nat.le_refl _, hl.trans hl2⟩
  · intro x hx
    obtain rfl : x = f := by simpa using hx
    exact ho2.ok
  · intro i x hi j u hu
    have hi0 : i = 0 := by
      have := (List.getElem?_eq_some_iff.1 hi).1
      simpa using this
    subst hi0
    obtain rfl : f = x := by simpa using hi
    rw [cell_of_row _ _ _ _ _ _ (heap_alloc_new w1 _)]
    simpa [Fd.cells] using hu
  · intro x hx
    obtain rfl : x = f := by simpa using hx
    exact ho2
  · rw [hfs, ← hp]; rfl

set_option maxHeartbeats 2000000 in
set_option maxRecDepth 100000 in
theorem numw_any {w : World} {bn bq g o : Nat} {num v : Int} (h1 : w.heap[bn]? = some (.cells #[.pointer (some ⟨g, o, none⟩)] 163 (0, 0))) (h2 : w.heap[bq]? = some (.cells #[.int .i64 num] 3 (0, 0)))
    (hc : w.cell? ⟨g, o, none⟩ = some (.int .i64 v)) (hg : g < w.heap.size) (hv : I64 v) (hn : I64 num) :
    Calls Tryz.prog 134 #[.pointer (some ⟨bn, 0, none⟩), .pointer (some ⟨bq, 0, none⟩)] w (FieldsIs (pnum num v) w) := by
  have HB1 : Hid (∀ w', Later w w' → w'.cell? ⟨bn, 0, none⟩ = some (.pointer (some ⟨g, o, none⟩))) := fun w' h => cell_of_row w' bn 0 _ _ _ ((Below.block h bn (lt_of_block h1)).trans h1)
  have HB2 : Hid (∀ w', Later w w' → w'.cell? ⟨bq, 0, none⟩ = some (.int .i64 num)) := fun w' h => cell_of_row w' bq 0 _ _ _ ((Below.block h bq (lt_of_block h2)).trans h2)
  have HC : Hid (∀ w', Later w w' → w'.cell? ⟨g, o, none⟩ = some (.int .i64 v)) := fun w' h => (Below.cell h (p := ⟨g, o, none⟩) hg).trans hc
  have HV := hide hv
  have HN := hide hn
  have L0 : Hid (Later w w.drew) := Later.drew w
  clear h1 h2 hc hg hv hn
  by_cases h0 : v = 0
  · subst h0
    have hx1 := HB1.out w (Later.refl _)
    have hx3 := HC.out w (Later.refl _)
    go_enter Tryz.func134, Tryz.ntmps134
    go_wp2
    go_ret
    exact ⟨none, 0, 0, [], rfl, FHolds.nil_ _ _, by simp, rfl, Nat.le_refl _, Later.refl _⟩
  · have hx1 := HB1.out w (Later.refl _)
    have hx3 := HC.out w (Later.refl _)
    go_enter Tryz.func134, Tryz.ntmps134
    go_wp2
    clear hx1 hx3
    refine wp_region_L (by kernel_rfl) ?_
    refine wpAnyL_take (i := 0) (d := some 7) (v := .int .i64 num) rfl rfl (by kernel_rfl) (by kernel_rfl) (by kernel_rfl) (fun _ _ _ h => h) (by rfl) ?yan0 ?_
    case yan0 => (intro w' hw'; have hx2 := HB2.out w' (L0.out.trans hw'); go_simp; try (with_reducible rfl))
    simp only [Act.put]; try simp only [sA_, sZ_, sS_]
    refine wpAnyL_take (i := 1) (d := some 8) (v := .pointer (some ⟨g, o, none⟩)) rfl rfl (by kernel_rfl) (by kernel_rfl) (by kernel_rfl) (fun _ _ _ h => h) (by rfl) ?yan1 ?_
    case yan1 => (intro w' hw'; have hx1 := HB1.out w' (L0.out.trans hw'); go_simp; try (with_reducible rfl))
    simp only [Act.put]; try simp only [sA_, sZ_, sS_]
    refine wpAnyL_take (i := 2) (d := some 9) (v := ?van2) rfl rfl (by kernel_rfl) (by kernel_rfl) (by kernel_rfl) (fun _ _ _ h => h) (by rfl) ?yan2 ?_
    case yan2 => (intro w' hw'; go_simp; try (with_reducible rfl))
    simp only [Act.put]; try simp only [sA_, sZ_, sS_]
    refine wpAnyL_take (i := 3) (d := some 10) (v := .int .i64 v) rfl rfl (by kernel_rfl) (by kernel_rfl) (by kernel_rfl) (fun _ _ _ h => h) (by rfl) ?yan3 ?_
    case yan3 => (intro w' hw'; have hx3 := HC.out w' (L0.out.trans hw'); go_simp; try (with_reducible rfl))
    simp only [Act.put]; try simp only [sA_, sZ_, sS_]
    refine wpAnyL_only (i := 4) rfl (by kernel_rfl) (by rfl) fun K hK => ?_
    go_simp
    refine (zig_any v _ HV.out.1 HV.out.2).mono ?_
    rintro e w3 ⟨rfl, rfl⟩
    refine hK.out _ _ (Later.refl _) ?_
    clear hK K
    try (simp only [Act.put]; try simp only [sA_, sZ_, sS_])
    refine wpAnyL_take (i := 5) (d := some 12) (v := ?van5) rfl rfl (by kernel_rfl) (by kernel_rfl) (by kernel_rfl) (fun _ _ _ h => h) (by rfl) ?yan5 ?_
    case yan5 => (intro w' hw'; go_simp; try (with_reducible rfl))
    simp only [Act.put]; try simp only [sA_, sZ_, sS_]
    refine wpAnyL_only (i := 6) rfl (by kernel_rfl) (by rfl) fun K hK => ?_
    go_simp
    refine hK.out _ _ (show Later w.drew (w.drew.alloc (.cells #[.int .i64 num, .bool false, .int .u64 (zig v : Nat), .slice none 0 0] 51 (0, 0))) from Later.alloc _ _) ?_
    clear hK K
    try (simp only [Act.put]; try simp only [sA_, sZ_, sS_])
    refine wpAnyL_take (i := 7) (d := some 2) (v := ?van7) rfl rfl (by kernel_rfl) (by kernel_rfl) (by kernel_rfl) (fun _ _ _ h => h) (by rfl) ?yan7 ?_
    case yan7 => (intro w' hw'; go_simp; try (with_reducible rfl))
    simp only [Act.put]; try simp only [sA_, sZ_, sS_]
    refine wpAnyL_done (by kernel_rfl) ?_ _
    go_wp2
    go_ret
    exact fields_one (p := pint num v) (f := ⟨num, false, zig v, none, 0, 0, []⟩) (by unfold pnum pint; rw [if_neg h0]) rfl L0.out (FdAt.plain HN.out (zig_lt v HV.out.1 HV.out.2))

set_option maxHeartbeats 2000000 in
set_option maxRecDepth 100000 in
theorem numr_any {S : Type} {Inv : (Nat → Prop) → S → World → Prop} {set : S → Int → S} {P : Nat → Prop} {s : S} {w : World} {bn g o : Nat} {f : Fd} (hI : InvOK Inv) (hpl : NumPl Inv g o set) (h1 : w.heap[bn]? = some (.cells #[.pointer (some ⟨g, o, none⟩)] 163 (0, 0)))
    (hbn : ¬ P bn) (hinv : Inv P s w) (hf : f.ok w w.heap.size) :
    Calls Tryz.prog 135 #[f.val, .pointer (some ⟨bn, 0, none⟩)] w fun e w' => e = .returned (.tuple #[]) ∧ Inv P (set s (zag f.pf.2.2.1)) w' ∧ Turned P w w' := by
  obtain ⟨fnum, ftext, fv, fa, fn, fc, fb⟩ := f
  have hfv : fv < 18446744073709551616 := hf.2.1
  obtain ⟨W1, hW1⟩ : ∃ W, W = w.alloc (.cells #[.int .i64 fnum, .bool ftext, .int .u64 fv, .slice fa fn fc] 51 (0, 0)) := ⟨_, rfl⟩
  have hL : Later w W1 := by rw [hW1]; exact Later.alloc _ _
  have hz : W1.heap.size = w.heap.size + 1 := by rw [hW1]; exact World.size_alloc _ _
  have hx : W1.heap[w.heap.size]? = some (.cells #[.int .i64 fnum, .bool ftext, .int .u64 fv, .slice fa fn fc] 51 (0, 0)) := by rw [hW1]; exact heap_alloc_new _ _
  obtain ⟨hPg, hgl, ⟨x, hcx⟩, hfr, hset⟩ := hpl P s W1 (hI.keep P s w W1 (Kept.of_below hL _) hinv)
  have hgw : g < w.heap.size := hpl.lt hinv
  have hne : bn ≠ g := fun e => hbn (e ▸ hPg)
  have hbl := lt_of_block h1
  have HI := hide hI
  have HSET := hide (hset (zag fv) (zag_lt fv hfv))
  have HB1 : Hid (W1.heap[bn]? = some (.cells #[.pointer (some ⟨g, o, none⟩)] 163 (0, 0))) := (Below.block hL bn hbl).trans h1
  have HBN : Hid (bn < W1.heap.size) := by show _ < _; omega
  have HNE := hide hne
  have HX := hide hx
  have HSZ := hide hz
  have HGL := hide hgw
  have HFV := hide hfv
  have HPG := hide hPg
  have HLL := hide hL
  have HG : Hid (∀ w', W1.drew.grownBy w' (some g) → W1.grownBy w' (some g)) := fun w' h => (show W1.grownBy W1.drew (some g) from ⟨rfl, rfl, rfl, Nat.le_refl _, fun _ _ _ => rfl⟩).trans h
  have hcx' : W1.drew.cell? ⟨g, o, none⟩ = some (.int .i64 x) := hcx
  have hfr' : W1.drew.frozen? ⟨g, o, none⟩ = false := hfr
  clear hf hfv hL hz hx hPg hset hne hbl h1 hbn hinv hpl hI hgw hcx hfr hgl
  simp only [Fd.val, Fd.cells]
  go_enter Tryz.func135, Tryz.ntmps135
  go_wp2
  rw [← hW1]
  clear hW1
  refine wp_region_R (R := fun a c => a.grownBy c (some g)) (by kernel_rfl) ?_
  refine wpAnyR_take (pre_grown (some g)) (i := 0) (d := some 3) (v := .pointer (some ⟨g, o, none⟩)) rfl rfl (by kernel_rfl) (by kernel_rfl) (by kernel_rfl) (fun _ _ _ h => h) (by rfl) ?yam0 ?_
  case yam0 => (intro w' hw'; have hx1 : w'.cell? ⟨bn, 0, none⟩ = some (.pointer (some ⟨g, o, none⟩)) := cell_of_row w' bn 0 _ _ _ (((HG.out w' hw').block bn HBN.out (fun e => HNE.out (Option.some.inj e))).trans HB1.out); go_simp; try (with_reducible rfl))
  simp only [Act.put]; try simp only [sA_, sZ_, sS_]
  refine wpAnyR_take (pre_grown (some g)) (i := 1) (d := some 4) (v := ?vam1) rfl rfl (by kernel_rfl) (by kernel_rfl) (by kernel_rfl) (fun _ _ _ h => h) (by rfl) ?yam1 ?_
  case yam1 => (intro w' hw'; go_simp; try (with_reducible rfl))
  simp only [Act.put]; try simp only [sA_, sZ_, sS_]
  refine wpAnyR_take (pre_grown (some g)) (i := 2) (d := some 5) (v := .int .u64 (fv : Nat)) rfl rfl (by kernel_rfl) (by kernel_rfl) (by kernel_rfl) (fun _ _ _ h => h) (by rfl) ?yam2 ?_
  case yam2 => (intro w' hw'; have hx2 : w'.cell? ⟨w.heap.size, 2, none⟩ = some (.int .u64 (fv : Nat)) := cell_of_row w' w.heap.size 2 _ _ _ (((HG.out w' hw').block w.heap.size (by rw [HSZ.out]; omega) (fun e => by have := HGL.out; have := Option.some.inj e; omega)).trans HX.out); go_simp; try (with_reducible rfl))
  simp only [Act.put]; try simp only [sA_, sZ_, sS_]
  refine wpAnyR_only (i := 3) rfl (by kernel_rfl) (by rfl) fun K hK => ?_
  go_simp
  refine (zag_any fv _ HFV.out).mono ?_
  rintro e w3 ⟨rfl, rfl⟩
  refine hK.out _ _ (World.grownBy.refl _ _) ?_
  clear hK K
  try (simp only [Act.put]; try simp only [sA_, sZ_, sS_])
  refine wpAnyR_take (pre_grown (some g)) (i := 4) (d := some 7) (v := ?vam4) rfl rfl (by kernel_rfl) (by kernel_rfl) (by kernel_rfl) (fun _ _ _ h => h) (by rfl) ?yam4 ?_
  case yam4 => (intro w' hw'; go_simp; try (with_reducible rfl))
  simp only [Act.put]; try simp only [sA_, sZ_, sS_]
  refine wpAnyR_only (i := 5) rfl (by kernel_rfl) (by rfl) fun K hK => ?_
  go_simp
  refine hK.out _ _ (show W1.drew.grownBy (W1.drew.setCell ⟨g, o, none⟩ (.int .i64 (zag fv))) (some g) from grown_cell _ _ _ _) ?_
  clear hK K
  try simp only [Act.put]
  refine wpAnyR_done (by kernel_rfl) ?_ _
  go_wp2
  go_end0
  exact ⟨rfl, HI.out.keep _ _ _ _ (Kept.drew _ _) HSET.out, ((Turned.of_below HLL.out P).trans (Turned.of_grown (grown_cell W1 g o _) fun q e => by obtain rfl := Option.some.inj e; exact HPG.out)).trans (turned_drew P _)⟩

set_option maxHeartbeats 2000000 in
set_option maxRecDepth 100000 in
theorem enters_num : NtEnters 134 ∧ NtEnters 135 := ⟨fun args w => by go_simp, fun args w => by go_simp⟩
set_option maxHeartbeats 2000000 in
set_option maxRecDepth 100000 in
theorem num_any9 {w : World} {num : Int} {g o : Nat} (hn : I64 num) (hg : g < w.heap.size) : Calls Tryz.prog 115 #[.int .i64 num, .pointer (some ⟨g, o, none⟩)] w (NumIs num g o w) := by
  have HN := hide hn
  have HG := hide hg
  clear hn hg
  go_enter Tryz.func115, Tryz.ntmps115
  go_wp2
  have h3 := heap_third w (.cells #[.int .i64 num] 3 (0, 0)) (.cells #[.pointer (some ⟨g, o, none⟩)] 163 (0, 0)) (.cells #[.int .i64 num, .func (.func 134) #[] #[.pointer (some ⟨w.heap.size + 1, 0, none⟩), .pointer (some ⟨w.heap.size, 0, none⟩)], .func (.func 135) #[] #[.pointer (some ⟨w.heap.size + 1, 0, none⟩)]] 136 (0, 0))
  refine bodyPost_ret (results_cell_row Tryz.results115 _ _ (w.heap.size + 1 + 1) 136 _ (0, 0) _ (by rfl) h3 Tryz.underlying136 (by rfl) (by kernel_rfl)) (by rfl) ?_
  have hl : Later w (((w.alloc (.cells #[.int .i64 num] 3 (0, 0))).alloc (.cells #[.pointer (some ⟨g, o, none⟩)] 163 (0, 0))).alloc (.cells #[.int .i64 num, .func (.func 134) #[] #[.pointer (some ⟨w.heap.size + 1, 0, none⟩), .pointer (some ⟨w.heap.size, 0, none⟩)], .func (.func 135) #[] #[.pointer (some ⟨w.heap.size + 1, 0, none⟩)]] 136 (0, 0))) :=
    ((Later.alloc w _).trans (Later.alloc _ _)).trans (Later.alloc _ _)
  have h1 := (heap_firsts w (.cells #[.int .i64 num] 3 (0, 0)) (.cells #[.pointer (some ⟨g, o, none⟩)] 163 (0, 0)) (.cells #[.int .i64 num, .func (.func 134) #[] #[.pointer (some ⟨w.heap.size + 1, 0, none⟩), .pointer (some ⟨w.heap.size, 0, none⟩)], .func (.func 135) #[] #[.pointer (some ⟨w.heap.size + 1, 0, none⟩)]] 136 (0, 0)))
  obtain ⟨x1, x2, hz⟩ := h1
  refine ⟨⟨num, 134, #[.pointer (some ⟨w.heap.size + 1, 0, none⟩), .pointer (some ⟨w.heap.size, 0, none⟩)], 135, #[.pointer (some ⟨w.heap.size + 1, 0, none⟩)]⟩, rfl, rfl, hl, ?_, ?_⟩
  · intro St v hv hcell
    refine ⟨enters_num.1, fun wx hs hst => ?_⟩
    exact numw_any ((hs.2 _ (by omega) (by omega)).trans x2) ((hs.2 _ (by omega) (by omega)).trans x1) (hcell wx hst) (by have := hs.1; have := HG.out; omega) hv HN.out
  · intro S Inv sz set hI hpl
    refine ⟨enters_num.2, fun P s wx f hs hP hP2 hinv hf _ => ?_⟩
    exact numr_any hI hpl ((hs.2 _ (by omega) (by omega)).trans x2) (hP _ (by omega) (by omega)) hinv hf
end Go.Proofs.YtdkiopajilakcaaGreatDoor
/- The parts of errors. -/
namespace Go.Proofs.YtdkiopajilakcaaGreatDoor
open Go.RowKit

end Go.Proofs.YtdkiopajilakcaaGreatDoor
/- The parts of bools: how they are written, how they are read. -/
namespace Go.Proofs.YtdkiopajilakcaaGreatDoor
open Go.RowKit

def FlagPl {S : Type} (Inv : (Nat → Prop) → S → World → Prop) (g o : Nat) (set : S → Bool → S) : Prop :=
  ∀ P s w, Inv P s w → P g ∧ g < w.heap.size ∧ (∃ x, w.cell? ⟨g, o, none⟩ = some (.bool x)) ∧ w.frozen? ⟨g, o, none⟩ = false ∧ ∀ x, Inv P (set s x) (w.setCell ⟨g, o, none⟩ (.bool x))
def FlagIs (num : Int) (g o : Nat) (w : World) (e : Ending) (w' : World) : Prop :=
  ∃ p : PartV, e = .returned (.agg p.cells.toArray) ∧ p.num = num ∧ Later w w' ∧
    (∀ (St : World → Prop) (v : Bool), (∀ w, St w → w.cell? ⟨g, o, none⟩ = some (.bool v)) → WrOK w.heap.size w'.heap.size w' St p (pflag num v)) ∧
    (∀ (S : Type) (Inv : (Nat → Prop) → S → World → Prop) (sz : S → Nat) (set : S → Bool → S), InvOK Inv → FlagPl Inv g o set → RdOK w.heap.size w'.heap.size w' Inv sz p fun s f => set s (f.2.2.1 == 1))
set_option maxHeartbeats 2000000 in
set_option maxRecDepth 100000 in
theorem flagw_any {w : World} {bn bq g o : Nat} {num : Int} {v : Bool} (h1 : w.heap[bn]? = some (.cells #[.pointer (some ⟨g, o, none⟩)] 165 (0, 0))) (h2 : w.heap[bq]? = some (.cells #[.int .i64 num] 3 (0, 0)))
    (hc : w.cell? ⟨g, o, none⟩ = some (.bool v)) (_hg : g < w.heap.size) (hn : I64 num) :
    Calls Tryz.prog 136 #[.pointer (some ⟨bn, 0, none⟩), .pointer (some ⟨bq, 0, none⟩)] w (FieldsIs (pflag num v) w) := by
  have hx1 := cell_of_row w bn 0 _ _ _ h1
  have hx2 := cell_of_row w bq 0 _ _ _ h2
  simp only [List.getElem?_toArray, List.getElem?_cons_zero] at hx1 hx2
  have HN := hide hn
  clear h1 h2 hn _hg
  cases v with
  | false =>
    go_enter Tryz.func136, Tryz.ntmps136
    go_wp2
    go_ret
    exact ⟨none, 0, 0, [], rfl, FHolds.nil_ _ _, by simp, rfl, Nat.le_refl _, Later.refl _⟩
  | true =>
    go_enter Tryz.func136, Tryz.ntmps136
    go_wp2
    go_ret
    exact fields_one (p := (num, false, 1, [])) (f := ⟨num, false, 1, none, 0, 0, []⟩) rfl rfl (Later.refl w) (FdAt.plain HN.out (by omega))

set_option maxHeartbeats 2000000 in
set_option maxRecDepth 100000 in
theorem flagr_any {S : Type} {Inv : (Nat → Prop) → S → World → Prop} {set : S → Bool → S} {P : Nat → Prop} {s : S} {w : World} {bn g o : Nat} {f : Fd} (hI : InvOK Inv) (hpl : FlagPl Inv g o set) (h1 : w.heap[bn]? = some (.cells #[.pointer (some ⟨g, o, none⟩)] 165 (0, 0)))
    (_hbn : ¬ P bn) (hinv : Inv P s w) (hf : f.ok w w.heap.size) :
    Calls Tryz.prog 137 #[f.val, .pointer (some ⟨bn, 0, none⟩)] w fun e w' => e = .returned (.tuple #[]) ∧ Inv P (set s (f.pf.2.2.1 == 1)) w' ∧ Turned P w w' := by
  obtain ⟨fnum, ftext, fv, fa, fn, fc, fb⟩ := f
  obtain ⟨hPg, hgw, ⟨x, hcx⟩, hfr, hset⟩ := hpl P s w hinv
  have hbl := lt_of_block h1
  have c1 := cell_of_row w bn 0 _ _ _ h1
  simp only [List.getElem?_toArray, List.getElem?_cons_zero] at c1
  have HI := hide hI
  have HSET := hide (hset (fv == 1))
  have HPG := hide hPg
  have e1 : ((fv : Int) == 1) = (fv == 1) := by rw [Bool.eq_iff_iff]; simp; omega
  obtain ⟨y, hy⟩ : ∃ y, (fv == 1) = y := ⟨_, rfl⟩
  rw [hy] at HSET e1
  clear hf hPg hset h1 _hbn hinv hpl hI
  simp only [Fd.val, Fd.cells, Fd.pf, hy]
  clear hy
  go_enter Tryz.func137, Tryz.ntmps137
  go_wp2
  go_end0
  exact ⟨rfl, HI.out.keep _ _ _ _ (Kept.of_below (Later.alloc _ _) _) HSET.out, (Turned.of_grown (grown_cell w g o _) fun q e => by obtain rfl := Option.some.inj e; exact HPG.out).trans (Turned.of_below (Later.alloc _ _) P)⟩

set_option maxHeartbeats 2000000 in
set_option maxRecDepth 100000 in
theorem enters_flag : NtEnters 136 ∧ NtEnters 137 := ⟨fun args w => by go_simp, fun args w => by go_simp⟩
set_option maxHeartbeats 2000000 in
set_option maxRecDepth 100000 in
theorem flag_any {w : World} {num : Int} {g o : Nat} (hn : I64 num) (hg : g < w.heap.size) : Calls Tryz.prog 116 #[.int .i64 num, .pointer (some ⟨g, o, none⟩)] w (FlagIs num g o w) := by
  have HN := hide hn
  have HG := hide hg
  clear hn hg
  go_enter Tryz.func116, Tryz.ntmps116
  go_wp2
  have h3 := heap_third w (.cells #[.int .i64 num] 3 (0, 0)) (.cells #[.pointer (some ⟨g, o, none⟩)] 165 (0, 0)) (.cells #[.int .i64 num, .func (.func 136) #[] #[.pointer (some ⟨w.heap.size + 1, 0, none⟩), .pointer (some ⟨w.heap.size, 0, none⟩)], .func (.func 137) #[] #[.pointer (some ⟨w.heap.size + 1, 0, none⟩)]] 136 (0, 0))
  refine bodyPost_ret (results_cell_row Tryz.results116 _ _ (w.heap.size + 1 + 1) 136 _ (0, 0) _ (by rfl) h3 Tryz.underlying136 (by rfl) (by kernel_rfl)) (by rfl) ?_
  have hl : Later w (((w.alloc (.cells #[.int .i64 num] 3 (0, 0))).alloc (.cells #[.pointer (some ⟨g, o, none⟩)] 165 (0, 0))).alloc (.cells #[.int .i64 num, .func (.func 136) #[] #[.pointer (some ⟨w.heap.size + 1, 0, none⟩), .pointer (some ⟨w.heap.size, 0, none⟩)], .func (.func 137) #[] #[.pointer (some ⟨w.heap.size + 1, 0, none⟩)]] 136 (0, 0))) := ((Later.alloc w _).trans (Later.alloc _ _)).trans (Later.alloc _ _)
  obtain ⟨x1, x2, hz⟩ := heap_firsts w (.cells #[.int .i64 num] 3 (0, 0)) (.cells #[.pointer (some ⟨g, o, none⟩)] 165 (0, 0)) (.cells #[.int .i64 num, .func (.func 136) #[] #[.pointer (some ⟨w.heap.size + 1, 0, none⟩), .pointer (some ⟨w.heap.size, 0, none⟩)], .func (.func 137) #[] #[.pointer (some ⟨w.heap.size + 1, 0, none⟩)]] 136 (0, 0))
  refine ⟨⟨num, 136, #[.pointer (some ⟨w.heap.size + 1, 0, none⟩), .pointer (some ⟨w.heap.size, 0, none⟩)], 137, #[.pointer (some ⟨w.heap.size + 1, 0, none⟩)]⟩, rfl, rfl, hl, ?_, ?_⟩
  · intro St v hcell
    refine ⟨enters_flag.1, fun wx hs hst => ?_⟩
    exact flagw_any ((hs.2 _ (by omega) (by omega)).trans x2) ((hs.2 _ (by omega) (by omega)).trans x1) (hcell wx hst) (by have := hs.1; have := HG.out; omega) HN.out
  · intro S Inv sz set hI hpl
    refine ⟨enters_flag.2, fun P s wx f hs hP hP2 hinv hf hz9 => ?_⟩
    exact flagr_any hI hpl ((hs.2 _ (by omega) (by omega)).trans x2) (hP _ (by omega) (by omega)) hinv hf
end Go.Proofs.YtdkiopajilakcaaGreatDoor
/- The parts of strings: how they are written, how they are read. -/
namespace Go.Proofs.YtdkiopajilakcaaGreatDoor
open Go.RowKit

theorem str_ne {a : ByteArray} (h : a ≠ ⟨#[]⟩) : a.toList.isEmpty = false := by
  rcases he : a.toList.isEmpty with _ | _
  · rfl
  · exfalso
    apply h
    apply size_zero
    rw [ByteArray.toList_eq] at he
    have h1 : a.data.toList = [] := List.isEmpty_iff.1 he
    have h2 : a.data.size = 0 := by rw [← Array.length_toList, h1]; rfl
    exact h2

theorem bytes_later (w : World) (e : TypeId) (s : ByteArray) : Later w (Lib.bytesWorld w e s) :=
  ⟨rfl, rfl, rfl, by rw [Lib.bytesWorld_size]; omega, fun i hi => Lib.bytesWorld_at_old w e s i hi⟩
theorem nums_get (s : ByteArray) (j : Nat) : (nums s).getD j 0 = (s.data.toList.getD j 0).toNat := by
  unfold nums
  rcases h : s.data.toList[j]? with _ | x
  · simp [List.getD, h]
  · simp [List.getD, h]
theorem bytes_fd {w : World} {num : Int} {s : ByteArray} (hn : I64 num) : FdAt (Lib.bytesWorld w 5 s) ⟨num, true, 0, some ⟨w.heap.size, 0, none⟩, s.size, grownCap w s.size 0 5, nums s⟩ := by
  refine ⟨⟨hn, by simp, grownCap_ge _ _ _ _, nums_len s, nums_small s, fun _ => ⟨w.heap.size, 0, rfl, by rw [Lib.bytesWorld_size]; omega, fun i hi => ?_⟩⟩, fun _ => ⟨w.heap.size, 0, _, _, rfl, Lib.bytesWorld_at_new _ _ _⟩⟩
  simp only [Nat.zero_add]
  rw [Lib.bytesWorld_cell w _ s i hi, nums_get]
def TextPl {S : Type} (Inv : (Nat → Prop) → S → World → Prop) (g o : Nat) (set : S → ByteArray → S) : Prop :=
  ∀ P s w, Inv P s w → P g ∧ g < w.heap.size ∧ (∃ x, w.cell? ⟨g, o, none⟩ = some (.string x)) ∧ w.frozen? ⟨g, o, none⟩ = false ∧ ∀ x, x.size ≤ 1000000 → Inv P (set s x) (w.setCell ⟨g, o, none⟩ (.string x))
def TextIs (num : Int) (g o : Nat) (w : World) (e : Ending) (w' : World) : Prop :=
  ∃ p : PartV, e = .returned (.agg p.cells.toArray) ∧ p.num = num ∧ Later w w' ∧
    (∀ (St : World → Prop) (v : ByteArray), (∀ w, St w → w.cell? ⟨g, o, none⟩ = some (.string v)) → WrOK w.heap.size w'.heap.size w' St p (ptext num (nums v))) ∧
    (∀ (S : Type) (Inv : (Nat → Prop) → S → World → Prop) (sz : S → Nat) (set : S → ByteArray → S), InvOK Inv → TextPl Inv g o set → RdOK w.heap.size w'.heap.size w' Inv sz p fun s f => set s (str f.2.2.2))
set_option maxHeartbeats 2000000 in
set_option maxRecDepth 100000 in
theorem textw_any {w : World} {bn bq g o : Nat} {num : Int} {v : ByteArray} (h1 : w.heap[bn]? = some (.cells #[.pointer (some ⟨g, o, none⟩)] 138 (0, 0))) (h2 : w.heap[bq]? = some (.cells #[.int .i64 num] 3 (0, 0)))
    (hc : w.cell? ⟨g, o, none⟩ = some (.string v)) (hg : g < w.heap.size) (hn : I64 num) :
    Calls Tryz.prog 111 #[.pointer (some ⟨bn, 0, none⟩), .pointer (some ⟨bq, 0, none⟩)] w (FieldsIs (ptext num (nums v)) w) := by
  have HB1 : Hid (∀ w', Later w w' → w'.cell? ⟨bn, 0, none⟩ = some (.pointer (some ⟨g, o, none⟩))) := fun w' h => cell_of_row w' bn 0 _ _ _ ((Below.block h bn (lt_of_block h1)).trans h1)
  have HB2 : Hid (∀ w', Later w w' → w'.cell? ⟨bq, 0, none⟩ = some (.int .i64 num)) := fun w' h => cell_of_row w' bq 0 _ _ _ ((Below.block h bq (lt_of_block h2)).trans h2)
  have HC : Hid (∀ w', Later w w' → w'.cell? ⟨g, o, none⟩ = some (.string v)) := fun w' h => (Below.cell h (p := ⟨g, o, none⟩) hg).trans hc
  have HN := hide hn
  have L0 : Hid (Later w w.drew) := Later.drew w
  clear h1 h2 hc hg hn
  have hx1 := HB1.out w (Later.refl _)
  have hx3 := HC.out w (Later.refl _)
  by_cases h0 : v = ⟨#[]⟩
  · subst h0
    go_enter Tryz.func111, Tryz.ntmps111
    go_wp2
    go_ret
    exact ⟨none, 0, 0, [], rfl, FHolds.nil_ _ _, by simp, rfl, Nat.le_refl _, Later.refl _⟩
  · have hne : v.toList.isEmpty = false := str_ne h0
    have H0 := hide h0
    clear h0
    go_enter Tryz.func111, Tryz.ntmps111
    go_wp2
    clear hx1 hx3 hne
    refine wp_region_L (by kernel_rfl) ?_
    refine wpAnyL_take (i := 0) (d := some 7) (v := .int .i64 num) rfl rfl (by kernel_rfl) (by kernel_rfl) (by kernel_rfl) (fun _ _ _ h => h) (by rfl) ?yat0 ?_
    case yat0 => (intro w' hw'; have hx2 := HB2.out w' (L0.out.trans hw'); go_simp; try (with_reducible rfl))
    simp only [Act.put]; try simp only [sA_, sZ_, sS_]
    refine wpAnyL_take (i := 1) (d := some 8) (v := .pointer (some ⟨g, o, none⟩)) rfl rfl (by kernel_rfl) (by kernel_rfl) (by kernel_rfl) (fun _ _ _ h => h) (by rfl) ?yat1 ?_
    case yat1 => (intro w' hw'; have hx1 := HB1.out w' (L0.out.trans hw'); go_simp; try (with_reducible rfl))
    simp only [Act.put]; try simp only [sA_, sZ_, sS_]
    refine wpAnyL_take (i := 2) (d := some 9) (v := ?vat2) rfl rfl (by kernel_rfl) (by kernel_rfl) (by kernel_rfl) (fun _ _ _ h => h) (by rfl) ?yat2 ?_
    case yat2 => (intro w' hw'; go_simp; try (with_reducible rfl))
    simp only [Act.put]; try simp only [sA_, sZ_, sS_]
    refine wpAnyL_take (i := 3) (d := some 10) (v := .string v) rfl rfl (by kernel_rfl) (by kernel_rfl) (by kernel_rfl) (fun _ _ _ h => h) (by rfl) ?yat3 ?_
    case yat3 => (intro w' hw'; have hx3 := HC.out w' (L0.out.trans hw'); go_simp; try (with_reducible rfl))
    simp only [Act.put]; try simp only [sA_, sZ_, sS_]
    refine wpAnyL_only (i := 4) rfl (by kernel_rfl) (by rfl) fun K hK => ?_
    have e1 := Lib.run_convert_string_bytes (P := Tryz.prog) w.drew 9 28 5 v Tryz.underlying9 Tryz.underlying28 Tryz.underlying5
    go_simp
    refine hK.out _ _ (bytes_later w.drew _ v) ?_
    clear hK K
    try (simp only [Act.put]; try simp only [sA_, sZ_, sS_])
    refine wpAnyL_take (i := 5) (d := some 12) (v := ?vat5) rfl rfl (by kernel_rfl) (by kernel_rfl) (by kernel_rfl) (fun _ _ _ h => h) (by rfl) ?yat5 ?_
    case yat5 => (intro w' hw'; go_simp; try (with_reducible rfl))
    simp only [Act.put]; try simp only [sA_, sZ_, sS_]
    refine wpAnyL_only (i := 6) rfl (by kernel_rfl) (by rfl) fun K hK => ?_
    go_simp
    refine hK.out _ _ (show Later (Lib.bytesWorld w.drew 5 v) ((Lib.bytesWorld w.drew 5 v).alloc (.cells #[.int .i64 num, .bool true, .int .u64 0, .slice (some ⟨w.heap.size, 0, none⟩) v.size (grownCap w.drew v.size 0 5)] 51 (0, 0))) from Later.alloc _ _) ?_
    clear hK K
    try (simp only [Act.put]; try simp only [sA_, sZ_, sS_])
    refine wpAnyL_take (i := 7) (d := some 2) (v := ?vat7) rfl rfl (by kernel_rfl) (by kernel_rfl) (by kernel_rfl) (fun _ _ _ h => h) (by rfl) ?yat7 ?_
    case yat7 => (intro w' hw'; go_simp; try (with_reducible rfl))
    simp only [Act.put]; try simp only [sA_, sZ_, sS_]
    refine wpAnyL_done (by kernel_rfl) ?_ _
    go_wp2
    go_ret
    exact fields_one (p := (num, true, 0, nums v)) (f := ⟨num, true, 0, some ⟨w.heap.size, 0, none⟩, v.size, grownCap w.drew v.size 0 5, nums v⟩) (by unfold ptext; rw [if_neg (fun e => H0.out (size_zero (nums_eq_nil.1 e)))]) rfl (L0.out.trans (bytes_later w.drew _ v)) (bytes_fd HN.out)

set_option maxHeartbeats 2000000 in
set_option maxRecDepth 100000 in
theorem textr_any {S : Type} {Inv : (Nat → Prop) → S → World → Prop} {set : S → ByteArray → S} {P : Nat → Prop} {s : S} {w : World} {bn g o : Nat} {f : Fd} (hI : InvOK Inv) (hpl : TextPl Inv g o set) (h1 : w.heap[bn]? = some (.cells #[.pointer (some ⟨g, o, none⟩)] 138 (0, 0)))
    (_hbn : ¬ P bn) (hinv : Inv P s w) (hf : f.ok w w.heap.size) (hsz : f.n ≤ 1000000) :
    Calls Tryz.prog 112 #[f.val, .pointer (some ⟨bn, 0, none⟩)] w fun e w' => e = .returned (.tuple #[]) ∧ Inv P (set s (str f.pf.2.2.2)) w' ∧ Turned P w w' := by
  obtain ⟨fnum, ftext, fv, fa, fn, fc, fb⟩ := f
  obtain ⟨hPg, hgw, ⟨x, hcx⟩, hfr, hset⟩ := hpl P s w hinv
  have hbl := lt_of_block h1
  have c1 := cell_of_row w bn 0 _ _ _ h1
  simp only [List.getElem?_toArray, List.getElem?_cons_zero] at c1
  have HI := hide hI
  have hb : fb.length = fn := hf.2.2.2.1
  have hb2 : ∀ x ∈ fb, x < 256 := hf.2.2.2.2.1
  simp only at hsz
  have HSET := hide (hset (str fb) (by rw [← nums_len, nums_str hb2]; omega))
  have HPG := hide hPg
  have d1 := run_str (w.alloc (.cells #[.int .i64 fnum, .bool ftext, .int .u64 fv, .slice fa fn fc] 51 (0, 0))) w.heap.size fa fn fc fb (hf.2.2.2.below (Later.alloc w _))
  obtain ⟨y, hy⟩ : ∃ y, str fb = y := ⟨_, rfl⟩
  rw [hy] at HSET d1
  clear hf hPg hset h1 _hbn hinv hpl hI hb hsz hb2
  simp only [Fd.val, Fd.cells, Fd.pf, hy]
  clear hy
  go_enter Tryz.func112, Tryz.ntmps112
  go_wp2
  go_end0
  exact ⟨rfl, HI.out.keep _ _ _ _ (Kept.of_below (Later.alloc _ _) _) HSET.out, (Turned.of_grown (grown_cell w g o _) fun q e => by obtain rfl := Option.some.inj e; exact HPG.out).trans (Turned.of_below (Later.alloc _ _) P)⟩

set_option maxHeartbeats 2000000 in
set_option maxRecDepth 100000 in
theorem enters_text : NtEnters 111 ∧ NtEnters 112 := ⟨fun args w => by go_simp, fun args w => by go_simp⟩
set_option maxHeartbeats 2000000 in
set_option maxRecDepth 100000 in
theorem text_any {w : World} {num : Int} {g o : Nat} (hn : I64 num) (hg : g < w.heap.size) : Calls Tryz.prog 83 #[.int .i64 num, .pointer (some ⟨g, o, none⟩)] w (TextIs num g o w) := by
  have HN := hide hn
  have HG := hide hg
  clear hn hg
  go_enter Tryz.func83, Tryz.ntmps83
  go_wp2
  have h3 := heap_third w (.cells #[.int .i64 num] 3 (0, 0)) (.cells #[.pointer (some ⟨g, o, none⟩)] 138 (0, 0)) (.cells #[.int .i64 num, .func (.func 111) #[] #[.pointer (some ⟨w.heap.size + 1, 0, none⟩), .pointer (some ⟨w.heap.size, 0, none⟩)], .func (.func 112) #[] #[.pointer (some ⟨w.heap.size + 1, 0, none⟩)]] 136 (0, 0))
  refine bodyPost_ret (results_cell_row Tryz.results83 _ _ (w.heap.size + 1 + 1) 136 _ (0, 0) _ (by rfl) h3 Tryz.underlying136 (by rfl) (by kernel_rfl)) (by rfl) ?_
  have hl : Later w (((w.alloc (.cells #[.int .i64 num] 3 (0, 0))).alloc (.cells #[.pointer (some ⟨g, o, none⟩)] 138 (0, 0))).alloc (.cells #[.int .i64 num, .func (.func 111) #[] #[.pointer (some ⟨w.heap.size + 1, 0, none⟩), .pointer (some ⟨w.heap.size, 0, none⟩)], .func (.func 112) #[] #[.pointer (some ⟨w.heap.size + 1, 0, none⟩)]] 136 (0, 0))) := ((Later.alloc w _).trans (Later.alloc _ _)).trans (Later.alloc _ _)
  obtain ⟨x1, x2, hz⟩ := heap_firsts w (.cells #[.int .i64 num] 3 (0, 0)) (.cells #[.pointer (some ⟨g, o, none⟩)] 138 (0, 0)) (.cells #[.int .i64 num, .func (.func 111) #[] #[.pointer (some ⟨w.heap.size + 1, 0, none⟩), .pointer (some ⟨w.heap.size, 0, none⟩)], .func (.func 112) #[] #[.pointer (some ⟨w.heap.size + 1, 0, none⟩)]] 136 (0, 0))
  refine ⟨⟨num, 111, #[.pointer (some ⟨w.heap.size + 1, 0, none⟩), .pointer (some ⟨w.heap.size, 0, none⟩)], 112, #[.pointer (some ⟨w.heap.size + 1, 0, none⟩)]⟩, rfl, rfl, hl, ?_, ?_⟩
  · intro St v hcell
    refine ⟨enters_text.1, fun wx hs hst => ?_⟩
    exact textw_any ((hs.2 _ (by omega) (by omega)).trans x2) ((hs.2 _ (by omega) (by omega)).trans x1) (hcell wx hst) (by have := hs.1; have := HG.out; omega) HN.out
  · intro S Inv sz set hI hpl
    refine ⟨enters_text.2, fun P s wx f hs hP hP2 hinv hf hz9 => ?_⟩
    exact textr_any hI hpl ((hs.2 _ (by omega) (by omega)).trans x2) (hP _ (by omega) (by omega)) hinv hf (by omega)
end Go.Proofs.YtdkiopajilakcaaGreatDoor
/- The walk over note.write: the record of what parts have. -/
namespace Go.Proofs.YtdkiopajilakcaaGreatDoor
open Go.RowKit

theorem later_grown2 {w w1 w2 : World} {e size n : Nat} {v : Value} {xs : List Value} (hl : Later w w1) (ho : w1.ownsRow w.heap.size e size v n xs) (hg : w1.grownBy w2 v.ownBlock) : Later w w2 :=
  Below.trans hl ((Below.refl _ _).grown hg (Below.size hl) fun k hk => (ho.lt k hk).1)

theorem Tryz.infoFd9 : (Tryz.prog.info? 51).map (fun i => (i.zero, i.size, i.bytes)) = some (some (.agg #[.int .i64 0, .bool false, .int .u64 0, .slice none 0 0]), 4, 48) := by kernel_rfl

set_option maxHeartbeats 1000000 in
set_option maxRecDepth 100000 in
theorem nwrite_any {a b : Nat} {w0 w : World} {St : World → Prop} {A : Option Addr} {n c : Nat} {ps : List PartV} {fss : List (List PF)} (hp : NtPartsAt a b w (.slice A n c) ps) (hn : n = ps.length) (hs : Stay a b w0 w) (hst : St w)
    (hup : ∀ w w', St w → Later w w' → St w') (hw : WrAll a b w0 St ps fss) (hroom : proom fss.flatten ≤ 1000000000) :
    Calls Tryz.prog 54 #[.slice A n c] w (NewBytes w (prec fss.flatten)) := by
  obtain ⟨i0, hi, hz0, hz1, hz2⟩ := info_parts Tryz.infoFd9
  have hlen := all2_len hw
  have HP := hide hp
  have HS := hide hs
  have HST := hide hst
  have HUP := hide hup
  have HW := hide hw
  have HR := hide hroom
  have hnb : n ≤ 9223372036854775807 := by
    obtain ⟨_, _, hv, h1, h2, _⟩ := FlatAt.shape hp
    injection hv with _ e2 e3
    unfold maxLen at h2
    omega
  have HN := hide hn
  have HL0 := hide hlen
  clear hp hs hst hup hw hroom hn hlen
  go_enter Tryz.func54, Tryz.ntmps54
  go_wp2
  go_loopw [3, 8] (fun lv i wr => ∃ (k : Nat) (fds : List Fd), k ≤ n ∧ i = .int .i64 (k : Int) ∧ wr.ownsRow w.heap.size 51 4 lv fds.length (fcells fds) ∧ (∀ f ∈ fds, FdAt wr f) ∧ fds.map Fd.pf = (fss.take k).flatten ∧ Later w wr) (fun _ i _ => n - (Go.RowKit.intOf i).toNat)
  case atStart => exact ⟨0, [], by omega, rfl, by simpa [fcells] using World.ownsRow_nil _ _ _ _, by simp, by simp, Later.refl _⟩
  case round =>
    obtain ⟨k, fds, hk, rfl, hown, hoks, hpf, hlat⟩ := hrel
    have HO := hide hown
    have HK := hide hoks
    have HF := hide hpf
    have HL := hide hlat
    clear hown hoks hpf hlat
    by_cases hlt : k < n
    · obtain ⟨p, g, off, c', hpk, hv, _, hgw, q0, q1, q2⟩ := (HP.out.stay ((Stay.refl HS.out.1).later HL.out) (Below.size HL.out)).at_ (i := k) (by rw [← HN.out]; exact hlt)
      obtain ⟨rfl, rfl⟩ : A = some ⟨g, off, none⟩ ∧ c = c' := by injection hv with e1 _ e3; exact ⟨e1, e3⟩
      obtain ⟨fs, hfs, hwr⟩ := all2_at HW.out hpk
      obtain ⟨num, wf, wc, rf, rc⟩ := p
      simp only at q0 q1 q2
      have C := hide (fun w' (hl : Later w w') => hwr.2 w' (HS.out.later hl) (HUP.out _ _ HST.out hl))
      have eg := hwr.1
      have HFS := hide hfs
      clear hv hpk hwr hfs
      simp only at C eg
      unfold NtEnters at eg
      go_wp2_with (fail)
      refine (C.out _ (HL.out.trans (Later.alloc _ _))).mono ?_
      rintro e w1 ⟨A1, n1, c1, gds, rfl, hfh, hfo, hgp, hnc1, hl1⟩
      have HL1 := hide ((HL.out.trans (Later.alloc _ _)).trans hl1)
      have O1 := hide (own_below_any HO.out ((Later.alloc _ _).trans hl1))
      have K1 := hide (fun f hf => ((HK.out f hf).below ((Later.alloc _ _).trans hl1)))
      have HFH := hide hfh
      have HFO := hide hfo
      have HGP := hide hgp
      have hcount : fds.length + n1 ≤ 50000000 := by
        have h1 := take_flat_room fss (k + 1)
        have h2 := proom_count (fss.take (k + 1)).flatten
        have h3 := HR.out
        have h4 : (fss.take (k + 1)).flatten.length = fds.length + n1 := by
          rw [take_flat HFS.out, List.length_append, ← HF.out, ← hgp, List.length_map, List.length_map, hfh.1]
        omega
      clear hfh hfo hgp hl1 C eg
      go_wp2_with (at_builtin; refine wpList_append_fields _ rfl (.tmp 12) (.tmp 15) 71 rfl w.heap.size 51 i0 _ Tryz.underlying71 hi hz0 hz1 hz2 rfl _ fds.length fds rfl O1.out w1.heap.size A1 n1 c1 gds rfl HFH.out (by omega) (Below.size HL1.out) ?_; intro v2 w2 o2 g2)
      have O2 := hide o2
      have G2 := hide g2
      clear o2 g2
      go_roundw
      case rel =>
        refine ⟨k + 1, fds ++ gds, by omega, by go_num, ?_, ?_, ?_, ?_⟩
        · rw [List.length_append, HFH.out.1]
          exact O2.out
        · intro f hf
          rcases List.mem_append.1 hf with hf | hf
          · exact (K1.out f hf).kept O1.out G2.out (by decide)
          · exact (HFO.out f hf).kept O1.out G2.out (by decide)
        · rw [List.map_append, HF.out, HGP.out, take_flat HFS.out]
        · exact later_grown2 HL1.out O1.out G2.out
      case measure => simp [Go.RowKit.intOf]; omega
    · obtain rfl : k = n := by omega
      have hall : fds.map Fd.pf = fss.flatten := by rw [HF.out, List.take_of_length_le (by have := HL0.out; have := HN.out; omega)]
      obtain ⟨A', c1, hv, h1, h2⟩ := FHolds.of_own HO.out fun f hf => (HK.out f hf).ok
      subst hv
      have hrm : room fds ≤ 1000000000 := by rw [room_pf fds h2.lens, hall]; exact HR.out
      have hct : fds.length ≤ 1000000000 := by
        have h3 := proom_count (fds.map Fd.pf)
        have h5 : fds.length = (fds.map Fd.pf).length := by simp
        rw [hall] at h3 h5
        have := HR.out
        omega
      have hrec : recOf fds = prec fss.flatten := by rw [recOf_pf fds h2.lens, hall]
      have C := hide (write_new A' fds.length c1 fds wr h2 (by omega) (by omega))
      rw [hrec] at C
      clear hall h1 h2 hrm hct hrec
      go_wp2_with (fail)
      refine C.out.mono ?_
      rintro e w1 ⟨A2, n2, c2, rfl, h1, h2, h3, h4⟩
      have H1 := hide (own_base h1 (Below.size HL.out))
      have H2 := hide h2
      have H4 := hide (HL.out.trans h4)
      clear h1 h2 h4 C
      go_wp2
      go_ret
      exact ⟨A2, n2, c2, rfl, H1.out, H2.out, h3, H4.out⟩
end Go.Proofs.YtdkiopajilakcaaGreatDoor
/- The walk over note.read: what a record has, put where its parts say. -/
namespace Go.Proofs.YtdkiopajilakcaaGreatDoor
open Go.RowKit

theorem rd1_before {S : Type} {s : S} {f : PF} : ∀ (l : Parts S), (∀ q ∈ l, q.1 ≠ f.1) → rd1 l s f = s
  | [], _ => rfl
  | q :: r, h => by
    have ih := rd1_before (s := s) r fun x hx => h x (by simp [hx])
    unfold rd1 at ih ⊢
    rw [List.foldl_cons, if_neg (h q (by simp)), ih]
theorem rd1_snoc {S : Type} (l : Parts S) (q : Int × (S → PF → S)) (s : S) (f : PF) : rd1 (l ++ [q]) s f = if q.1 = f.1 then q.2 (rd1 l s f) f else rd1 l s f := by
  unfold rd1
  rw [List.foldl_append, List.foldl_cons, List.foldl_nil]
theorem nodup_take {S : Type} {acts : Parts S} (hd : (acts.map (·.1)).Nodup) {j : Nat} {q : Int × (S → PF → S)} (hq : acts[j]? = some q) : ∀ x ∈ acts.take j, x.1 ≠ q.1 := by
  intro x hx e
  obtain ⟨i, hi, rfl⟩ := List.getElem_of_mem hx
  have hij : i < j := by rw [List.length_take] at hi; omega
  have hj : j < acts.length := (List.getElem?_eq_some_iff.1 hq).1
  have h1 := List.pairwise_iff_getElem.1 hd i j (by simp; omega) (by simp; omega) hij
  apply h1
  simp only [List.getElem_map]
  rw [List.getElem_take] at e
  rw [e]
  have := (List.getElem?_eq_some_iff.1 hq).2
  rw [this]
theorem rd1_grow {S : Type} {acts : Parts S} {sz : S → Nat} (hd : (acts.map (·.1)).Nodup) (hg : ∀ q ∈ acts, ∀ s p, sz (q.2 s p) ≤ sz s + 1 + p.2.2.2.length) (s : S) (f : PF) :
    ∀ j, sz (rd1 (acts.take j) s f) ≤ sz s + 1 + f.2.2.2.length ∧ ((∀ x ∈ acts.take j, x.1 ≠ f.1) → rd1 (acts.take j) s f = s)
  | 0 => ⟨by simp [rd1]; omega, fun _ => by simp [rd1]⟩
  | j + 1 => by
    obtain ⟨h1, h2⟩ := rd1_grow hd hg s f j
    rcases hq : acts[j]? with _ | q
    · rw [List.take_add_one, hq]
      simpa using ⟨h1, fun h => rd1_before _ (by simpa using h)⟩
    · rw [List.take_add_one, hq]
      simp only [Option.toList_some, rd1_snoc]
      have hn := nodup_take hd hq
      refine ⟨?_, fun h => ?_⟩
      · split
        · rename_i e
          rw [h2 (by rw [← e]; exact hn)]
          exact hg q (List.mem_of_getElem? hq) s f
        · exact h1
      · have hx := h q (by simp)
        rw [if_neg hx]
        exact h2 fun x hx' => h x (by simp [hx'])
def fsum (l : List PF) : Nat := (l.map fun p => 1 + p.2.2.2.length).sum
theorem rdL_grow {S : Type} {acts : Parts S} {sz : S → Nat} (hd : (acts.map (·.1)).Nodup) (hg : ∀ q ∈ acts, ∀ s p, sz (q.2 s p) ≤ sz s + 1 + p.2.2.2.length) : ∀ (l : List PF) (s : S), sz (rdL acts s l) ≤ sz s + fsum l
  | [], s => by simp [rdL]
  | f :: r, s => by
    have h1 := (rd1_grow hd hg s f acts.length).1
    rw [List.take_of_length_le (Nat.le_refl _)] at h1
    have h2 := rdL_grow hd hg r (rd1 acts s f)
    unfold rdL at h2 ⊢
    rw [List.foldl_cons]
    simp only [fsum, List.map_cons, List.sum_cons] at *
    omega
theorem num_min : ∀ (l : List Nat) (i a : Nat), (num l i a).2.2 = 0 → i + 1 ≤ (num l i a).2.1
  | [], i, a, h => by simp [num] at h
  | c :: r, i, a, h => by
    unfold num at h ⊢
    split at h
    · simp at h
    · rename_i h1
      rw [if_neg h1]
      split at h
      · rename_i h2
        rw [if_pos h2]
        exact Nat.le_refl _
      · rename_i h2
        rw [if_neg h2]
        have := num_min r (i + 1) _ h
        omega
theorem pfirst_len (l : List Nat) (h : (pfirst l).1 = 0) : 1 + (pfirst l).2.1.2.2.2.length ≤ (pfirst l).2.2 ∧ (pfirst l).2.2 ≤ l.length := by
  unfold pfirst at h ⊢
  split at h
  · rename_i h0; exact absurd h h0
  · rename_i h0
    split at h
    · simp at h
    · rename_i h1
      split at h
      · rename_i h2; exact absurd h h2
      · rename_i h2
        rw [if_neg h0, if_neg h1, if_neg h2]
        have m1 := num_min l 0 0 (by simpa using h0)
        have m2 := num_min (l.drop (num l 0 0).2.1) 0 0 (by simpa using h2)
        have b1 := (num_bound l 0 0).1
        have b2 := (num_bound (l.drop (num l 0 0).2.1) 0 0).1
        rw [List.length_drop] at b2
        split at h
        · rename_i h3
          rw [if_pos h3]
          simp only [List.length_nil]
          omega
        · rename_i h3
          split at h
          · simp at h
          · rename_i h4
            rw [if_neg h3, if_neg h4]
            simp only [List.length_take, List.length_drop]
            omega
theorem fsum_preadF : ∀ (k : Nat) (l : List Nat), fsum (preadF k l).2 ≤ l.length
  | 0, l => by unfold preadF; split <;> simp [fsum]
  | k + 1, l => by
    unfold preadF
    split
    · simp [fsum]
    · split
      · simp [fsum]
      · rename_i h1
        split
        · simp [fsum]
        · have h2 := pfirst_len l (by simpa using h1)
          have h3 := fsum_preadF k (l.drop (pfirst l).2.2)
          rw [List.length_drop] at h3
          simp only [fsum, List.map_cons, List.sum_cons] at *
          omega
theorem fsum_pread (l : List Nat) : fsum (pread l).2 ≤ l.length := fsum_preadF _ _
theorem fsum_take (l : List PF) {k : Nat} {f : PF} (h : l[k]? = some f) : fsum (l.take k) + (1 + f.2.2.2.length) ≤ fsum l := by
  have e : l = l.take k ++ l.drop k := (List.take_append_drop k l).symm
  have e2 : l.drop k = f :: l.drop (k + 1) := by
    have hk : k < l.length := (List.getElem?_eq_some_iff.1 h).1
    rw [List.drop_eq_getElem_cons hk, (List.getElem?_eq_some_iff.1 h).2]
  have : fsum l = fsum (l.take k) + fsum (l.drop k) := by
    have hap : ∀ a b : List PF, fsum (a ++ b) = fsum a + fsum b := fun a b => by simp [fsum]
    rw [← hap, List.take_append_drop]
  rw [this, e2]
  simp [fsum]
theorem rdL_snoc {S : Type} (ps : Parts S) (s : S) (l : List PF) {k : Nat} {f : PF} (h : l[k]? = some f) : rdL ps s (l.take (k + 1)) = rd1 ps (rdL ps s (l.take k)) f := by
  rw [List.take_add_one, h]
  simp only [Option.toList_some, rdL_append]
  rfl

def Fresh (P : Nat → Prop) (w w1 : World) (k : Nat) : Prop := (P k ∧ k < w.heap.size) ∨ w1.heap.size ≤ k

set_option maxHeartbeats 4000000 in
set_option maxRecDepth 100000 in
theorem nread_any {S : Type} {Inv : (Nat → Prop) → S → World → Prop} {sz : S → Nat} {a b : Nat} {w0 w : World} {P : Nat → Prop} {s : S} {A : Option Addr} {n c : Nat} {l : List Nat} {B : Option Addr} {m d : Nat} {ps : List PartV} {acts : Parts S}
    (hI : InvOK Inv) (hp : NtPartsAt a b w (.slice B m d) ps) (hm : m = ps.length) (hs : Stay a b w0 w) (hr : RdAll a b w0 Inv sz ps acts) (hd : (acts.map (·.1)).Nodup)
    (hg : ∀ q ∈ acts, ∀ s p, sz (q.2 s p) ≤ sz s + 1 + p.2.2.2.length) (hP1 : ∀ k, a ≤ k → k < b → ¬ P k) (hP2 : ∀ k, w.heap.size ≤ k → P k) (hinv : Inv P s w)
    (hl : Holds w w.heap.size A n l) (hn : n ≤ 1000000) (hc : n ≤ c) (hsz : sz s + n ≤ 1000000) :
    Calls Tryz.prog 82 #[.slice A n c, .slice B m d] w fun e w' => e = .returned (.int .i64 ((pread l).1 : Nat)) ∧ Inv P (rdB acts s l) w' ∧ Turned P w w' := by
  have hfs := hide (fsum_pread l)
  have hll := hide hl.1
  have HI := hide hI
  have HP := hide hp
  have HS := hide hs
  have HR := hide hr
  have HLn := hide (all2_len hr)
  have HD := hide hd
  have HG := hide hg
  have HP1 := hide hP1
  have HP2 := hide hP2
  have HV := hide hinv
  have HM := hide hm
  have C := hide (read_any A n c l w hl (by omega) hc)
  have HSZ := hide hsz
  have hmb : m ≤ 9223372036854775807 := by
    obtain ⟨_, _, hv, h1, h2, _⟩ := FlatAt.shape hp
    injection hv with _ e2 e3
    unfold maxLen at h2
    omega
  clear hp hs hr hd hg hP1 hP2 hinv hl hm hI hsz
  go_enter Tryz.func82, Tryz.ntmps82
  go_wp2_with (fail)
  refine C.out.mono ?_
  rintro e w1 ⟨A1, n1, c1, fs, rfl, hpf, hfh, hnc, hb, hown, hfo⟩
  have HPF := hide hpf
  have hn1 : n1 ≤ 1000000 := by
    have h1 := hfs.out
    have h2 : (pread l).2.length ≤ fsum (pread l).2 := by
      generalize (pread l).2 = L
      induction L with
      | nil => simp
      | cons x r ih => simp only [fsum, List.map_cons, List.sum_cons, List.length_cons] at *; omega
    have h3 : fs.length = (pread l).2.length := by rw [← hpf, List.length_map]
    have h4 := hfh.1
    have h5 := hll.out
    omega
  have HB := hide hb
  have HFL := hide hfh.1
  have HOW := hide hown
  have HFO := hide hfo
  have hsw := hb.size
  have HSW := hide hsw
  have HV1 : Hid (Inv (Fresh P w w1) s w1) :=
    HI.out.mono _ _ s w1 (fun k _ h => Or.inl h) (HI.out.keep (fun k => P k ∧ k < w.heap.size) s w w1 (Kept.of_below hb _) (HI.out.mono P _ s w (fun k hk h => ⟨h, hk⟩) HV.out))
  have HF1 : Hid (∀ k, w.heap.size ≤ k → k < w1.heap.size → ¬ Fresh P w w1 k) := fun k h1 h2 h => by rcases h with ⟨_, h⟩ | h <;> omega
  have HF2 : Hid (∀ k, a ≤ k → k < b → ¬ Fresh P w w1 k) := fun k h1 h2 h => by
    rcases h with ⟨h, _⟩ | h
    · exact HP1.out k h1 h2 h
    · have := HS.out.1
      omega
  have HF3 : Hid (∀ k, w1.heap.size ≤ k → Fresh P w w1 k) := fun k h => Or.inr h
  have HS1 := hide (HS.out.later (show Later w w1 from hb))
  have HPA := hide (HP.out.stay ((Stay.refl HS.out.1).later (show Later w w1 from hb)) hsw)
  clear hb hown hfo hsw C hpf hfh
  go_wp2
  go_loopw [18] (fun i wr => ∃ k : Nat, k ≤ n1 ∧ i = .int .i64 (k : Int) ∧ Inv (Fresh P w w1) (rdL acts s ((pread l).2.take k)) wr ∧ Turned (Fresh P w w1) w1 wr) (fun i _ => n1 - (Go.RowKit.intOf i).toNat)
  case atStart => exact ⟨0, by omega, rfl, by simpa [rdL] using HV1.out, Turned.refl _ _⟩
  case round =>
    obtain ⟨k, hk, rfl, hv, ht⟩ := hrel
    have HVR := hide hv
    have HT := hide ht
    have hsr := ht.size
    clear hv ht
    by_cases hlt : k < n1
    · have ho2 := own_same_low HOW.out fun g h1 h2 => HT.out.block g h2 (HF1.out g h1 h2)
      have hf2 : ∀ f ∈ fs, FdOwn wr w.heap.size f := fun f hf => (HFO.out f hf).low fun g h1 h2 => HT.out.block g h2 (HF1.out g h1 h2)
      obtain ⟨A', c', hv', _, hfh⟩ := FHolds.of_own ho2 fun f hf => (hf2 f hf).ok
      obtain ⟨rfl, rfl⟩ : A1 = A' ∧ c1 = c' := by injection hv' with e1 _ e3; exact ⟨e1, e3⟩
      obtain ⟨f, b', off, hfk, hok, rfl, hbB, q0, q1, q2, q3, htk⟩ := hfh.at_ hlt
      obtain ⟨num, text, v, fa, fn, fc, fb⟩ := f
      simp only at q0 q1 q2 q3
      have HOK := hide hok
      have HFK := hide (HFO.out _ (List.mem_of_getElem? hfk))
      have hpk : (pread l).2[k]? = some (Fd.pf ⟨num, text, v, fa, fn, fc, fb⟩) := by rw [← HPF.out, List.getElem?_map, hfk]; rfl
      have HPK := hide hpk
      clear ho2 hf2 hv' hfh hfk hok htk hpk
      go_wp2
      have hW : Hid (Later wr (wr.alloc (.cells #[.int .i64 num, .bool text, .int .u64 v, .slice fa fn fc] 51 (0, 0)))) := Later.alloc _ _
      have hX : Hid ((wr.alloc (.cells #[.int .i64 num, .bool text, .int .u64 v, .slice fa fn fc] 51 (0, 0))).heap[wr.heap.size]? = some (.cells #[.int .i64 num, .bool text, .int .u64 v, .slice fa fn fc] 51 (0, 0))) := heap_alloc_new _ _
      have hZ : Hid ((wr.alloc (.cells #[.int .i64 num, .bool text, .int .u64 v, .slice fa fn fc] 51 (0, 0))).heap.size = wr.heap.size + 1) := World.size_alloc _ _
      generalize wr.alloc (.cells #[.int .i64 num, .bool text, .int .u64 v, .slice fa fn fc] 51 (0, 0)) = W8 at hW hX hZ ⊢
      obtain ⟨sk, hsk⟩ : ∃ q, q = rdL acts s ((pread l).2.take k) := ⟨_, rfl⟩
      rw [← hsk] at HVR
      have HSK := hide hsk
      have hszk : sz sk + 1 + fn ≤ 1000000 := by
        have h1 := rdL_grow HD.out HG.out ((pread l).2.take k) s
        rw [← hsk] at h1
        have h2 := fsum_take (pread l).2 HPK.out
        have h3 := hfs.out
        have h4 := hll.out
        have h5 := HSZ.out
        have h6 : fb.length = fn := HOK.out.2.2.2.1
        simp only [Fd.pf] at h2
        omega
      have HSZK := hide hszk
      have HV3 : Hid (Inv (fun q => Fresh P w w1 q ∧ q ≠ wr.heap.size) sk W8) :=
        HI.out.mono _ _ sk W8 (fun q _ h => h) (HI.out.keep _ sk wr W8 (Kept.of_below hW.out _) (HI.out.mono _ _ sk wr (fun q hq h => ⟨h, by omega⟩) HVR.out))
      have HT8 : Hid (Turned (Fresh P w w1) w1 W8) := HT.out.trans (Turned.of_below hW.out _)
      have hgr : w1.heap.size ≤ wr.heap.size := hsr
      have hHV3 : Inv (fun q => Fresh P w w1 q ∧ q ≠ wr.heap.size) sk W8 := HV3.out
      clear hsk hszk HV3 HVR HT hW hsr
      have hX' := hX.out
      have hZ' := hZ.out
      clear hX hZ
      generalize wr.heap.size = g8 at hgr hHV3 hX' hZ' ⊢
      have HGR := hide hgr
      have HV3 := hide hHV3
      have hX := hide hX'
      have hZ := hide hZ'
      clear hgr hHV3 hX' hZ' HOK
      go_loopw [24] (fun j wx => ∃ q : Nat, q ≤ m ∧ j = .int .i64 (q : Int) ∧ Inv (fun q => Fresh P w w1 q ∧ q ≠ g8) (rd1 (acts.take q) sk (Fd.pf ⟨num, text, v, fa, fn, fc, fb⟩)) wx ∧ Turned (fun q => Fresh P w w1 q ∧ q ≠ g8) W8 wx) (fun j _ => m - (Go.RowKit.intOf j).toNat)
      case atStart => exact ⟨0, by omega, rfl, by simpa [rd1] using HV3.out, Turned.refl _ _⟩
      case round =>
        obtain ⟨q, hq, rfl, hv, ht⟩ := hrel
        rename_i wx
        have HVX := hide hv
        have HTX := hide ht
        clear hv ht
        by_cases hqm : q < m
        · have hx8 : wr.heap[g8]? = some (.cells #[.int .i64 num, .bool text, .int .u64 v, .slice fa fn fc] 51 (0, 0)) := (HTX.out.block _ (by rw [hZ.out]; omega) (fun h => h.2 rfl)).trans hX.out
          have hg8 : g8 < wr.heap.size := lt_of_block hx8
          have d0 := cell_of_row wr g8 0 _ _ _ hx8
          have d1 := cell_of_row wr g8 1 _ _ _ hx8
          have d2 := cell_of_row wr g8 2 _ _ _ hx8
          have d3 := cell_of_row wr g8 3 _ _ _ hx8
          simp only [List.getElem?_toArray, List.getElem?_cons_succ, List.getElem?_cons_zero] at d0 d1 d2 d3
          obtain ⟨p, g, po, c', hpq, hv, _, hgw, e0, e1, e2⟩ := (HPA.out.stay (((Stay.refl HS1.out.1).turned HT8.out HF2.out).turned (HTX.out.mono fun _ h => h.1) HF2.out) (Nat.le_trans HT8.out.size HTX.out.size)).at_ (i := q) (by rw [← HM.out]; exact hqm)
          obtain ⟨rfl, rfl⟩ : B = some ⟨g, po, none⟩ ∧ d = c' := by injection hv with e1 _ e3; exact ⟨e1, e3⟩
          obtain ⟨⟨qn, act⟩, hqa, hnum, hent, hrd⟩ := all2_at HR.out hpq
          obtain ⟨pnum', wf, wc, rf, rc⟩ := p
          simp only at e0 e1 e2 hnum hent hrd
          subst hnum
          have HQA := hide hqa
          have eg := hent
          unfold NtEnters at eg
          by_cases hmt : pnum' = num
          · subst hmt
            have hone : rd1 (acts.take q) sk (Fd.pf ⟨pnum', text, v, fa, fn, fc, fb⟩) = sk := rd1_before _ (nodup_take HD.out hqa)
            rw [hone] at HVX
            have hnext : rd1 (acts.take (q + 1)) sk (Fd.pf ⟨pnum', text, v, fa, fn, fc, fb⟩) = act sk (Fd.pf ⟨pnum', text, v, fa, fn, fc, fb⟩) := by
              rw [List.take_add_one, hqa]
              simp only [Option.toList_some, rd1_snoc]
              exact (if_pos rfl).trans (by rw [hone])
            have HNX := hide hnext
            have C := hide (fun (wx : World) (hl : Later wr wx) => hrd (fun k => Fresh P w w1 k ∧ k ≠ g8) sk wx ⟨pnum', text, v, fa, fn, fc, fb⟩
              ((((HS1.out.turned HT8.out HF2.out).turned (HTX.out.mono fun _ h => h.1) HF2.out)).later hl) (fun k h1 h2 h => HF2.out k h1 h2 h.1)
              (fun k h => by
                have h1 := HTX.out.size
                have h2 := hZ.out
                have h3 := HGR.out
                have h4 := Below.size hl
                exact ⟨HF3.out k (by omega), by omega⟩) (HI.out.keep _ sk wr wx (Kept.of_below hl _) HVX.out)
              (((HFK.out.low fun g h1 h2 => (HT8.out.trans (HTX.out.mono fun _ h => h.1)).block g h2 (HF1.out g h1 h2)).below hl).ok) HSZK.out)
            simp only [Fd.val, Fd.cells] at C
            clear hv hpq hqa hent hrd hone hnext hx8
            go_wp2_with (fail)
            refine (C.out _ (Later.alloc _ _)).mono ?_
            rintro e w2 ⟨rfl, hv2, ht2⟩
            have HV2 := hide hv2
            have HT2 := hide ht2
            clear hv2 ht2 C eg d0 d1 d2 d3
            go_wp2
            go_roundw
            case rel => exact ⟨q + 1, by omega, by go_num, by rw [HNX.out]; exact HV2.out, (HTX.out.trans (Turned.of_below (Later.alloc _ _) _)).trans HT2.out⟩
            case measure => simp [Go.RowKit.intOf]; omega
          · have hnext : rd1 (acts.take (q + 1)) sk (Fd.pf ⟨num, text, v, fa, fn, fc, fb⟩) = rd1 (acts.take q) sk (Fd.pf ⟨num, text, v, fa, fn, fc, fb⟩) := by
              rw [List.take_add_one, hqa]
              simp only [Option.toList_some, rd1_snoc]
              exact if_neg hmt
            have HNX := hide hnext
            clear hv hpq hqa hent hrd hnext hx8 eg
            go_wp2
            go_roundw
            case rel => exact ⟨q + 1, by omega, by go_num, by rw [HNX.out]; exact HI.out.keep _ _ wr _ (Kept.of_below (Later.alloc _ _) _) HVX.out, HTX.out.trans (Turned.of_below (Later.alloc _ _) _)⟩
            case measure => simp [Go.RowKit.intOf]; omega
        · have hall : rd1 acts sk (Fd.pf ⟨num, text, v, fa, fn, fc, fb⟩) = rd1 (acts.take q) sk (Fd.pf ⟨num, text, v, fa, fn, fc, fb⟩) := by
            rw [List.take_of_length_le (by have := HLn.out; have := HM.out; omega)]
          have HALL := hide hall
          clear hall
          go_wp2
          go_roundw
          case rel =>
            refine ⟨k + 1, by omega, by go_num, ?_, HT8.out.trans (HTX.out.mono fun _ h => h.1)⟩
            rw [rdL_snoc acts s _ HPK.out, ← HSK.out, HALL.out]
            exact HI.out.mono _ _ _ _ (fun _ _ h => h.1) HVX.out
          case measure => simp [Go.RowKit.intOf]; omega
    · have hall : (pread l).2.take k = (pread l).2 := List.take_of_length_le (by
        have h3 : fs.length = (pread l).2.length := by rw [← HPF.out, List.length_map]
        have h4 : fs.length = n1 := by have := HFL.out; omega
        omega)
      rw [hall] at HVR
      clear hall
      go_wp2
      go_ret
      refine ⟨rfl, HI.out.mono _ _ _ _ (fun q _ h => ?_) HVR.out, ?_⟩
      · rcases h with h | h
        · exact h.1
        · exact HP2.out q (by have := HSW.out; omega)
      · refine (Turned.of_below HB.out P).trans (HT.out.mono fun q h => ?_)
        rcases h with h | h
        · exact h.1
        · exact HP2.out q (by have := HSW.out; omega)
end Go.Proofs.YtdkiopajilakcaaGreatDoor
/- The parts of records: how they are written, how they are read. -/
namespace Go.Proofs.YtdkiopajilakcaaGreatDoor
open Go.RowKit

end Go.Proofs.YtdkiopajilakcaaGreatDoor
/- A slice of one struct, made by a literal. -/
namespace Go.Proofs.YtdkiopajilakcaaGreatDoor
open Go.RowKit

theorem fold_put : ∀ (vs : List Value) (n : Nat) (Z : Array Value), (vs.zipIdx n).foldl (fun cs (x : Value × Nat) => cs.setIfInBounds x.2 x.1) Z = putAt Z n vs
  | [], _, _ => rfl
  | v :: r, n, Z => by rw [List.zipIdx_cons, List.foldl_cons, fold_put r (n + 1), putAt]
theorem put_whole (cells Z : Array Value) (h : Z.size = cells.size) : putAt Z 0 cells.toList = cells := by
  apply Array.ext'
  rw [putAt_toList _ _ _ (by simp; omega)]
  simp [h]

section
variable {P : Program} {w : World}
theorem run_buildSlice_one (t e : TypeId) (i : TypeInfo) (z : Value) (k : Nat) (ht : P.underlying t = some (.slice e)) (hi : P.info? e = some i) (hz : i.zero = some z) (hs : i.size = k) (hk : 0 < k) (hk2 : k ≤ 16777216)
    (cells : Array Value) (hc : cells.size = k) :
    (Instr.buildSlice t 1 #[(0, .agg cells)]).run P w = .ok (.slice (some ⟨w.heap.size, 0, none⟩) 1 1) (w.alloc (.cells cells e (0, 0))) := by
  subst hs
  have hne : ¬ (i.size = 0) := by omega
  have hbig : ¬ (16777216 < i.size) := by omega
  have hfold : ∀ Z : Array Value, Z.size = i.size → Array.foldl (fun cs (x : Value × Nat) => cs.setIfInBounds x.2 x.1) Z cells.zipIdx 0 i.size = cells := fun Z hZ => by
    have h1 := fold_put cells.toList 0 Z
    rw [put_whole cells Z (by omega)] at h1
    rw [show i.size = cells.zipIdx.size from by simp [hc], ← Array.foldl_toList]
    simpa using h1
  simp [Instr.buildSlice, run_underlying ht, sizeOf, typeInfo, hi, hne, hbig, zeroValue, hz, Instr.fill, Value.cells, hc, newRow]
  rw [hfold _ (by simp)]

end
end Go.Proofs.YtdkiopajilakcaaGreatDoor
/- A slice of two structs, made by a literal. -/
namespace Go.Proofs.YtdkiopajilakcaaGreatDoor
open Go.RowKit
theorem fold_put_at (m : Nat) : ∀ (vs : List Value) (n : Nat) (Z : Array Value), (vs.zipIdx n).foldl (fun cs (x : Value × Nat) => cs.setIfInBounds (m + x.2) x.1) Z = putAt Z (m + n) vs
  | [], _, _ => rfl
  | v :: r, n, Z => by rw [List.zipIdx_cons, List.foldl_cons, fold_put_at m r (n + 1), putAt]; rfl

section
variable {P : Program} {w : World}
end
end Go.Proofs.YtdkiopajilakcaaGreatDoor
/- A slice of some structs, made by a literal. -/
namespace Go.Proofs.YtdkiopajilakcaaGreatDoor
open Go.RowKit

theorem putAt_append : ∀ (a b : List Value) (o : Nat) (Z : Array Value), putAt Z o (a ++ b) = putAt (putAt Z o a) (o + a.length) b
  | [], b, o, Z => by simp [putAt]
  | v :: r, b, o, Z => by
    rw [List.cons_append, putAt, putAt_append r b (o + 1), putAt]
    congr 1
    simp; omega
def flatC (vs : List (Array Value)) : List Value := vs.flatMap (·.toList)
theorem flatC_len {k : Nat} : ∀ (vs : List (Array Value)), (∀ v ∈ vs, v.size = k) → (flatC vs).length = vs.length * k
  | [], _ => by simp [flatC]
  | v :: r, h => by
    have h1 := h v (by simp)
    have h2 := flatC_len r fun x hx => h x (by simp [hx])
    simp only [flatC, List.flatMap_cons, List.length_append, List.length_cons, Array.length_toList] at *
    rw [h1, h2, Nat.add_mul]
    omega
theorem fill_many (k : Nat) : ∀ (vs : List (Array Value)) (n : Nat) (Z : Array Value), (∀ v ∈ vs, v.size = k) → Z.size = (n + vs.length) * k →
    Instr.fill (fun i => some (i * k, k)) Z ((vs.zipIdx n).map fun p => (p.2, Value.agg p.1)) = some (putAt Z (n * k) (flatC vs))
  | [], _, _, _, _ => by simp [Instr.fill, flatC, putAt]
  | v :: r, n, Z, h, hZ => by
    have hv := h v (by simp)
    rw [List.zipIdx_cons, List.map_cons, Instr.fill]
    have hc : (Value.agg v).cells = v := rfl
    simp only [hc, hv]
    have hle : n * k + k ≤ Z.size := by
      rw [hZ, List.length_cons, Nat.add_mul]
      have : 1 * k ≤ (r.length + 1) * k := Nat.mul_le_mul_right _ (by omega)
      omega
    rw [if_neg (by simp; omega)]
    have hf : Array.foldl (fun (cs : Array Value) (x : Value × Nat) => cs.setIfInBounds (n * k + x.2) x.1) Z v.zipIdx = putAt Z (n * k) v.toList := by
      rw [← Array.foldl_toList]
      have := fold_put_at (n * k) v.toList 0 Z
      simpa using this
    have ih := fill_many k r (n + 1) (putAt Z (n * k) v.toList) (fun x hx => h x (by simp [hx])) (by rw [putAt_size, hZ, List.length_cons]; congr 1; omega)
    rw [hf, ih]
    have e : (n + 1) * k = n * k + v.toList.length := by rw [Nat.add_mul, Array.length_toList, hv]; omega
    rw [e, ← putAt_append]
    rfl

section
variable {P : Program} {w : World}
theorem run_buildSlice_many (t e : TypeId) (i : TypeInfo) (z : Value) (k n : Nat) (ht : P.underlying t = some (.slice e)) (hi : P.info? e = some i) (hz : i.zero = some z) (hs : i.size = k) (hk : 0 < k) (hn : 0 < n) (hk2 : n * k ≤ 16777216)
    (parts : Array (Nat × Value)) (vs : List (Array Value)) (hp : parts.toList = (vs.zipIdx 0).map fun p => (p.2, Value.agg p.1)) (hl : vs.length = n) (hc : ∀ v ∈ vs, v.size = k) :
    (Instr.buildSlice t n parts).run P w = .ok (.slice (some ⟨w.heap.size, 0, none⟩) n n) (w.alloc (.cells (flatC vs).toArray e (0, 0))) := by
  subst hs
  have hbig : ¬ (16777216 < n * i.size) := by omega
  have h0 : ¬ (n * i.size = 0) := by
    intro h
    rcases Nat.mul_eq_zero.1 h with h | h <;> omega
  have hw : ∀ Z : Array Value, Z.size = n * i.size → Instr.fill (fun j => some (j * i.size, i.size)) Z parts.toList = some (flatC vs).toArray := fun Z hZ => by
    rw [hp, fill_many i.size vs 0 Z hc (by rw [hZ, hl]; simp), Nat.zero_mul]
    have := put_whole (flatC vs).toArray Z (by rw [hZ]; simp [flatC_len vs hc, hl])
    rw [show (flatC vs).toArray.toList = flatC vs from rfl] at this
    rw [this]
  simp only [Instr.buildSlice, Sem.run_bind, run_underlying ht, Sem.run_pure, Result.andThen_ok, sizeOf, typeInfo]
  simp [hbig, h0, hz, zeroValue, typeInfo, hi, newRow]
  rw [hw _ (by simp)]
  simp

theorem wp_buildSlice_many {op : Oper} {a : Act} {K : Act → World → Prop} {Q : Exit → Act → World → Prop} (t e : TypeId) (xs : Array (Nat × Operand)) (n : Nat) (ho : op.op = .buildSlice t n xs) (i : TypeInfo) (z : Value) (k : Nat) (ht : P.underlying t = some (.slice e)) (hi : P.info? e = some i) (hz : i.zero = some z) (hs : i.size = k) (hk : 0 < k) (hn : 0 < n) (hk2 : n * k ≤ 16777216)
    (vs : List (Array Value)) (hp : (xs.toList.map fun q => (q.1, a.eval q.2)) = (vs.zipIdx 0).map fun p => (p.2, Value.agg p.1)) (hl : vs.length = n) (hc : ∀ v ∈ vs, v.size = k)
    (h : K (a.put op.dst (.slice (some ⟨w.heap.size, 0, none⟩) n n)) (w.alloc (.cells (flatC vs).toArray e (0, 0)))) : op.wp P a w K Q := by
  have hr := run_buildSlice_many (P := P) (w := w) t e i z k n ht hi hz hs hk hn hk2 (xs.map fun q => (q.1, a.eval q.2)) vs (by rw [Array.toList_map]; exact hp) hl hc
  unfold Oper.wp
  simp only [execOp, ho, Sem.run_bind, hr, Result.andThen_ok, Sem.run_pure]
  exact h
end
end Go.Proofs.YtdkiopajilakcaaGreatDoor
/- Where an object's parts lie: a step, a definition, an operation, a message inside an object; the parts of a list. -/
namespace Go.Proofs.YtdkiopajilakcaaGreatDoor
open Go.RowKit

def Lens.comp {S X Y : Type} (L : Lens S X) (M : Lens X Y) : Lens S Y :=
  ⟨fun s => M.get (L.get s), fun s y => L.set s (M.set (L.get s) y), fun s y => by rw [L.get_set, M.get_set], fun s x y => by rw [L.get_set, M.set_set, L.set_set], fun s => by rw [M.set_get, L.set_get]⟩

def RowPl {S α : Type} (Inv : (Nat → Prop) → S → World → Prop) (sz : S → Nat) (e k : Nat) (E : Nat → World → α → List Value → Prop) (g o : Nat) (push : S → α → S) : Prop :=
  ∀ P s w, Inv P s w → (∀ k, w.heap.size ≤ k → P k) → P g ∧ g < w.heap.size ∧ ∃ v n xs, w.cell? ⟨g, o, none⟩ = some v ∧ w.frozen? ⟨g, o, none⟩ = false ∧ w.ownsRow 0 e k v n xs ∧ n ≤ sz s ∧ (∀ q, v.ownBlock = some q → P q ∧ q ≠ g) ∧
    ∀ w2 w3 v' y cells, Later w w2 → w2.grownBy w3 v.ownBlock → w3.ownsRow 0 e k v' (n + 1) (xs ++ cells) → (v'.ownBlock = v.ownBlock ∨ v'.ownBlock = some w2.heap.size) → E w.heap.size w3 y cells → Inv P (push s y) (w3.setCell ⟨g, o, none⟩ v')

theorem own_blk {w w' : World} {base e k n : Nat} {v : Value} {xs : List Value} (h : w.ownsRow base e k v n xs) (hk : ∀ q, v.ownBlock = some q → w'.heap[q]? = w.heap[q]?) : w'.ownsRow base e k v n xs := by
  refine ⟨h.1, ?_⟩
  rcases h.2 with hn | ⟨g, cap, cur, rfl, hb, hg, rest⟩
  · exact .inl hn
  · exact .inr ⟨g, cap, cur, rfl, hb, (hk g (by simp [Value.ownBlock])).trans hg, rest⟩
theorem own_lt {w : World} {base e k n q : Nat} {v : Value} {xs : List Value} (h : w.ownsRow base e k v n xs) (hq : v.ownBlock = some q) : q < w.heap.size ∧ ∃ cs, w.heap[q]? = some (.cells cs e (0, 0)) := by
  rcases h.2 with ⟨rfl, _⟩ | ⟨g, cap, cur, rfl, hb, hg, rest⟩
  · simp [Value.ownBlock] at hq
  · obtain rfl : g = q := by simpa [Value.ownBlock] using hq
    exact ⟨lt_of_block hg, cur, hg⟩
theorem own_not {w : World} {base e k n g t : Nat} {v : Value} {xs : List Value} {cs : Array Value} {fr : Nat × Nat} (h : w.ownsRow base e k v n xs) (hg : w.heap[g]? = some (.cells cs t fr)) (hne : e ≠ t) : v.ownBlock ≠ some g := fun hq => by
  obtain ⟨_, cs2, h2⟩ := own_lt h hq
  rw [hg] at h2
  injection h2 with h2
  injection h2 with _ h3
  exact hne h3.symm
theorem own_shape {w : World} {base e k n : Nat} {v : Value} {xs : List Value} (h : w.ownsRow base e k v n xs) : ∃ A c, v = .slice A n c := by
  rcases h.2 with ⟨rfl, rfl⟩ | ⟨g, cap, cur, rfl, _⟩
  · exact ⟨none, 0, rfl⟩
  · exact ⟨_, cap, rfl⟩
theorem own_flat {w : World} {base e k n : Nat} {v : Value} {xs : List Value} {F : Nat → Prop} (h : w.ownsRow base e k v n xs) (h1 : ∀ u ∈ xs, u.oneCell' = true) (hF : ∀ q, v.ownBlock = some q → F q) : FlatAt F w k v n xs := by
  refine ⟨h.1, h1, ?_⟩
  rcases h.2 with ⟨rfl, rfl⟩ | ⟨g, cap, cur, rfl, hb, hg, hnc, hm, _, _⟩
  · exact ⟨none, 0, rfl, Nat.le_refl _, by unfold maxLen; omega, fun _ => rfl, fun h => by omega⟩
  · refine ⟨some ⟨g, 0, none⟩, cap, rfl, hnc, hm, (fun h => by cases h), fun _ => ⟨g, 0, rfl, hF g (by simp [Value.ownBlock]), lt_of_block hg, fun j u hj => ?_⟩⟩
    have := h.cells (g := g) rfl j u hj
    rwa [Addr.add_lit] at this
def OwnSteps (P : Nat → Prop) (w : World) (sv : Value) (l : List StepD) : Prop :=
  w.ownsRow 0 42 6 sv l.length (l.flatMap StepD.cells) ∧ (∀ q, sv.ownBlock = some q → P q) ∧ ∀ s ∈ l, s.wf
theorem OwnSteps.mono {P Q : Nat → Prop} {w : World} {sv : Value} {l : List StepD} (h : OwnSteps P w sv l) (hq : ∀ k, k < w.heap.size → P k → Q k) : OwnSteps Q w sv l := ⟨h.1, fun q e => hq q (own_lt h.1 e).1 (h.2.1 q e), h.2.2⟩
theorem OwnSteps.blk {P : Nat → Prop} {w w' : World} {sv : Value} {l : List StepD} (h : OwnSteps P w sv l) (hk : ∀ q, sv.ownBlock = some q → w'.heap[q]? = w.heap[q]?) : OwnSteps P w' sv l := ⟨own_blk h.1 hk, h.2⟩
theorem OwnSteps.keep {P : Nat → Prop} {w w' : World} {sv : Value} {l : List StepD} (h : OwnSteps P w sv l) (hk : Kept P w w') : OwnSteps P w' sv l := h.blk fun q e => hk.2 q (own_lt h.1 e).1 (h.2.1 q e)
theorem OwnSteps.flat {P F : Nat → Prop} {w : World} {sv : Value} {l : List StepD} (h : OwnSteps P w sv l) (hF : ∀ q, P q → F q) : StepsAt F w sv l := own_flat h.1 (fun u hu => by obtain ⟨s, _, hs⟩ := List.mem_flatMap.1 hu; exact s.one u hs) fun q e => hF q (h.2.1 q e)
theorem OwnSteps.nil_ (P : Nat → Prop) (w : World) : OwnSteps P w (.slice none 0 0) [] := ⟨World.ownsRow_nil _ _ _ _, fun q e => by simp [Value.ownBlock] at e, by simp⟩
theorem OwnSteps.push {P : Nat → Prop} {w w2 w3 : World} {sv v' : Value} {l : List StepD} {y : StepD} {cells : List Value} (h : OwnSteps P w sv l) (hP2 : ∀ k, w.heap.size ≤ k → P k) (hl : Later w w2) (ho : w3.ownsRow 0 42 6 v' (l.length + 1) (l.flatMap StepD.cells ++ cells))
    (ha : v'.ownBlock = sv.ownBlock ∨ v'.ownBlock = some w2.heap.size) (he : cells = y.cells ∧ y.wf) : OwnSteps P w3 v' (l ++ [y]) := by
  refine ⟨?_, fun q e => ?_, fun s hs => ?_⟩
  · rw [List.length_append, List.flatMap_append]
    simpa [he.1] using ho
  · rcases ha with ha | ha
    · exact h.2.1 q (ha ▸ e)
    · rw [ha] at e
      obtain rfl := Option.some.inj e
      exact hP2 _ (Below.size hl)
  · rcases List.mem_append.1 hs with hs | hs
    · exact h.2.2 s hs
    · obtain rfl : s = y := by simpa using hs
      exact he.2

def StepE (_ : Nat) (_ : World) (y : StepD) (cells : List Value) : Prop := cells = y.cells ∧ y.wf
def OpE (B : Nat) (w : World) (y : OpD) (cells : List Value) : Prop := ∃ sv, cells = y.cells sv ∧ y.wf ∧ OwnSteps (B ≤ ·) w sv y.steps
def IntE (_ : Nat) (_ : World) (y : Int) (cells : List Value) : Prop := cells = [.int .i64 y] ∧ I64 y

structure StepPl {S : Type} (Inv : (Nat → Prop) → S → World → Prop) (L : Lens S StepD) (g o : Nat) : Prop where
  name : TextPl Inv g o fun s x => L.set s { L.get s with name := x }
  stub : NumPl Inv g (o + 1) fun s x => L.set s { L.get s with stub := x }
  retry : NumPl Inv g (o + 2) fun s x => L.set s { L.get s with retry := x }
  wait : NumPl Inv g (o + 3) fun s x => L.set s { L.get s with wait := x }
  undo : FlagPl Inv g (o + 4) fun s x => L.set s { L.get s with undo := x }
  pivot : FlagPl Inv g (o + 5) fun s x => L.set s { L.get s with pivot := x }
structure DefPl {S : Type} (Inv : (Nat → Prop) → S → World → Prop) (sz : S → Nat) (L : Lens S DefD) (g o : Nat) : Prop where
  name : TextPl Inv g o fun s x => L.set s { L.get s with name := x }
  steps : RowPl Inv sz 42 6 StepE g (o + 1) fun s y => L.set s { L.get s with steps := (L.get s).steps ++ [y] }
  grow : ∀ s d j, d.steps.length ≤ (L.get s).steps.length + j → sz (L.set s d) ≤ sz s + j
structure OpPl {S : Type} (Inv : (Nat → Prop) → S → World → Prop) (sz : S → Nat) (L : Lens S OpD) (g o : Nat) : Prop where
  kind : NumPl Inv g o fun s x => L.set s { L.get s with kind := x }
  client : NumPl Inv g (o + 1) fun s x => L.set s { L.get s with client := x }
  request : NumPl Inv g (o + 2) fun s x => L.set s { L.get s with request := x }
  defn : DefPl Inv sz (L.comp opDef) g (o + 3)
  saga : NumPl Inv g (o + 5) fun s x => L.set s { L.get s with saga := x }
  step : NumPl Inv g (o + 6) fun s x => L.set s { L.get s with step := x }
  try_ : NumPl Inv g (o + 7) fun s x => L.set s { L.get s with try_ := x }
  back : FlagPl Inv g (o + 8) fun s x => L.set s { L.get s with back := x }
  good : FlagPl Inv g (o + 9) fun s x => L.set s { L.get s with good := x }
  grow : ∀ s x j, x.steps.length ≤ (L.get s).steps.length + j → sz (L.set s x) ≤ sz s + j

theorem lift_mem {S X : Type} {L : Lens S X} {ps : Parts X} {Q : (Int × (S → PF → S)) → Prop} (h : ∀ p ∈ ps, Q (L.part p)) : ∀ q ∈ L.lift ps, Q q := fun q hq => by
  obtain ⟨p, hp, rfl⟩ := List.mem_map.1 hq
  exact h p hp
theorem def_grow0 : ∀ q ∈ defPs, ∀ (d : DefD) (p : PF), (q.2 d p).steps.length ≤ d.steps.length + (1 + p.2.2.2.length) := by
  intro q hq d p
  simp only [defPs, List.mem_cons, List.not_mem_nil, or_false] at hq
  rcases hq with rfl | rfl <;> simp <;> omega
theorem def_grow {S : Type} {Inv : (Nat → Prop) → S → World → Prop} {sz : S → Nat} {L : Lens S DefD} {g o : Nat} (h : DefPl Inv sz L g o) : ∀ q ∈ L.lift defPs, ∀ s p, sz (q.2 s p) ≤ sz s + 1 + p.2.2.2.length :=
  lift_mem fun q hq s p => by
    have := h.grow s (q.2 (L.get s) p) _ (def_grow0 q hq (L.get s) p)
    simp only [Lens.part]
    omega
theorem lift_nodup {S X : Type} (L : Lens S X) {ps : Parts X} (h : (ps.map (·.1)).Nodup) : ((L.lift ps).map (·.1)).Nodup := by
  have e : (L.lift ps).map (·.1) = ps.map (·.1) := by simp [Lens.lift, Lens.part]
  rw [e]
  exact h
theorem defPs_own : (defPs.map (·.1)).Nodup := by decide
def stepFs (s : StepD) : List (List PF) := [ptext 1 (nums s.name), pnum 2 s.stub, pnum 3 s.retry, pnum 4 s.wait, pflag 5 s.undo, pflag 6 s.pivot]
theorem stepFs_flat (s : StepD) : (stepFs s).flatten = stepF s := rfl
def defFs (d : DefD) : List (List PF) := [ptext 1 (nums d.name), d.steps.map fun s => prow 2 (stepB s)]
theorem defFs_flat (d : DefD) : (defFs d).flatten = defF d := rfl
def PartsIs (n : Nat) (W : Nat → Nat → World → List PartV → Prop) (w : World) (e : Ending) (w' : World) : Prop :=
  ∃ A ps, e = .returned (.slice A n n) ∧ ps.length = n ∧ NtPartsAt w.heap.size w'.heap.size w' (.slice A n n) ps ∧ Later w w' ∧ W w.heap.size w'.heap.size w' ps

theorem flatC_parts (ps : List PartV) : flatC (ps.map fun p => p.cells.toArray) = ps.flatMap PartV.cells := by
  induction ps with
  | nil => rfl
  | cons p r ih => simp only [flatC, List.map_cons, List.flatMap_cons] at *; rw [ih]
theorem parts_new (a n : Nat) (w : World) (ps : List PartV) (hn : ps.length = n) (ha : a ≤ w.heap.size) (hm : n ≤ 1000) :
    NtPartsAt a (w.alloc (.cells (flatC (ps.map fun p => p.cells.toArray)).toArray 136 (0, 0))).heap.size (w.alloc (.cells (flatC (ps.map fun p => p.cells.toArray)).toArray 136 (0, 0))) (.slice (some ⟨w.heap.size, 0, none⟩) n n) ps := by
  have hb : (w.alloc (.cells (flatC (ps.map fun p => p.cells.toArray)).toArray 136 (0, 0))).heap[w.heap.size]? = some (.cells (flatC (ps.map fun p => p.cells.toArray)).toArray 136 (0, 0)) := heap_alloc_new _ _
  rw [flatC_parts] at hb ⊢
  refine ⟨flat_len PartV.cells 3 ps fun y _ => y.len, fun u hu => ?_, some ⟨w.heap.size, 0, none⟩, n, by rw [hn], by omega, by unfold maxLen; omega, (fun h => by cases h), fun _ => ⟨w.heap.size, 0, rfl, ⟨ha, by rw [World.size_alloc]; omega⟩, by rw [World.size_alloc]; omega, fun j u hj => ?_⟩⟩
  · obtain ⟨p, _, hp⟩ := List.mem_flatMap.1 hu
    exact p.one u hp
  · rw [cell_of_row _ _ _ _ _ _ hb, Nat.zero_add]
    simpa using hj
theorem Tryz.infoPart : (Tryz.prog.info? 136).map (fun i => (i.zero, i.size, i.bytes)) = some (some (.agg #[.int .i64 0, .nilFunc, .nilFunc]), 3, 24) := by kernel_rfl
theorem one_i64 {n : Int} (h1 : 0 ≤ n) (h2 : n ≤ 1000) : I64 n := ⟨by omega, by omega⟩
end Go.Proofs.YtdkiopajilakcaaGreatDoor
/- The parts of a step. -/
namespace Go.Proofs.YtdkiopajilakcaaGreatDoor
open Go.RowKit

def StepW (g o a b : Nat) (w' : World) (ps : List PartV) : Prop :=
  (∀ (St : World → Prop) (s : StepD), s.wf → (∀ w, St w → w.rangeAt g o s.cells) → WrAll a b w' St ps (stepFs s)) ∧
  (∀ (S : Type) (Inv : (Nat → Prop) → S → World → Prop) (sz : S → Nat) (L : Lens S StepD), InvOK Inv → StepPl Inv L g o → RdAll a b w' Inv sz ps (L.lift stepPs))

set_option maxHeartbeats 8000000 in
set_option maxRecDepth 100000 in
theorem stepParts_any {w : World} {g o : Nat} (hg : g < w.heap.size) : Calls Tryz.prog 85 #[.pointer (some ⟨g, o, none⟩)] w (PartsIs 6 (StepW g o) w) := by
  obtain ⟨i0, hi, hz0, hz1, _⟩ := info_parts Tryz.infoPart
  have HG := hide hg
  have L0 : Hid (Later w w.drew) := Later.drew w
  clear hg
  go_enter Tryz.func85, Tryz.ntmps85
  go_wp2
  refine wp_region_L (by kernel_rfl) ?_
  refine wpAnyL_take (i := 0) (d := some 3) (v := ?vas0) rfl rfl (by kernel_rfl) (by kernel_rfl) (by kernel_rfl) (fun _ _ _ h => h) (by rfl) ?yas0 ?_
  case yas0 => (intro w' hw'; go_simp; try (with_reducible rfl))
  simp only [Act.put]; try simp only [sA_, sZ_, sS_]
  refine wpAnyL_take (i := 1) (d := some 4) (v := ?vas1) rfl rfl (by kernel_rfl) (by kernel_rfl) (by kernel_rfl) (fun _ _ _ h => h) (by rfl) ?yas1 ?_
  case yas1 => (intro w' hw'; go_simp; try (with_reducible rfl))
  simp only [Act.put]; try simp only [sA_, sZ_, sS_]
  refine wpAnyL_take (i := 2) (d := some 5) (v := ?vas2) rfl rfl (by kernel_rfl) (by kernel_rfl) (by kernel_rfl) (fun _ _ _ h => h) (by rfl) ?yas2 ?_
  case yas2 => (intro w' hw'; go_simp; try (with_reducible rfl))
  simp only [Act.put]; try simp only [sA_, sZ_, sS_]
  refine wpAnyL_take (i := 4) (d := some 7) (v := ?vas4) rfl rfl (by kernel_rfl) (by kernel_rfl) (by kernel_rfl) (fun _ _ _ h => h) (by rfl) ?yas4 ?_
  case yas4 => (intro w' hw'; go_simp; try (with_reducible rfl))
  simp only [Act.put]; try simp only [sA_, sZ_, sS_]
  refine wpAnyL_take (i := 5) (d := some 8) (v := ?vas5) rfl rfl (by kernel_rfl) (by kernel_rfl) (by kernel_rfl) (fun _ _ _ h => h) (by rfl) ?yas5 ?_
  case yas5 => (intro w' hw'; go_simp; try (with_reducible rfl))
  simp only [Act.put]; try simp only [sA_, sZ_, sS_]
  refine wpAnyL_take (i := 6) (d := some 9) (v := ?vas6) rfl rfl (by kernel_rfl) (by kernel_rfl) (by kernel_rfl) (fun _ _ _ h => h) (by rfl) ?yas6 ?_
  case yas6 => (intro w' hw'; go_simp; try (with_reducible rfl))
  simp only [Act.put]; try simp only [sA_, sZ_, sS_]
  refine wpAnyL_take (i := 8) (d := some 11) (v := ?vas8) rfl rfl (by kernel_rfl) (by kernel_rfl) (by kernel_rfl) (fun _ _ _ h => h) (by rfl) ?yas8 ?_
  case yas8 => (intro w' hw'; go_simp; try (with_reducible rfl))
  simp only [Act.put]; try simp only [sA_, sZ_, sS_]
  refine wpAnyL_take (i := 9) (d := some 12) (v := ?vas9) rfl rfl (by kernel_rfl) (by kernel_rfl) (by kernel_rfl) (fun _ _ _ h => h) (by rfl) ?yas9 ?_
  case yas9 => (intro w' hw'; go_simp; try (with_reducible rfl))
  simp only [Act.put]; try simp only [sA_, sZ_, sS_]
  refine wpAnyL_take (i := 10) (d := some 13) (v := ?vas10) rfl rfl (by kernel_rfl) (by kernel_rfl) (by kernel_rfl) (fun _ _ _ h => h) (by rfl) ?yas10 ?_
  case yas10 => (intro w' hw'; go_simp; try (with_reducible rfl))
  simp only [Act.put]; try simp only [sA_, sZ_, sS_]
  refine wpAnyL_take (i := 12) (d := some 15) (v := ?vas12) rfl rfl (by kernel_rfl) (by kernel_rfl) (by kernel_rfl) (fun _ _ _ h => h) (by rfl) ?yas12 ?_
  case yas12 => (intro w' hw'; go_simp; try (with_reducible rfl))
  simp only [Act.put]; try simp only [sA_, sZ_, sS_]
  refine wpAnyL_take (i := 13) (d := some 16) (v := ?vas13) rfl rfl (by kernel_rfl) (by kernel_rfl) (by kernel_rfl) (fun _ _ _ h => h) (by rfl) ?yas13 ?_
  case yas13 => (intro w' hw'; go_simp; try (with_reducible rfl))
  simp only [Act.put]; try simp only [sA_, sZ_, sS_]
  refine wpAnyL_take (i := 14) (d := some 17) (v := ?vas14) rfl rfl (by kernel_rfl) (by kernel_rfl) (by kernel_rfl) (fun _ _ _ h => h) (by rfl) ?yas14 ?_
  case yas14 => (intro w' hw'; go_simp; try (with_reducible rfl))
  simp only [Act.put]; try simp only [sA_, sZ_, sS_]
  refine wpAnyL_take (i := 16) (d := some 19) (v := ?vas16) rfl rfl (by kernel_rfl) (by kernel_rfl) (by kernel_rfl) (fun _ _ _ h => h) (by rfl) ?yas16 ?_
  case yas16 => (intro w' hw'; go_simp; try (with_reducible rfl))
  simp only [Act.put]; try simp only [sA_, sZ_, sS_]
  refine wpAnyL_take (i := 17) (d := some 20) (v := ?vas17) rfl rfl (by kernel_rfl) (by kernel_rfl) (by kernel_rfl) (fun _ _ _ h => h) (by rfl) ?yas17 ?_
  case yas17 => (intro w' hw'; go_simp; try (with_reducible rfl))
  simp only [Act.put]; try simp only [sA_, sZ_, sS_]
  refine wpAnyL_take (i := 18) (d := some 21) (v := ?vas18) rfl rfl (by kernel_rfl) (by kernel_rfl) (by kernel_rfl) (fun _ _ _ h => h) (by rfl) ?yas18 ?_
  case yas18 => (intro w' hw'; go_simp; try (with_reducible rfl))
  simp only [Act.put]; try simp only [sA_, sZ_, sS_]
  refine wpAnyL_take (i := 20) (d := some 23) (v := ?vas20) rfl rfl (by kernel_rfl) (by kernel_rfl) (by kernel_rfl) (fun _ _ _ h => h) (by rfl) ?yas20 ?_
  case yas20 => (intro w' hw'; go_simp; try (with_reducible rfl))
  simp only [Act.put]; try simp only [sA_, sZ_, sS_]
  refine wpAnyL_take (i := 21) (d := some 24) (v := ?vas21) rfl rfl (by kernel_rfl) (by kernel_rfl) (by kernel_rfl) (fun _ _ _ h => h) (by rfl) ?yas21 ?_
  case yas21 => (intro w' hw'; go_simp; try (with_reducible rfl))
  simp only [Act.put]; try simp only [sA_, sZ_, sS_]
  refine wpAnyL_take (i := 22) (d := some 25) (v := ?vas22) rfl rfl (by kernel_rfl) (by kernel_rfl) (by kernel_rfl) (fun _ _ _ h => h) (by rfl) ?yas22 ?_
  case yas22 => (intro w' hw'; go_simp; try (with_reducible rfl))
  simp only [Act.put]; try simp only [sA_, sZ_, sS_]
  refine wpAnyL_only (i := 3) rfl (by kernel_rfl) (by rfl) fun K hK => ?_
  go_simp
  refine (text_any (num := 1) (g := g) (o := o) (one_i64 (by omega) (by omega)) (by have h2 := HG.out; exact h2)).mono ?_
  rintro e w1 ⟨p1, rfl, hn, l1, hw1, hr1⟩
  refine hK.out _ _ l1 ?_
  have W1 := hide hw1
  have R1 := hide hr1
  have N1 := hide hn
  have K1 := hide l1
  have A1 := hide ((Later.drew w).trans l1)
  clear hn hw1 hr1 l1
  clear hK K
  try (simp only [Act.put]; try simp only [sA_, sZ_, sS_])
  refine wpAnyL_only (i := 7) rfl (by kernel_rfl) (by rfl) fun K hK => ?_
  go_simp
  refine (num_any9 (num := 2) (g := g) (o := (o + 1)) (one_i64 (by omega) (by omega)) (by have h1 := Below.size A1.out; have h2 := HG.out; omega)).mono ?_
  rintro e w2 ⟨p2, rfl, hn, l2, hw2, hr2⟩
  refine hK.out _ _ l2 ?_
  have W2 := hide hw2
  have R2 := hide hr2
  have N2 := hide hn
  have K2 := hide l2
  have A2 := hide (A1.out.trans l2)
  clear hn hw2 hr2 l2
  clear hK K
  try (simp only [Act.put]; try simp only [sA_, sZ_, sS_])
  refine wpAnyL_only (i := 11) rfl (by kernel_rfl) (by rfl) fun K hK => ?_
  go_simp
  refine (num_any9 (num := 3) (g := g) (o := (o + 2)) (one_i64 (by omega) (by omega)) (by have h1 := Below.size A2.out; have h2 := HG.out; omega)).mono ?_
  rintro e w3 ⟨p3, rfl, hn, l3, hw3, hr3⟩
  refine hK.out _ _ l3 ?_
  have W3 := hide hw3
  have R3 := hide hr3
  have N3 := hide hn
  have K3 := hide l3
  have A3 := hide (A2.out.trans l3)
  clear hn hw3 hr3 l3
  clear hK K
  try (simp only [Act.put]; try simp only [sA_, sZ_, sS_])
  refine wpAnyL_only (i := 15) rfl (by kernel_rfl) (by rfl) fun K hK => ?_
  go_simp
  refine (num_any9 (num := 4) (g := g) (o := (o + 3)) (one_i64 (by omega) (by omega)) (by have h1 := Below.size A3.out; have h2 := HG.out; omega)).mono ?_
  rintro e w4 ⟨p4, rfl, hn, l4, hw4, hr4⟩
  refine hK.out _ _ l4 ?_
  have W4 := hide hw4
  have R4 := hide hr4
  have N4 := hide hn
  have K4 := hide l4
  have A4 := hide (A3.out.trans l4)
  clear hn hw4 hr4 l4
  clear hK K
  try (simp only [Act.put]; try simp only [sA_, sZ_, sS_])
  refine wpAnyL_only (i := 19) rfl (by kernel_rfl) (by rfl) fun K hK => ?_
  go_simp
  refine (flag_any (num := 5) (g := g) (o := (o + 4)) (one_i64 (by omega) (by omega)) (by have h1 := Below.size A4.out; have h2 := HG.out; omega)).mono ?_
  rintro e w5 ⟨p5, rfl, hn, l5, hw5, hr5⟩
  refine hK.out _ _ l5 ?_
  have W5 := hide hw5
  have R5 := hide hr5
  have N5 := hide hn
  have K5 := hide l5
  have A5 := hide (A4.out.trans l5)
  clear hn hw5 hr5 l5
  clear hK K
  try (simp only [Act.put]; try simp only [sA_, sZ_, sS_])
  refine wpAnyL_only (i := 23) rfl (by kernel_rfl) (by rfl) fun K hK => ?_
  go_simp
  refine (flag_any (num := 6) (g := g) (o := (o + 5)) (one_i64 (by omega) (by omega)) (by have h1 := Below.size A5.out; have h2 := HG.out; omega)).mono ?_
  rintro e w6 ⟨p6, rfl, hn, l6, hw6, hr6⟩
  refine hK.out _ _ l6 ?_
  have W6 := hide hw6
  have R6 := hide hr6
  have N6 := hide hn
  have K6 := hide l6
  have A6 := hide (A5.out.trans l6)
  clear hn hw6 hr6 l6
  clear hK K
  try (simp only [Act.put]; try simp only [sA_, sZ_, sS_])
  refine wpAnyL_only (i := 24) rfl (by kernel_rfl) (by rfl) fun K hK => ?_
  refine wp_buildSlice_many 108 136 _ 6 (by rfl) i0 _ 3 Tryz.underlying108 hi hz0 hz1 (by omega) (by omega) (by omega) [p1.cells.toArray, p2.cells.toArray, p3.cells.toArray, p4.cells.toArray, p5.cells.toArray, p6.cells.toArray] (by rfl) (by rfl) (by intro v hv; simp only [List.mem_cons, List.not_mem_nil, or_false] at hv; rcases hv with rfl | rfl | rfl | rfl | rfl | rfl <;> rfl) ?_
  refine hK.out _ _ (show Later w6 (w6.alloc (.cells (flatC [p1.cells.toArray, p2.cells.toArray, p3.cells.toArray, p4.cells.toArray, p5.cells.toArray, p6.cells.toArray]).toArray 136 (0, 0))) from Later.alloc _ _) (?_ : wpAnyL _ _ _ _ _ _ (Act.put _ (some 27) _) _)
  clear hK K
  try (simp only [Act.put]; try simp only [sA_, sZ_, sS_])
  refine wpAnyL_take (i := 25) (d := some 2) (v := ?vas25) rfl rfl (by kernel_rfl) (by kernel_rfl) (by kernel_rfl) (fun _ _ _ h => h) (by rfl) ?yas25 ?_
  case yas25 => (intro w' hw'; go_simp; try (with_reducible rfl))
  simp only [Act.put]; try simp only [sA_, sZ_, sS_]
  refine wpAnyL_done (by kernel_rfl) ?_ _
  go_wp2
  go_ret
  have hz : (w6.alloc (.cells (flatC [p1.cells.toArray, p2.cells.toArray, p3.cells.toArray, p4.cells.toArray, p5.cells.toArray, p6.cells.toArray]).toArray 136 (0, 0))).heap.size = w6.heap.size + 1 := World.size_alloc _ _
  have T6 : Later w6 (w6.alloc (.cells (flatC [p1.cells.toArray, p2.cells.toArray, p3.cells.toArray, p4.cells.toArray, p5.cells.toArray, p6.cells.toArray]).toArray 136 (0, 0))) := Later.alloc _ _
  have T5 := K6.out.trans T6
  have T4 := K5.out.trans T5
  have T3 := K4.out.trans T4
  have T2 := K3.out.trans T3
  have T1 := K2.out.trans T2
  have z1 := Below.size T1
  have z2 := Below.size T2
  have z3 := Below.size T3
  have z4 := Below.size T4
  have z5 := Below.size T5
  have z6 := Below.size T6
  have zd : w.drew.heap.size = w.heap.size := rfl
  have y1 := Below.size A1.out
  have y2 := Below.size A2.out
  have y3 := Below.size A3.out
  have y4 := Below.size A4.out
  have y5 := Below.size A5.out
  have y6 := Below.size A6.out
  refine ⟨_, [p1, p2, p3, p4, p5, p6], rfl, rfl, parts_new _ 6 _ _ rfl (Below.size A6.out) (by omega), (A6.out).trans T6, ?_, ?_⟩
  · intro St s hwf hc
    exact (All2.cons (WrOK.part (W1.out St s.name (fun w hw => (range_step (hc w hw)).1)) (by omega) (by omega) (Nat.le_refl _) T1) (All2.cons (WrOK.part (W2.out St s.stub hwf.2.1 (fun w hw => (range_step (hc w hw)).2.1)) (by omega) (by omega) (Nat.le_refl _) T2) (All2.cons (WrOK.part (W3.out St s.retry hwf.2.2.1 (fun w hw => (range_step (hc w hw)).2.2.1)) (by omega) (by omega) (Nat.le_refl _) T3) (All2.cons (WrOK.part (W4.out St s.wait hwf.2.2.2 (fun w hw => (range_step (hc w hw)).2.2.2.1)) (by omega) (by omega) (Nat.le_refl _) T4) (All2.cons (WrOK.part (W5.out St s.undo (fun w hw => (range_step (hc w hw)).2.2.2.2.1)) (by omega) (by omega) (Nat.le_refl _) T5) (All2.cons (WrOK.part (W6.out St s.pivot (fun w hw => (range_step (hc w hw)).2.2.2.2.2)) (by omega) (by omega) (Nat.le_refl _) T6) All2.nil))))))
  · intro S Inv sz L hI hpl
    exact (All2.cons ⟨N1.out, RdOK.part (R1.out S Inv sz _ hI hpl.name) (by omega) (by omega) (Nat.le_refl _) T1⟩ (All2.cons ⟨N2.out, RdOK.part (R2.out S Inv sz _ hI hpl.stub) (by omega) (by omega) (Nat.le_refl _) T2⟩ (All2.cons ⟨N3.out, RdOK.part (R3.out S Inv sz _ hI hpl.retry) (by omega) (by omega) (Nat.le_refl _) T3⟩ (All2.cons ⟨N4.out, RdOK.part (R4.out S Inv sz _ hI hpl.wait) (by omega) (by omega) (Nat.le_refl _) T4⟩ (All2.cons ⟨N5.out, RdOK.part (R5.out S Inv sz _ hI hpl.undo) (by omega) (by omega) (Nat.le_refl _) T5⟩ (All2.cons ⟨N6.out, RdOK.part (R6.out S Inv sz _ hI hpl.pivot) (by omega) (by omega) (Nat.le_refl _) T6⟩ All2.nil))))))
end Go.Proofs.YtdkiopajilakcaaGreatDoor
/- A literal slice of one struct, and append of such a slice to a row, at an operation of a region that draws its order. -/
namespace Go.Proofs.YtdkiopajilakcaaGreatDoor
open Go.RowKit

section
variable {P : Program} {w : World} {op : Oper} {a : Act} {K : Act → World → Prop} {Q : Exit → Act → World → Prop}
theorem wp_buildSlice_one (t e : TypeId) (x : Operand) (ho : op.op = .buildSlice t 1 #[(0, x)]) (i : TypeInfo) (z : Value) (k : Nat) (ht : P.underlying t = some (.slice e)) (hi : P.info? e = some i) (hz : i.zero = some z) (hs : i.size = k) (hk : 0 < k) (hk2 : k ≤ 16777216)
    (cells : Array Value) (hx : a.eval x = .agg cells) (hc : cells.size = k)
    (h : K (a.put op.dst (.slice (some ⟨w.heap.size, 0, none⟩) 1 1)) (w.alloc (.cells cells e (0, 0)))) : op.wp P a w K Q := by
  have hr := run_buildSlice_one (P := P) (w := w) t e i z k ht hi hz hs hk hk2 cells hc
  unfold Oper.wp
  simp [execOp, ho, hx, hr, Result.andThen]
  exact h
theorem flat_one (w : World) (e k : Nat) (cells : Array Value) (hc : cells.size = k) (h1 : ∀ u ∈ cells.toList, u.oneCell' = true) (F : Nat → Prop) (hF : F w.heap.size) :
    FlatAt F (w.alloc (.cells cells e (0, 0))) k (.slice (some ⟨w.heap.size, 0, none⟩) 1 1) 1 cells.toList := by
  have hb : (w.alloc (.cells cells e (0, 0))).heap[w.heap.size]? = some (.cells cells e (0, 0)) := heap_alloc_new _ _
  refine ⟨by simp [hc], h1, some ⟨w.heap.size, 0, none⟩, 1, rfl, Nat.le_refl _, by unfold maxLen; omega, (fun h => by cases h), fun _ => ⟨w.heap.size, 0, rfl, hF, lt_of_block hb, fun j u hj => ?_⟩⟩
  rw [cell_of_row _ _ _ _ _ _ hb, Nat.zero_add]
  simpa using hj
theorem wp_append_flat (s x : Operand) (t : TypeId)
    (ho : op.op = .call { callee := .builtin .append, args := #[s, x], argTypes := #[t, t] })
    (base : Nat) (e : TypeId) (i : TypeInfo) (z : Value) (k bytes : Nat) (ht : P.underlying t = some (.slice e)) (hi : P.info? e = some i) (hz : i.zero = some z)
    (hsize : i.size = k) (hby : i.bytes = bytes) (hzs : z.cells.size = k) (hk : 0 < k)
    (v : Value) (n : Nat) (xs : List Value) (hs : a.eval s = v) (hown : w.ownsRow base e k v n xs)
    (g c m : Nat) (ys : List Value) (hx : a.eval x = .slice (some ⟨g, 0, none⟩) m c) (F : Nat → Prop) (hl : FlatAt F w k (.slice (some ⟨g, 0, none⟩) m c) m ys) (hm : 0 < m) (hroom : n + m ≤ maxLen) (hbytes : (n + m) * bytes ≤ 140737488355328) (hbase : base ≤ w.heap.size)
    (h : ∀ v' w', w'.ownsRow base e k v' (n + m) (xs ++ ys) → w.grownBy w' v.ownBlock → (v'.ownBlock = v.ownBlock ∨ v'.ownBlock = some w.heap.size) → K (a.put op.dst v') w') : op.wp P a w K Q := by
  obtain ⟨hlen, h1, A', c', hv, h3, h4, h5, h6⟩ := hl
  obtain ⟨rfl, rfl⟩ : some ⟨g, 0, none⟩ = A' ∧ c = c' := by injection hv with e1 _ e3; exact ⟨e1, e3⟩
  obtain ⟨v', w', hr, h2, h3, _, h5⟩ := run_append_own_at (P := P) w base t op.type e i z k bytes ht hi hz hsize hby hzs hk v n xs hown ⟨g, 0, none⟩ m c ys hlen
      (fun j u hu => by
        obtain ⟨b, off, h, _, _, hr⟩ := h6 hm
        injection h with h
        injection h with e1 e2
        subst e1 e2
        rw [Addr.add_lit]
        exact hr j u hu) h1 hroom hbytes hbase
  unfold Oper.wp execOp
  simp only [ho, resolve, invoke, builtin, Sem.run_bind, Sem.run_pure, Result.andThen_ok, List.map_toArray, List.map_cons, List.map_nil, hs, hx, hr]
  exact h v' w' h2 h3 h5
end
end Go.Proofs.YtdkiopajilakcaaGreatDoor
/- The parts of lists of steps: how they are written. -/
namespace Go.Proofs.YtdkiopajilakcaaGreatDoor
open Go.RowKit

theorem nt_pre_below (B : Nat) : Pre (fun a c => Below B a c) := ⟨fun _ => Below.refl _ _, fun h k => Below.trans h k⟩
theorem StepD.sm.wf {k : Nat} {s : StepD} (h : s.sm k) (hk : k ≤ 5000) : s.wf := ⟨Nat.le_trans h.1 (by omega), h.2⟩
theorem range_block {w : World} {g : Nat} {cs : List Value} {t : TypeId} (h : w.heap[g]? = some (.cells cs.toArray t (0, 0))) : w.rangeAt g 0 cs := fun j u hj => by
  rw [cell_of_row w g (0 + j) _ t (0, 0) h, Nat.zero_add]
  simpa using hj

set_option maxHeartbeats 8000000 in
set_option maxRecDepth 100000 in
theorem recsSw_any {w : World} {bl bq bf g o m c k : Nat} {A : Option Addr} {num : Int} {F : Nat → Prop} {l : List StepD} (h1 : w.heap[bl]? = some (.cells #[.pointer (some ⟨g, o, none⟩)] 140 (0, 0))) (h2 : w.heap[bq]? = some (.cells #[.int .i64 num] 3 (0, 0)))
    (h3 : w.heap[bf]? = some (.cells #[.func (.func 85) #[] #[]] 141 (0, 0))) (hc : w.cell? ⟨g, o, none⟩ = some (.slice A m c)) (hl : StepsAt F w (.slice A m c) l) (hm : m = l.length) (hsm : ∀ s ∈ l, s.sm k) (hk : k ≤ 5000) (hml : m ≤ 100000) (hn : I64 num) :
    Calls Tryz.prog 113 #[.pointer (some ⟨bl, 0, none⟩), .pointer (some ⟨bq, 0, none⟩), .pointer (some ⟨bf, 0, none⟩)] w (FieldsIs (l.map fun s => prow num (stepB s)) w) := by
  obtain ⟨i0, hi, hz0, hz1, hz2⟩ := info_parts Tryz.infoFd9
  have hx1 := cell_of_row w bl 0 _ _ _ h1
  simp only [List.getElem?_toArray, List.getElem?_cons_zero] at hx1
  have HB2 : Hid (∀ w', Below w.heap.size w w' → w'.cell? ⟨bq, 0, none⟩ = some (.int .i64 num)) := fun w' h => cell_of_row w' bq 0 _ _ _ ((h.block bq (lt_of_block h2)).trans h2)
  have HB3 : Hid (∀ w', Below w.heap.size w w' → w'.cell? ⟨bf, 0, none⟩ = some (.func (.func 85) #[] #[])) := fun w' h => cell_of_row w' bf 0 _ _ _ ((h.block bf (lt_of_block h3)).trans h3)
  have HLL := hide hl
  have HM := hide hm
  have HSM := hide hsm
  have HKK := hide hk
  have HN := hide hn
  clear h1 h2 h3 hl hm hsm hk hn
  go_enter Tryz.func113, Tryz.ntmps113
  go_wp2
  clear hc hx1
  go_loopw [4, 11] (fun lv i wr => ∃ (q : Nat) (fds : List Fd), q ≤ m ∧ i = .int .i64 (q : Int) ∧ wr.ownsRow w.heap.size 51 4 lv q (fcells fds) ∧ (∀ f ∈ fds, FdAt wr f) ∧ fds.map Fd.pf = (l.take q).map (fun s => prow num (stepB s)) ∧ Later w wr) (fun _ i _ => m - (Go.RowKit.intOf i).toNat)
  case atStart => exact ⟨0, [], by omega, rfl, by simpa [fcells] using World.ownsRow_nil _ _ _ _, by simp, by simp, Later.refl _⟩
  case round =>
    obtain ⟨q, fds, hq, rfl, hown, hoks, hpf, hlat⟩ := hrel
    have HO := hide hown
    have HK := hide hoks
    have HF := hide hpf
    have HL := hide hlat
    clear hown hoks hpf hlat
    by_cases hlt : q < m
    · obtain ⟨s, b, off, c', hsk, hv, _, _, hbw, hr⟩ := StepsAt.at_ (HLL.out.kept (Kept.of_below HL.out F)) (i := q) (by rw [← HM.out]; exact hlt)
      obtain ⟨rfl, rfl⟩ : A = some ⟨b, off, none⟩ ∧ c = c' := by injection hv with e1 _ e3; exact ⟨e1, e3⟩
      obtain ⟨r0, r1, r2, r3, r4, r5⟩ := range_step hr
      have HSK := hide hsk
      skip
      have HW8 : Hid (Later wr (wr.alloc (.cells #[.string s.name, .int .i64 s.stub, .int .i64 s.retry, .int .i64 s.wait, .bool s.undo, .bool s.pivot] 42 (0, 0)))) := Later.alloc _ _
      have HX8 : Hid ((wr.alloc (.cells #[.string s.name, .int .i64 s.stub, .int .i64 s.retry, .int .i64 s.wait, .bool s.undo, .bool s.pivot] 42 (0, 0))).heap[wr.heap.size]? = some (.cells #[.string s.name, .int .i64 s.stub, .int .i64 s.retry, .int .i64 s.wait, .bool s.undo, .bool s.pivot] 42 (0, 0))) := heap_alloc_new _ _
      have HZ8 : Hid (wr.heap.size < (wr.alloc (.cells #[.string s.name, .int .i64 s.stub, .int .i64 s.retry, .int .i64 s.wait, .bool s.undo, .bool s.pivot] 42 (0, 0))).heap.size) := by show _ < _; rw [World.size_alloc]; omega
      clear hsk hv hr
      go_wp2
      generalize wr.alloc (.cells #[.string s.name, .int .i64 s.stub, .int .i64 s.retry, .int .i64 s.wait, .bool s.undo, .bool s.pivot] 42 (0, 0)) = W8 at HW8 HX8 HZ8 ⊢
      have HT0 := hide (show Below w.heap.size w W8.drew from (HL.out.trans HW8.out).trans (Later.drew W8))
      refine wp_region_R (R := fun a c => Below w.heap.size a c) (by kernel_rfl) ?_
      refine wpAnyR_take (nt_pre_below w.heap.size) (i := 0) (d := some 15) (v := ?vaw0) rfl rfl (by kernel_rfl) (by kernel_rfl) (by kernel_rfl) (fun _ _ _ h => h) (by rfl) ?yaw0 ?_
      case yaw0 => (intro w' hw'; go_simp; try (with_reducible rfl))
      simp only [Act.put]; try simp only [sA_, sZ_, sS_]
      refine wpAnyR_take (nt_pre_below w.heap.size) (i := 1) (d := some 16) (v := .int .i64 num) rfl rfl (by kernel_rfl) (by kernel_rfl) (by kernel_rfl) (fun _ _ _ h => h) (by rfl) ?yaw1 ?_
      case yaw1 => (intro w' hw'; have hx2 := HB2.out w' (HT0.out.trans hw'); go_simp; try (with_reducible rfl))
      simp only [Act.put]; try simp only [sA_, sZ_, sS_]
      refine wpAnyR_take (nt_pre_below w.heap.size) (i := 2) (d := some 17) (v := .func (.func 85) #[] #[]) rfl rfl (by kernel_rfl) (by kernel_rfl) (by kernel_rfl) (fun _ _ _ h => h) (by rfl) ?yaw2 ?_
      case yaw2 => (intro w' hw'; have hx3 := HB3.out w' (HT0.out.trans hw'); go_simp; try (with_reducible rfl))
      simp only [Act.put]; try simp only [sA_, sZ_, sS_]
      refine wpAnyR_only (i := 3) rfl (by kernel_rfl) (by rfl) fun K hK => ?_
      go_simp
      refine (stepParts_any (w := W8.drew) (g := wr.heap.size) (o := 0) HZ8.out).mono ?_
      rintro e w1 ⟨A1, ps, rfl, hlen, hpa, l1, hsub⟩
      have K1 := hide l1
      have HT1 := hide (HT0.out.trans (show Below w.heap.size W8.drew w1 from Below.mono l1 HT0.out.size))
      have C := hide (nwrite_any (St := (fun wx => wr.heap.size < wx.heap.size ∧ wx.heap[wr.heap.size]? = some (.cells #[.string s.name, .int .i64 s.stub, .int .i64 s.retry, .int .i64 s.wait, .bool s.undo, .bool s.pivot] 42 (0, 0)))) hpa hlen.symm (Stay.refl (Nat.le_refl _)) ⟨by have h0 : W8.drew.heap.size = W8.heap.size := rfl; have := Below.size l1; have := HZ8.out; omega, (Below.block l1 _ HZ8.out).trans HX8.out⟩ (fun wa wb h hl => ⟨by have := Below.size hl; omega, (Below.block hl _ h.1).trans h.2⟩) (hsub.1 (fun wx => wr.heap.size < wx.heap.size ∧ wx.heap[wr.heap.size]? = some (.cells #[.string s.name, .int .i64 s.stub, .int .i64 s.retry, .int .i64 s.wait, .bool s.undo, .bool s.pivot] 42 (0, 0))) s ((HSM.out s (List.mem_of_getElem? HSK.out)).wf HKK.out) (fun wx h => range_block h.2)) (by have h1 := stepF_room s; have h2 := (HSM.out s (List.mem_of_getElem? HSK.out)).1; have h3 := HKK.out; rw [stepFs_flat]; omega))
      refine hK.out _ _ (show Below w.heap.size W8.drew w1 from Below.mono l1 HT0.out.size) ?_
      clear hlen hpa l1 hsub
      clear hK K
      try (simp only [Act.put]; try simp only [sA_, sZ_, sS_])
      refine wpAnyR_only (i := 4) rfl (by kernel_rfl) (by rfl) fun K hK => ?_
      go_simp
      refine C.out.mono ?_
      rintro e w2 ⟨A2, n2, c2, rfl, ho2, hh2, hnc2, hb2⟩
      have K2 := hide (show Later w1 w2 from hb2)
      have HT2 := hide (HT1.out.trans (show Below w.heap.size w1 w2 from Below.mono hb2 HT1.out.size))
      have HO2 := hide ho2
      have HS2 := hide hh2.2.1
      have HN2 := hide hh2.1
      refine hK.out _ _ (show Below w.heap.size w1 w2 from Below.mono hb2 HT1.out.size) ?_
      clear ho2 hh2 hb2 C
      clear hK K
      try (simp only [Act.put]; try simp only [sA_, sZ_, sS_])
      refine wpAnyR_take (nt_pre_below w.heap.size) (i := 5) (d := some 20) (v := ?vaw5) rfl rfl (by kernel_rfl) (by kernel_rfl) (by kernel_rfl) (fun _ _ _ h => h) (by rfl) ?yaw5 ?_
      case yaw5 => (intro w' hw'; go_simp; try (with_reducible rfl))
      simp only [Act.put]; try simp only [sA_, sZ_, sS_]
      refine wpAnyR_only (i := 6) rfl (by kernel_rfl) (by rfl) fun K hK => ?_
      go_simp
      have HT3 : Hid (Below w.heap.size w (w2.alloc (.cells #[.int .i64 num, .bool true, .int .u64 0, .slice A2 n2 c2] 51 (0, 0)))) := HT2.out.alloc HT2.out.size _
      have O3 := hide (own_below_any HO.out (((HW8.out.trans (Later.drew W8)).trans (K1.out.trans K2.out)).trans (Later.alloc w2 (.cells #[.int .i64 num, .bool true, .int .u64 0, .slice A2 n2 c2] 51 (0, 0)))))
      have F3 := hide (flat_one w2 51 4 #[.int .i64 num, .bool true, .int .u64 0, .slice A2 n2 c2] rfl (by intro u hu; simp at hu; rcases hu with rfl | rfl | rfl | rfl <;> rfl) (fun _ => True) trivial)
      refine hK.out _ _ (show Below w.heap.size w2 (w2.alloc (.cells #[.int .i64 num, .bool true, .int .u64 0, .slice A2 n2 c2] 51 (0, 0))) from (Below.refl _ _).alloc HT2.out.size _) ?_
      clear hK K
      try (simp only [Act.put]; try simp only [sA_, sZ_, sS_])
      refine wpAnyR_only (i := 7) rfl (by kernel_rfl) (by rfl) fun K hK => ?_
      refine wp_append_flat _ _ 71 (by rfl) w.heap.size 51 i0 _ 4 48 Tryz.underlying71 hi hz0 hz1 hz2 rfl (by omega) _ q (fcells fds) (by rfl) O3.out w2.heap.size 1 1 [.int .i64 num, .bool true, .int .u64 0, .slice A2 n2 c2] (by rfl) _ F3.out (by omega) (by unfold maxLen; omega) (by omega) HT3.out.size ?_
      intro v4 w4 o4 g4 _
      have O4 := hide o4
      have G4 := hide g4
      have hb4 : Below w.heap.size (w2.alloc (.cells #[.int .i64 num, .bool true, .int .u64 0, .slice A2 n2 c2] 51 (0, 0))) w4 := (Below.refl _ _).grown g4 HT3.out.size fun g hg => (O3.out.lt g hg).1
      have HT4 := hide (HT3.out.trans hb4)
      refine hK.out _ _ hb4 (?_ : wpAnyR _ _ _ _ _ _ _ (Act.put _ (some 22) _) _)
      clear o4 g4 hb4
      clear hK K
      try (simp only [Act.put]; try simp only [sA_, sZ_, sS_])
      refine wpAnyR_take (nt_pre_below w.heap.size) (i := 8) (d := some 4) (v := ?vaw8) rfl rfl (by kernel_rfl) (by kernel_rfl) (by kernel_rfl) (fun _ _ _ h => h) (by rfl) ?yaw8 ?_
      case yaw8 => (intro w' hw'; go_simp; try (with_reducible rfl))
      simp only [Act.put]; try simp only [sA_, sZ_, sS_]
      refine wpAnyR_done (by kernel_rfl) ?_ _
      go_wp2
      go_roundw
      case rel =>
        have hpf9 : Fd.pf ⟨num, true, 0, A2, n2, c2, stepB s⟩ = prow num (stepB s) := rfl
        refine ⟨q + 1, fds ++ [⟨num, true, 0, A2, n2, c2, stepB s⟩], by omega, by go_num, ?_, ?_, ?_, ?_⟩
        · rw [fcells_snoc]
          exact O4.out
        · intro f hf
          rcases List.mem_append.1 hf with hf | hf
          · exact (((HK.out f hf).below (HW8.out.trans (Later.drew W8))).below ((K1.out.trans K2.out).trans (Later.alloc _ _))).kept O3.out G4.out (by decide)
          · obtain rfl : f = _ := by simpa using hf
            exact (((FdOwn.at_ (base := 0) (f := ⟨num, true, 0, A2, n2, c2, stepB s⟩) ⟨HN.out, by simp, HS2.out, own_base HO2.out (Nat.zero_le _)⟩)).below (Later.alloc _ _)).kept O3.out G4.out (by decide)
        · rw [List.map_append, HF.out, List.take_add_one, HSK.out]
          simp only [Option.toList_some, List.map_append, List.map_cons, List.map_nil, hpf9]
        · exact HT4.out
      case measure => simp [Go.RowKit.intOf]; omega
    · obtain rfl : q = m := by omega
      obtain ⟨A', c1, hv, h1, h2⟩ := FHolds.of_own (by rw [show q = fds.length from by have h3 := HF.out; have h4 := congrArg List.length h3; simp only [List.length_map, List.length_take] at h4; have := HM.out; omega] at HO; exact HO.out) fun f hf => (HK.out f hf).ok
      subst hv
      have H2 := hide h2
      have hall : fds.map Fd.pf = l.map (fun s => prow num (stepB s)) := by rw [HF.out, List.take_of_length_le (by have := HM.out; omega)]
      have HALL := hide hall
      clear h2 hall
      go_wp2
      go_ret
      exact ⟨A', _, c1, fds, rfl, H2.out, HK.out, HALL.out, h1, HL.out⟩
end Go.Proofs.YtdkiopajilakcaaGreatDoor
/- Steps, definitions and operations in blocks of their own, to be read into. -/
namespace Go.Proofs.YtdkiopajilakcaaGreatDoor
open Go.RowKit

theorem box_set {w : World} {g t : Nat} {cs cs' : Array Value} (h : w.heap[g]? = some (.cells cs t (0, 0))) (i : Nat) (v : Value) (hcs : cs.setIfInBounds i v = cs') : (w.setCell ⟨g, i, none⟩ v).heap[g]? = some (.cells cs' t (0, 0)) := by
  rw [← hcs]
  exact heap_setCell_same w g i cs t v h
theorem set_other {w : World} {g i q : Nat} {v : Value} (h : q ≠ g) : (w.setCell ⟨g, i, none⟩ v).heap[q]? = w.heap[q]? := heap_setCell_other _ _ _ _ h
theorem box_at {w : World} {g t : Nat} {cs : Array Value} (h : w.heap[g]? = some (.cells cs t (0, 0))) (i : Nat) (u : Value) (hu : cs[i]? = some u) : w.cell? ⟨g, i, none⟩ = some u := (cell_of_row w g i cs t (0, 0) h).trans hu

def InvStep (g : Nat) (P : Nat → Prop) (s : StepD) (w : World) : Prop := P g ∧ w.heap[g]? = some (.cells s.cells.toArray 42 (0, 0)) ∧ s.sm 1000000
theorem invstep_ok (g : Nat) : InvOK (InvStep g) :=
  ⟨fun _ _ _ _ h ⟨h1, h2, h3⟩ => ⟨h g (lt_of_block h2) h1, h2, h3⟩, fun _ _ _ _ hk ⟨h1, h2, h3⟩ => ⟨h1, (hk.2 g (lt_of_block h2) h1).trans h2, h3⟩⟩
theorem i64_zero : I64 0 := ⟨by decide, by decide⟩
theorem StepD.sm_zero (k : Nat) : StepD.zero.sm k := ⟨Nat.zero_le _, i64_zero, i64_zero, i64_zero⟩
theorem invstep_zero {g : Nat} {P : Nat → Prop} {w : World} (hp : P g) (h : w.heap[g]? = some (.cells #[.string ⟨#[]⟩, .int .i64 0, .int .i64 0, .int .i64 0, .bool false, .bool false] 42 (0, 0))) : InvStep g P .zero w := ⟨hp, h, StepD.sm_zero _⟩
theorem invstep_pl (g : Nat) : StepPl (InvStep g) (Lens.id StepD) g 0 where
  name := fun _ _ _ ⟨h1, h2, h3⟩ => ⟨h1, lt_of_block h2, ⟨_, box_at h2 0 _ rfl⟩, box_free h2 _, fun _ hx => ⟨h1, box_set h2 _ _ rfl, hx, h3.2⟩⟩
  stub := fun _ _ _ ⟨h1, h2, h3⟩ => ⟨h1, lt_of_block h2, ⟨_, box_at h2 1 _ rfl⟩, box_free h2 _, fun _ hx => ⟨h1, box_set h2 _ _ rfl, h3.1, hx, h3.2.2⟩⟩
  retry := fun _ _ _ ⟨h1, h2, h3⟩ => ⟨h1, lt_of_block h2, ⟨_, box_at h2 2 _ rfl⟩, box_free h2 _, fun _ hx => ⟨h1, box_set h2 _ _ rfl, h3.1, h3.2.1, hx, h3.2.2.2⟩⟩
  wait := fun _ _ _ ⟨h1, h2, h3⟩ => ⟨h1, lt_of_block h2, ⟨_, box_at h2 3 _ rfl⟩, box_free h2 _, fun _ hx => ⟨h1, box_set h2 _ _ rfl, h3.1, h3.2.1, h3.2.2.1, hx⟩⟩
  undo := fun _ _ _ ⟨h1, h2, h3⟩ => ⟨h1, lt_of_block h2, ⟨_, box_at h2 4 _ rfl⟩, box_free h2 _, fun _ => ⟨h1, box_set h2 _ _ rfl, h3⟩⟩
  pivot := fun _ _ _ ⟨h1, h2, h3⟩ => ⟨h1, lt_of_block h2, ⟨_, box_at h2 5 _ rfl⟩, box_free h2 _, fun _ => ⟨h1, box_set h2 _ _ rfl, h3⟩⟩

def InvDef (g : Nat) (P : Nat → Prop) (d : DefD) (w : World) : Prop := P g ∧ d.name.size ≤ 1000000 ∧ ∃ sv, w.heap[g]? = some (.cells #[.string d.name, sv] 24 (0, 0)) ∧ OwnSteps P w sv d.steps
theorem invdef_ok (g : Nat) : InvOK (InvDef g) :=
  ⟨fun _ _ _ _ h ⟨h1, h2, sv, h3, h4⟩ => ⟨h g (lt_of_block h3) h1, h2, sv, h3, h4.mono h⟩, fun _ _ _ _ hk ⟨h1, h2, sv, h3, h4⟩ => ⟨h1, h2, sv, (hk.2 g (lt_of_block h3) h1).trans h3, h4.keep hk⟩⟩
theorem invdef_zero {g : Nat} {P : Nat → Prop} {w : World} (hp : P g) (h : w.heap[g]? = some (.cells #[.string ⟨#[]⟩, .slice none 0 0] 24 (0, 0))) : InvDef g P .zero w := ⟨hp, Nat.zero_le _, _, h, OwnSteps.nil_ _ _⟩
def defSz (d : DefD) : Nat := d.steps.length
theorem invdef_pl (g : Nat) : DefPl (InvDef g) defSz (Lens.id DefD) g 0 where
  name := fun _ _ _ ⟨h1, h2, sv, h3, h4⟩ => ⟨h1, lt_of_block h3, ⟨_, box_at h3 0 _ rfl⟩, box_free h3 _, fun _ hx => ⟨h1, hx, sv, box_set h3 _ _ rfl, h4.blk fun q e => set_other (fun he => own_not h4.1 h3 (by decide) (he ▸ e))⟩⟩
  steps := fun _ d _ ⟨h1, h2, sv, h3, h4⟩ hP2 => ⟨h1, lt_of_block h3, sv, _, _, box_at h3 1 _ rfl, box_free h3 _, h4.1, Nat.le_refl _, fun q e => ⟨h4.2.1 q e, fun he => own_not h4.1 h3 (by decide) (he ▸ e)⟩,
    fun w2 w3 v' y cells hl hg ho ha he => by
      have hg3 : w3.heap[g]? = some (.cells #[.string d.name, sv] 24 (0, 0)) :=
        (hg.block g (Nat.lt_of_lt_of_le (lt_of_block h3) (Below.size hl)) (fun e => own_not h4.1 h3 (by decide) e.symm)).trans ((Below.block hl g (lt_of_block h3)).trans h3)
      exact ⟨h1, h2, v', box_set hg3 _ _ rfl, (h4.push hP2 hl ho ha he).blk fun q e => set_other (fun hq => own_not ho hg3 (by decide) (hq ▸ e))⟩⟩
  grow := fun _ _ _ h => h

theorem stepPs_own : (stepPs.map (·.1)).Nodup := by decide
end Go.Proofs.YtdkiopajilakcaaGreatDoor
/- Which messages may be, but for their length. -/
namespace Go.Proofs.YtdkiopajilakcaaGreatDoor
open Go.RowKit

end Go.Proofs.YtdkiopajilakcaaGreatDoor
/- A region whose order is open, some of whose operations write what others read: the writers wait for those; what reads the same in all worlds may come up at once, and so may what all writers wait for. -/
namespace Go.Proofs.YtdkiopajilakcaaGreatDoor
open Go.RowKit

section
variable {P : Program} {ops : Array Oper} {Q : Exit → Act → World → Prop} {md : Region.Mode} {S : Nat → Bool}

def wpAnyS (S : Nat → Bool) (P : Program) (md : Region.Mode) (ops : Array Oper) (Q : Exit → Act → World → Prop) : Nat → Array Bool → Act → World → Prop
  | 0, listed, a, w => Region.ready md ops listed = [] ∧ Q .normal a w
  | fuel + 1, listed, a, w =>
    (Region.ready md ops listed = [] → Q .normal a w) ∧
    ∀ i ∈ Region.ready md ops listed, wpOp P ops Q i (fun a' w' => (S i = false → Later w w') ∧ wpAnyS S P md ops Q fuel (listed.setIfInBounds i true) a' w') a w

theorem wpAny_of_S : ∀ (fuel : Nat) (listed : Array Bool) (a : Act) (w : World), wpAnyS S P md ops Q fuel listed a w → wpAny P md ops Q fuel listed a w
  | 0, _, _, _, h => h
  | fuel + 1, _, _, _, h => ⟨h.1, fun i hi => wpOp_mono (fun a' w' h' => wpAny_of_S fuel _ a' w' h'.2) (h.2 i hi)⟩

def Closed (md : Region.Mode) (ops : Array Oper) (listed : Array Bool) : Prop := ∀ m om, ops[m]? = some om → listed.getD m false = true → ∀ e ∈ om.after, Region.binds md e = true → listed.getD e.on false = true
def closedB (md : Region.Mode) (ops : Array Oper) (listed : Array Bool) : Bool :=
  (List.range ops.size).all fun m => !listed.getD m false || (match ops[m]? with | some o => o.after.all (fun e => !Region.binds md e || listed.getD e.on false) | none => true)
theorem closed_spec {listed : Array Bool} (h : closedB md ops listed = true) : Closed md ops listed := by
  intro m om hm hl e he hb
  unfold closedB at h
  rw [List.all_eq_true] at h
  have h1 := h m (by rw [List.mem_range]; exact (Array.getElem?_eq_some_iff.1 hm).1)
  rw [hm, hl] at h1
  simp only [Bool.not_true, Bool.false_or] at h1
  rw [Array.all_eq_true] at h1
  obtain ⟨k, hk, rfl⟩ := Array.mem_iff_getElem.1 he
  have h2 := h1 k hk
  rw [hb] at h2
  simpa using h2
theorem getD_set_listed {listed : Array Bool} {j k : Nat} (h : (listed.setIfInBounds j true).getD k false = true) : k = j ∨ listed.getD k false = true := by
  by_cases e : j = k
  · exact .inl e.symm
  · rw [getD_set_ne false e] at h
    exact .inr h
theorem getD_set_more {listed : Array Bool} {j k : Nat} (h : listed.getD k false = true) : (listed.setIfInBounds j true).getD k false = true := by
  by_cases e : j = k
  · subst e
    have hj : j < listed.size := by
      rcases Nat.lt_or_ge j listed.size with h' | h'
      · exact h'
      · simp [Array.getElem?_eq_none h'] at h
    simp [hj]
  · rw [getD_set_ne false e]
    exact h
theorem Closed.next {listed : Array Bool} (h : Closed md ops listed) {j : Nat} (hj : j ∈ Region.ready md ops listed) : Closed md ops (listed.setIfInBounds j true) := by
  obtain ⟨_, oj, hoj, hall⟩ := mem_ready.1 hj
  intro m om hm hl e he hb
  rcases getD_set_listed hl with rfl | hl
  · rw [hoj] at hm
    obtain rfl := Option.some.inj hm
    exact getD_set_more (hall e he hb)
  · exact getD_set_more (h m om hm hl e he hb)
def reaches (md : Region.Mode) (ops : Array Oper) : Nat → Nat → Nat → Bool
  | 0, _, _ => false
  | f + 1, j, i => match ops[j]? with | some o => o.after.any (fun e => Region.binds md e && (e.on == i || reaches md ops f e.on i)) | none => false
theorem reaches_spec {listed : Array Bool} (hc : Closed md ops listed) {i : Nat} : ∀ (f j : Nat) (oj : Oper), ops[j]? = some oj → (∀ e ∈ oj.after, Region.binds md e = true → listed.getD e.on false = true) → reaches md ops f j i = true → listed.getD i false = true
  | 0, _, _, _, _, h => by simp [reaches] at h
  | f + 1, j, oj, hj, hall, h => by
    unfold reaches at h
    rw [hj] at h
    simp only at h
    rw [Array.any_eq_true] at h
    obtain ⟨k, hk, h2⟩ := h
    simp only [Bool.and_eq_true, Bool.or_eq_true, beq_iff_eq] at h2
    have hl := hall _ (Array.getElem_mem hk) h2.1
    rcases h2.2 with h3 | h3
    · rw [← h3]; exact hl
    · rcases hm : ops[oj.after[k].on]? with _ | om
      · cases f with
        | zero => simp [reaches] at h3
        | succ f => unfold reaches at h3; rw [hm] at h3; cases h3
      · exact reaches_spec hc f _ om hm (fun e he hb => hc _ om hm hl e he hb) h3

theorem wpAnyS_first (T : World → World → Prop) (hT : Pre T) {i : Nat} {oi : Oper} {v : Value} (hi : ops[i]? = some oi) (hsel : ∀ (j : Nat) (o : Oper) cs b, ops[j]? = some o → o.op ≠ .select cs b)
    (hQ : ∀ c a w, Q (.panic c) (a.put oi.dst v) w → Q (.panic c) a w)
    (hst : ∀ (listed : Array Bool) (j : Nat), Closed md ops listed → i ∈ Region.ready md ops listed → j ∈ Region.ready md ops listed → ∀ w w' : World, (S j = false → Later w w') → T w w') :
    ∀ (fuel : Nat) (listed : Array Bool) (a : Act) (w : World), Closed md ops listed →
      (∀ j oj, ops[j]? = some oj → j ≠ i → listed.getD j true = false → (∀ e ∈ oj.after, Region.binds md e = true → e.on ≠ i) → oi.apart ops oj = true) →
      i ∈ Region.ready md ops listed → YieldsIf P ops (T w) oi v a →
      wpAnyS S P md ops Q fuel (listed.setIfInBounds i true) (a.put oi.dst v) w → wpAnyS S P md ops Q (fuel + 1) listed a w := by
  intro fuel
  induction fuel with
  | zero =>
    intro listed a w _ _ hr hy H
    refine ⟨fun h => (by rw [h] at hr; cases hr), fun j hj => ?_⟩
    by_cases hji : j = i
    · subst hji
      exact hy.wpOp hi (hT.1 w) ⟨fun _ => Later.refl w, H⟩
    · have := ready_mono hj hji
      rw [H.1] at this
      cases this
  | succ fuel ih =>
    intro listed a w hcl hfree hr hy H
    refine ⟨fun h => (by rw [h] at hr; cases hr), fun j hj => ?_⟩
    by_cases hji : j = i
    · subst hji
      exact hy.wpOp hi (hT.1 w) ⟨fun _ => Later.refl w, H⟩
    · have h1 := H.2 j (ready_mono hj hji)
      obtain ⟨hjun, oj, hoj, hall⟩ := mem_ready.1 hj
      have hnot : ∀ e ∈ oj.after, Region.binds md e = true → e.on ≠ i := fun e he hb heq => by
        have q1 := hall e he hb
        have q0 := (mem_ready.1 hr).1
        rw [heq] at q1
        rcases Nat.lt_or_ge i listed.size with h' | h'
        · simp [h'] at q0 q1
          rw [q0] at q1
          cases q1
        · simp [Array.getElem?_eq_none h'] at q1
      have h2 := wpOp_putIf hoj (hfree j oj hoj hji hjun hnot) (fun cs b => hsel i oi cs b hi) (fun cs b => hsel j oj cs b hoj) hQ hy h1
      have hfree' : ∀ k ok, ops[k]? = some ok → k ≠ i → (listed.setIfInBounds j true).getD k true = false →
          (∀ e ∈ ok.after, Region.binds md e = true → e.on ≠ i) → oi.apart ops ok = true := fun k ok hk hki hun hno => by
        refine hfree k ok hk hki ?_ hno
        by_cases hjk : j = k
        · subst hjk; exact hjun
        · rw [getD_set_ne true hjk] at hun; exact hun
      refine wpOp_mono (fun a' w' h3 => ⟨h3.2.1, ih (listed.setIfInBounds j true) a' w' (hcl.next hj) hfree' (ready_mono hr (Ne.symm hji)) (yields_rel h3.1 hT (hst listed j hcl hr hj w w' h3.2.1)) ?_⟩) h2
      rw [Array.setIfInBounds_comm _ _ hji]
      exact h3.2.2

def waited (S : Nat → Bool) (md : Region.Mode) (ops : Array Oper) (i : Nat) : Bool := (List.range ops.size).all fun j => !S j || reaches md ops ops.size j i
theorem waited_spec {i : Nat} (h : waited S md ops i = true) {listed : Array Bool} (hc : Closed md ops listed) (hi : i ∈ Region.ready md ops listed) {j : Nat} (hj : j ∈ Region.ready md ops listed) : S j = false := by
  obtain ⟨_, oj, hoj, hall⟩ := mem_ready.1 hj
  have hun := (mem_ready.1 hi).1
  unfold waited at h
  rw [List.all_eq_true] at h
  have h1 := h j (by rw [List.mem_range]; exact (Array.getElem?_eq_some_iff.1 hoj).1)
  simp only [Bool.or_eq_true, Bool.not_eq_true'] at h1
  rcases h1 with h1 | h1
  · exact h1
  · have h2 := reaches_spec hc _ j oj hoj hall h1
    rcases Nat.lt_or_ge i listed.size with h' | h'
    · simp [h'] at hun h2
      rw [hun] at h2
      cases h2
    · simp [Array.getElem?_eq_none h'] at h2

theorem pre_later : Pre Later := ⟨Later.refl, fun h k => Later.trans h k⟩
theorem pre_all : Pre (fun _ _ => True) := ⟨fun _ => trivial, fun _ _ => trivial⟩

theorem wpAnyS_take {i : Nat} {oi : Oper} {d : Option Tmp} {v : Value} {fuel : Nat} {listed : Array Bool} {a : Act} {w : World} (hi : ops[i]? = some oi) (hd : oi.dst = d)
    (hs : Region.noSelect ops = true) (hcl : closedB md ops listed = true) (hwt : waited S md ops i = true) (hf : Region.free md ops listed i = true) (hr : (Region.ready md ops listed).contains i = true)
    (hQ : ∀ c a w, Q (.panic c) (a.put d v) w → Q (.panic c) a w) (hw : Region.wanted oi (yielded ops a.tmps) = true) (hy : ∀ w', Later w w' → (execOp a.eval oi).run P w' = .ok (.value v) w')
    (h : wpAnyS S P md ops Q fuel (listed.setIfInBounds i true) (a.put d v) w) : wpAnyS S P md ops Q (fuel + 1) listed a w := by
  subst hd
  exact wpAnyS_first Later pre_later hi (Region.noSelect_spec hs) hQ (fun _ _ hc h1 h2 _ _ hl => hl (waited_spec hwt hc h1 h2)) fuel listed a w (closed_spec hcl) (Region.free_spec hi hf) (by simpa using hr) (.inl ⟨hw, hy⟩) h
theorem wpAnyS_pure {i : Nat} {oi : Oper} {d : Option Tmp} {v : Value} {fuel : Nat} {listed : Array Bool} {a : Act} {w : World} (hi : ops[i]? = some oi) (hd : oi.dst = d)
    (hs : Region.noSelect ops = true) (hcl : closedB md ops listed = true) (hf : Region.free md ops listed i = true) (hr : (Region.ready md ops listed).contains i = true)
    (hQ : ∀ c a w, Q (.panic c) (a.put d v) w → Q (.panic c) a w) (hw : Region.wanted oi (yielded ops a.tmps) = true) (hy : ∀ w', (execOp a.eval oi).run P w' = .ok (.value v) w')
    (h : wpAnyS S P md ops Q fuel (listed.setIfInBounds i true) (a.put d v) w) : wpAnyS S P md ops Q (fuel + 1) listed a w := by
  subst hd
  exact wpAnyS_first (fun _ _ => True) pre_all hi (Region.noSelect_spec hs) hQ (fun _ _ _ _ _ _ _ _ => trivial) fuel listed a w (closed_spec hcl) (Region.free_spec hi hf) (by simpa using hr) (.inl ⟨hw, fun w' _ => hy w'⟩) h
theorem wpAnyS_only {i : Nat} {o : Oper} {fuel : Nat} {listed : Array Bool} {a : Act} {w : World} (ho : ops[i]? = some o) (hr : Region.ready md ops listed = [i]) (hw : Region.wanted o (yielded ops a.tmps) = true)
    (h : ∀ K' : Act → World → Prop, Hid (∀ a' w', Later w w' → wpAnyS S P md ops Q fuel (listed.setIfInBounds i true) a' w' → K' a' w') → Oper.wp P o a w K' Q) : wpAnyS S P md ops Q (fuel + 1) listed a w := by
  refine ⟨fun h0 => absurd (hr ▸ h0) (by simp), fun j hj => ?_⟩
  rw [hr] at hj
  obtain rfl : j = i := by simpa using hj
  refine wpOp_step ho fun K' hK => ?_
  rw [if_pos hw]
  exact h K' fun a' w' hl hn => hK a' w' ⟨fun _ => hl, hn⟩
theorem wpAnyS_write {i : Nat} {o : Oper} {fuel : Nat} {listed : Array Bool} {a : Act} {w : World} (ho : ops[i]? = some o) (hS : S i = true) (hr : Region.ready md ops listed = [i]) (hw : Region.wanted o (yielded ops a.tmps) = true)
    (h : ∀ K' : Act → World → Prop, Hid (∀ a' w', wpAnyS S P md ops Q fuel (listed.setIfInBounds i true) a' w' → K' a' w') → Oper.wp P o a w K' Q) : wpAnyS S P md ops Q (fuel + 1) listed a w := by
  refine ⟨fun h0 => absurd (hr ▸ h0) (by simp), fun j hj => ?_⟩
  rw [hr] at hj
  obtain rfl : j = i := by simpa using hj
  refine wpOp_step ho fun K' hK => ?_
  rw [if_pos hw]
  exact h K' fun a' w' hn => hK a' w' ⟨(fun h0 => by rw [hS] at h0; cases h0), hn⟩
theorem wpAnyS_done {listed : Array Bool} {a : Act} {w : World} (hr : Region.ready md ops listed = []) (h : Q .normal a w) : ∀ fuel, wpAnyS S P md ops Q fuel listed a w
  | 0 => ⟨hr, h⟩
  | _ + 1 => ⟨fun _ => h, by rw [hr]; simp⟩
theorem wp_region_S (S : Nat → Bool) {id : Nat} {a : Act} {w : World} (hm : P.follows .mixedOrders = true)
    (h : wpAnyS S P .any ops Q ops.size (Array.replicate ops.size false) a w.drew) : (Code.region id ops true).wp P Q a w :=
  wp_region_any hm (wpAny_of_S _ _ _ _ h)
end

end Go.Proofs.YtdkiopajilakcaaGreatDoor
/- As text OrderS, over whatever relation of worlds that goes on: operations that are no writers leave a world of that relation. -/
namespace Go.Proofs.YtdkiopajilakcaaGreatDoor
open Go.RowKit

section
variable {P : Program} {ops : Array Oper} {Q : Exit → Act → World → Prop} {md : Region.Mode} {S : Nat → Bool} {R : World → World → Prop}

def wpAnyV (R : World → World → Prop) (S : Nat → Bool) (P : Program) (md : Region.Mode) (ops : Array Oper) (Q : Exit → Act → World → Prop) : Nat → Array Bool → Act → World → Prop
  | 0, listed, a, w => Region.ready md ops listed = [] ∧ Q .normal a w
  | fuel + 1, listed, a, w =>
    (Region.ready md ops listed = [] → Q .normal a w) ∧
    ∀ i ∈ Region.ready md ops listed, wpOp P ops Q i (fun a' w' => (S i = false → R w w') ∧ wpAnyV R S P md ops Q fuel (listed.setIfInBounds i true) a' w') a w

theorem wpAny_of_V : ∀ (fuel : Nat) (listed : Array Bool) (a : Act) (w : World), wpAnyV R S P md ops Q fuel listed a w → wpAny P md ops Q fuel listed a w
  | 0, _, _, _, h => h
  | fuel + 1, _, _, _, h => ⟨h.1, fun i hi => wpOp_mono (fun a' w' h' => wpAny_of_V fuel _ a' w' h'.2) (h.2 i hi)⟩

theorem wpAnyV_first (hR : Pre R) (T : World → World → Prop) (hT : Pre T) {i : Nat} {oi : Oper} {v : Value} (hi : ops[i]? = some oi) (hsel : ∀ (j : Nat) (o : Oper) cs b, ops[j]? = some o → o.op ≠ .select cs b)
    (hQ : ∀ c a w, Q (.panic c) (a.put oi.dst v) w → Q (.panic c) a w)
    (hst : ∀ (listed : Array Bool) (j : Nat), Closed md ops listed → i ∈ Region.ready md ops listed → j ∈ Region.ready md ops listed → ∀ w w' : World, (S j = false → R w w') → T w w') :
    ∀ (fuel : Nat) (listed : Array Bool) (a : Act) (w : World), Closed md ops listed →
      (∀ j oj, ops[j]? = some oj → j ≠ i → listed.getD j true = false → (∀ e ∈ oj.after, Region.binds md e = true → e.on ≠ i) → oi.apart ops oj = true) →
      i ∈ Region.ready md ops listed → YieldsIf P ops (T w) oi v a →
      wpAnyV R S P md ops Q fuel (listed.setIfInBounds i true) (a.put oi.dst v) w → wpAnyV R S P md ops Q (fuel + 1) listed a w := by
  intro fuel
  induction fuel with
  | zero =>
    intro listed a w _ _ hr hy H
    refine ⟨fun h => (by rw [h] at hr; cases hr), fun j hj => ?_⟩
    by_cases hji : j = i
    · subst hji
      exact hy.wpOp hi (hT.1 w) ⟨fun _ => hR.1 w, H⟩
    · have := ready_mono hj hji
      rw [H.1] at this
      cases this
  | succ fuel ih =>
    intro listed a w hcl hfree hr hy H
    refine ⟨fun h => (by rw [h] at hr; cases hr), fun j hj => ?_⟩
    by_cases hji : j = i
    · subst hji
      exact hy.wpOp hi (hT.1 w) ⟨fun _ => hR.1 w, H⟩
    · have h1 := H.2 j (ready_mono hj hji)
      obtain ⟨hjun, oj, hoj, hall⟩ := mem_ready.1 hj
      have hnot : ∀ e ∈ oj.after, Region.binds md e = true → e.on ≠ i := fun e he hb heq => by
        have q1 := hall e he hb
        have q0 := (mem_ready.1 hr).1
        rw [heq] at q1
        rcases Nat.lt_or_ge i listed.size with h' | h'
        · simp [h'] at q0 q1
          rw [q0] at q1
          cases q1
        · simp [Array.getElem?_eq_none h'] at q1
      have h2 := wpOp_putIf hoj (hfree j oj hoj hji hjun hnot) (fun cs b => hsel i oi cs b hi) (fun cs b => hsel j oj cs b hoj) hQ hy h1
      have hfree' : ∀ k ok, ops[k]? = some ok → k ≠ i → (listed.setIfInBounds j true).getD k true = false →
          (∀ e ∈ ok.after, Region.binds md e = true → e.on ≠ i) → oi.apart ops ok = true := fun k ok hk hki hun hno => by
        refine hfree k ok hk hki ?_ hno
        by_cases hjk : j = k
        · subst hjk; exact hjun
        · rw [getD_set_ne true hjk] at hun; exact hun
      refine wpOp_mono (fun a' w' h3 => ⟨h3.2.1, ih (listed.setIfInBounds j true) a' w' (hcl.next hj) hfree' (ready_mono hr (Ne.symm hji)) (yields_rel h3.1 hT (hst listed j hcl hr hj w w' h3.2.1)) ?_⟩) h2
      rw [Array.setIfInBounds_comm _ _ hji]
      exact h3.2.2

theorem wpAnyV_take (hR : Pre R) {i : Nat} {oi : Oper} {d : Option Tmp} {v : Value} {fuel : Nat} {listed : Array Bool} {a : Act} {w : World} (hi : ops[i]? = some oi) (hd : oi.dst = d)
    (hs : Region.noSelect ops = true) (hcl : closedB md ops listed = true) (hwt : waited S md ops i = true) (hf : Region.free md ops listed i = true) (hr : (Region.ready md ops listed).contains i = true)
    (hQ : ∀ c a w, Q (.panic c) (a.put d v) w → Q (.panic c) a w) (hw : Region.wanted oi (yielded ops a.tmps) = true) (hy : ∀ w', R w w' → (execOp a.eval oi).run P w' = .ok (.value v) w')
    (h : wpAnyV R S P md ops Q fuel (listed.setIfInBounds i true) (a.put d v) w) : wpAnyV R S P md ops Q (fuel + 1) listed a w := by
  subst hd
  exact wpAnyV_first hR R hR hi (Region.noSelect_spec hs) hQ (fun _ _ hc h1 h2 _ _ hl => hl (waited_spec hwt hc h1 h2)) fuel listed a w (closed_spec hcl) (Region.free_spec hi hf) (by simpa using hr) (.inl ⟨hw, hy⟩) h
theorem wpAnyV_only (_ : Pre R) {i : Nat} {o : Oper} {fuel : Nat} {listed : Array Bool} {a : Act} {w : World} (ho : ops[i]? = some o) (hr : Region.ready md ops listed = [i]) (hw : Region.wanted o (yielded ops a.tmps) = true)
    (h : ∀ K' : Act → World → Prop, Hid (∀ a' w', R w w' → wpAnyV R S P md ops Q fuel (listed.setIfInBounds i true) a' w' → K' a' w') → Oper.wp P o a w K' Q) : wpAnyV R S P md ops Q (fuel + 1) listed a w := by
  refine ⟨fun h0 => absurd (hr ▸ h0) (by simp), fun j hj => ?_⟩
  rw [hr] at hj
  obtain rfl : j = i := by simpa using hj
  refine wpOp_step ho fun K' hK => ?_
  rw [if_pos hw]
  exact h K' fun a' w' hl hn => hK a' w' ⟨fun _ => hl, hn⟩
theorem wpAnyV_write {i : Nat} {o : Oper} {fuel : Nat} {listed : Array Bool} {a : Act} {w : World} (ho : ops[i]? = some o) (hS : S i = true) (hr : Region.ready md ops listed = [i]) (hw : Region.wanted o (yielded ops a.tmps) = true)
    (h : ∀ K' : Act → World → Prop, Hid (∀ a' w', wpAnyV R S P md ops Q fuel (listed.setIfInBounds i true) a' w' → K' a' w') → Oper.wp P o a w K' Q) : wpAnyV R S P md ops Q (fuel + 1) listed a w := by
  refine ⟨fun h0 => absurd (hr ▸ h0) (by simp), fun j hj => ?_⟩
  rw [hr] at hj
  obtain rfl : j = i := by simpa using hj
  refine wpOp_step ho fun K' hK => ?_
  rw [if_pos hw]
  exact h K' fun a' w' hn => hK a' w' ⟨(fun h0 => by rw [hS] at h0; cases h0), hn⟩
theorem wpAnyV_done {listed : Array Bool} {a : Act} {w : World} (hr : Region.ready md ops listed = []) (h : Q .normal a w) : ∀ fuel, wpAnyV R S P md ops Q fuel listed a w
  | 0 => ⟨hr, h⟩
  | _ + 1 => ⟨fun _ => h, by rw [hr]; simp⟩
theorem wp_region_V (R : World → World → Prop) (S : Nat → Bool) {id : Nat} {a : Act} {w : World} (hm : P.follows .mixedOrders = true)
    (h : wpAnyV R S P .any ops Q ops.size (Array.replicate ops.size false) a w.drew) : (Code.region id ops true).wp P Q a w :=
  wp_region_any hm (wpAny_of_V _ _ _ _ h)
end

end Go.Proofs.YtdkiopajilakcaaGreatDoor
/- The parts of lists of steps: how they are read. -/
namespace Go.Proofs.YtdkiopajilakcaaGreatDoor
open Go.RowKit

theorem frozen_blk {w w' : World} {g o : Nat} (h : w'.heap[g]? = w.heap[g]?) : w'.frozen? ⟨g, o, none⟩ = w.frozen? ⟨g, o, none⟩ := by
  unfold World.frozen?
  simp only [h]
theorem Tryz.infoElS : (Tryz.prog.info? 42).map (fun i => (i.zero, i.size, i.bytes)) = some (some (.agg #[.string ⟨#[]⟩, .int .i64 0, .int .i64 0, .int .i64 0, .bool false, .bool false]), 6, 48) := by kernel_rfl

set_option maxHeartbeats 8000000 in
set_option maxRecDepth 100000 in
theorem recsSr_any {S : Type} {Inv : (Nat → Prop) → S → World → Prop} {sz : S → Nat} {push : S → StepD → S} {P : Nat → Prop} {s : S} {w : World} {bf bl g o : Nat} {f : Fd} (hI : InvOK Inv) (hpl : RowPl Inv sz 42 6 StepE g o push)
    (h1 : w.heap[bf]? = some (.cells #[.func (.func 85) #[] #[]] 141 (0, 0))) (h2 : w.heap[bl]? = some (.cells #[.pointer (some ⟨g, o, none⟩)] 140 (0, 0))) (hbl : ¬ P bl) (hinv : Inv P s w) (hP2 : ∀ k, w.heap.size ≤ k → P k) (hf : f.ok w w.heap.size) (hsz : sz s + 1 + f.n ≤ 1000000) :
    Calls Tryz.prog 114 #[f.val, .pointer (some ⟨bf, 0, none⟩), .pointer (some ⟨bl, 0, none⟩)] w fun e w' => e = .returned (.tuple #[]) ∧ Inv P (push s (stepR f.pf.2.2.2)) w' ∧ Turned P w w' := by
  obtain ⟨i0, hi, hz0, hz1, hz2⟩ := info_parts Tryz.infoElS
  obtain ⟨fnum, ftext, fv, fa, fn, fc, fb⟩ := f
  simp only at hsz
  obtain ⟨hPg, hgw, v, n, xs, hcell, hfro, hown, hns, hob, hset⟩ := hpl P s w hinv hP2
  have HFN : Hid (fn ≤ 1000000) := by show _ ≤ _; omega
  have HFC : Hid (fn ≤ fc) := hf.2.2.1
  have HFH : Hid (Holds w w.heap.size fa fn fb) := hf.2.2.2
  have HSZ := hide hsz
  have HNS := hide hns
  have HI := hide hI
  have HPG := hide hPg
  have HGW := hide hgw
  have HOWN := hide hown
  have HOW := hide hob
  have HOL : Hid (∀ q, v.ownBlock = some q → q < w.heap.size) := fun q h => (own_lt hown h).1
  have HSET := hide hset
  have HC0 := hide hcell
  have HF0 := hide hfro
  have HP2 := hide hP2
  have HBF : Hid (bf < w.heap.size) := lt_of_block h1
  have HBL : Hid (bl < w.heap.size) := lt_of_block h2
  have HNB : Hid (v.ownBlock ≠ some bl) := fun e => hbl (hob bl e).1
  obtain ⟨W9, hW9⟩ : ∃ W, W = ((w.alloc (.cells #[.int .i64 fnum, .bool ftext, .int .u64 fv, .slice fa fn fc] 51 (0, 0))).alloc (.cells #[.string ⟨#[]⟩, .int .i64 0, .int .i64 0, .int .i64 0, .bool false, .bool false] 42 (0, 0))) := ⟨_, rfl⟩
  have hL9 : Later w W9 := by rw [hW9]; exact (Later.alloc _ _).trans (Later.alloc _ _)
  have HZW : Hid (W9.heap.size = w.heap.size + 2) := by show _ = _; rw [hW9, World.size_alloc, World.size_alloc]
  have HX0 : Hid (W9.heap[w.heap.size]? = some (.cells #[.int .i64 fnum, .bool ftext, .int .u64 fv, .slice fa fn fc] 51 (0, 0))) := by show _ = _; rw [hW9]; exact (Below.block (Later.alloc _ _) _ (by rw [World.size_alloc]; omega)).trans (heap_alloc_new w _)
  have HX9 : Hid (W9.heap[w.heap.size + 1]? = some (.cells #[.string ⟨#[]⟩, .int .i64 0, .int .i64 0, .int .i64 0, .bool false, .bool false] 42 (0, 0))) := by show _ = _; rw [hW9]; have h := heap_alloc_new (w.alloc (.cells #[.int .i64 fnum, .bool ftext, .int .u64 fv, .slice fa fn fc] 51 (0, 0))) (.cells #[.string ⟨#[]⟩, .int .i64 0, .int .i64 0, .int .i64 0, .bool false, .bool false] 42 (0, 0)); rwa [World.size_alloc] at h
  have HX1 : Hid (W9.heap[bf]? = some (.cells #[.func (.func 85) #[] #[]] 141 (0, 0))) := (Below.block hL9 bf (lt_of_block h1)).trans h1
  have HB4 : Hid (W9.heap[bl]? = some (.cells #[.pointer (some ⟨g, o, none⟩)] 140 (0, 0))) := (Below.block hL9 bl (lt_of_block h2)).trans h2
  have HLL := hide hL9
  have HG0 : Hid (Below (w.heap.size + 1) W9 W9.drew) := (Below.refl _ _).drew
  have HZ9 : Hid (w.heap.size + 1 < W9.drew.heap.size) := by show _ < W9.heap.size; have := HZW.out; omega
  have HV0 : Hid (∀ w', Later W9 w' → ∀ P' : Nat → Prop, P' (w.heap.size + 1) → InvStep (w.heap.size + 1) P' StepD.zero w') := fun w' hl P' hp => invstep_zero hp ((Below.block hl _ (by have := HZW.out; omega)).trans HX9.out)
  clear hI hpl h1 h2 hbl hinv hP2 hf hsz hPg hgw hcell hfro hown hns hob hset hL9
  simp only [Fd.val, Fd.cells, Fd.pf]
  go_enter Tryz.func114, Tryz.ntmps114
  go_wp2
  rw [← hW9]
  clear hW9
  refine wp_region_R (R := fun a c => Below (w.heap.size + 1) a c) (by kernel_rfl) ?_
  refine wpAnyR_take (nt_pre_below (w.heap.size + 1)) (i := 0) (d := some 5) (v := ?vap0) rfl rfl (by kernel_rfl) (by kernel_rfl) (by kernel_rfl) (fun _ _ _ h => h) (by rfl) ?yap0 ?_
  case yap0 => (intro w' hw'; go_simp; try (with_reducible rfl))
  simp only [Act.put]; try simp only [sA_, sZ_, sS_]
  refine wpAnyR_take (nt_pre_below (w.heap.size + 1)) (i := 1) (d := some 6) (v := .slice fa fn fc) rfl rfl (by kernel_rfl) (by kernel_rfl) (by kernel_rfl) (fun _ _ _ h => h) (by rfl) ?yap1 ?_
  case yap1 => (intro w' hw'; have hx1 := cell_of_row w' w.heap.size 3 _ _ _ (((HG0.out.trans hw').block w.heap.size (by omega)).trans HX0.out); go_simp; try (with_reducible rfl))
  simp only [Act.put]; try simp only [sA_, sZ_, sS_]
  refine wpAnyR_take (nt_pre_below (w.heap.size + 1)) (i := 2) (d := some 7) (v := .func (.func 85) #[] #[]) rfl rfl (by kernel_rfl) (by kernel_rfl) (by kernel_rfl) (fun _ _ _ h => h) (by rfl) ?yap2 ?_
  case yap2 => (intro w' hw'; have hx2 := cell_of_row w' bf 0 _ _ _ (((HG0.out.trans hw').block bf (by have := HBF.out; omega)).trans HX1.out); go_simp; try (with_reducible rfl))
  simp only [Act.put]; try simp only [sA_, sZ_, sS_]
  refine wpAnyR_only (i := 3) rfl (by kernel_rfl) (by rfl) fun K hK => ?_
  go_simp
  refine (stepParts_any (w := W9.drew) (g := w.heap.size + 1) (o := 0) HZ9.out).mono ?_
  rintro e w1 ⟨A1, ps, rfl, hlen, hpa, l1, hsub⟩
  have K1 := hide l1
  have hz0 : W9.drew.heap.size = w.heap.size + 2 := HZW.out
  have hz1 := Below.size l1
  have C := hide (nread_any (P := fun k => k = w.heap.size + 1 ∨ w1.heap.size ≤ k) (A := fa) (n := fn) (c := fc) (l := fb) (s := StepD.zero) (invstep_ok (w.heap.size + 1)) hpa hlen.symm (Stay.refl (Nat.le_refl _)) (hsub.2 _ _ (fun _ => 0) (Lens.id StepD) (invstep_ok (w.heap.size + 1)) (invstep_pl (w.heap.size + 1))) (lift_nodup _ stepPs_own) (fun _ _ _ _ => Nat.zero_le _) (fun k h1 h2 h => by rcases h with h | h <;> omega) (fun k h => Or.inr h) (HV0.out w1 (by have h := l1; exact (Later.drew W9).trans h) (fun k => k = w.heap.size + 1 ∨ w1.heap.size ≤ k) (Or.inl rfl)) (((HFH.out.below HLL.out).more (Below.size HLL.out)).later ((Later.drew W9).trans l1)) HFN.out HFC.out (by simp only [Nat.zero_add]; have := HFN.out; omega))
  refine hK.out _ _ (show Below (w.heap.size + 1) W9.drew w1 from Below.mono l1 (by omega)) ?_
  clear hlen hpa l1 hsub hz0 hz1
  clear hK K
  try (simp only [Act.put]; try simp only [sA_, sZ_, sS_])
  refine wpAnyR_only (i := 4) rfl (by kernel_rfl) (by rfl) fun K hK => ?_
  go_simp
  refine C.out.mono ?_
  rintro e w2 ⟨rfl, hv2, ht2⟩
  have hb2 : Below (w.heap.size + 1) w1 w2 := ht2.below (fun k h => by have := HZW.out; have h3 := Below.size K1.out; have h4 : W9.drew.heap.size = W9.heap.size := rfl; rcases h with h | h <;> omega) (by have := HZW.out; have h3 := Below.size K1.out; have h4 : W9.drew.heap.size = W9.heap.size := rfl; omega)
  have HV2 := hide hv2
  have HB2 := hide hb2
  refine hK.out _ _ hb2 ?_
  clear hv2 ht2 hb2 C
  clear hK K
  try (simp only [Act.put]; try simp only [sA_, sZ_, sS_])
  refine wpAnyR_done (by kernel_rfl) ?_ _
  go_wp2
  have hBB : Below (w.heap.size + 1) W9 w2 := ((HG0.out.trans (show Below (w.heap.size + 1) W9.drew w1 from Below.mono K1.out (by have := HZW.out; show w.heap.size + 1 ≤ W9.heap.size; omega))).trans HB2.out)
  have hLW : Later w w2 := Below.trans HLL.out (Below.mono hBB (by omega))
  have hs2 : w.heap.size + 2 ≤ w2.heap.size := by have h1 := hBB.size; have h2 := HZW.out; omega
  have hv2 : InvStep (w.heap.size + 1) (fun k => k = w.heap.size + 1 ∨ w1.heap.size ≤ k) (stepR fb) w2 := by
    have h := HV2.out
    rw [Lens.rdB] at h
    exact h
  obtain ⟨_, hx6, hsm⟩ := hv2
  obtain ⟨YC, hYC⟩ : ∃ c, c = (stepR fb).cells := ⟨_, rfl⟩
  rw [← hYC] at hx6
  have HX6 := hide hx6
  have HYL : Hid (YC.length = 6) := by show _ = _; rw [hYC]; rfl
  have HY1 : Hid (∀ u ∈ YC, u.oneCell' = true) := by show ∀ u ∈ YC, _; rw [hYC]; exact (stepR fb).one
  have HYC := hide hYC
  have HSM := hide hsm
  clear hx6 hYC hsm
  have HT2 : Hid (w.heap.size + 1 < w2.heap.size) := by show _ < _; omega
  have HLW2 : Hid (w.heap.size ≤ w2.heap.size) := by show _ ≤ _; omega
  have HLW := hide hLW
  have HX4 : Hid (w2.heap[bl]? = some (.cells #[.pointer (some ⟨g, o, none⟩)] 140 (0, 0))) := (hBB.block bl (by have := HBL.out; omega)).trans HB4.out
  have HC5 : Hid (w2.cell? ⟨g, o, none⟩ = some v) := (Below.cell hLW (p := ⟨g, o, none⟩) HGW.out).trans HC0.out
  have HF5 : Hid (w2.frozen? ⟨g, o, none⟩ = false) := (Below.frozen hLW (p := ⟨g, o, none⟩) HGW.out).trans HF0.out
  have HO2 : Hid (w2.ownsRow 0 42 6 v n xs) := own_blk HOWN.out fun q e => Below.block hLW q (HOL.out q e)
  have HG4 : Hid (∀ w', w2.drew.grownBy w' v.ownBlock → w2.grownBy w' v.ownBlock) := fun w' h => (show w2.grownBy w2.drew v.ownBlock from ⟨rfl, rfl, rfl, Nat.le_refl _, fun _ _ _ => rfl⟩).trans h
  clear hLW hBB hs2 HV2 HB2
  refine wp_region_V (fun a c => a.grownBy c v.ownBlock) (fun j => j == 8) (by kernel_rfl) ?_
  refine wpAnyV_take (pre_grown v.ownBlock) (i := 0) (d := some 10) (v := .pointer (some ⟨g, o, none⟩)) rfl rfl (by kernel_rfl) (by kernel_rfl) (by kernel_rfl) (by kernel_rfl) (by kernel_rfl) (fun _ _ _ h => h) (by rfl) ?yaq0 ?_
  case yaq0 => (intro w' hw'; have hx4 : w'.cell? ⟨bl, 0, none⟩ = some (.pointer (some ⟨g, o, none⟩)) := cell_of_row w' bl 0 _ _ _ (((HG4.out w' hw').block bl (by have := HBL.out; have := HLW2.out; omega) (fun e => HNB.out e.symm)).trans HX4.out); go_simp; try (with_reducible rfl))
  simp only [Act.put]; try simp only [sA_, sZ_, sS_]
  refine wpAnyV_take (pre_grown v.ownBlock) (i := 1) (d := some 11) (v := .pointer (some ⟨g, o, none⟩)) rfl rfl (by kernel_rfl) (by kernel_rfl) (by kernel_rfl) (by kernel_rfl) (by kernel_rfl) (fun _ _ _ h => h) (by rfl) ?yaq1 ?_
  case yaq1 => (intro w' hw'; have hx4 : w'.cell? ⟨bl, 0, none⟩ = some (.pointer (some ⟨g, o, none⟩)) := cell_of_row w' bl 0 _ _ _ (((HG4.out w' hw').block bl (by have := HBL.out; have := HLW2.out; omega) (fun e => HNB.out e.symm)).trans HX4.out); go_simp; try (with_reducible rfl))
  simp only [Act.put]; try simp only [sA_, sZ_, sS_]
  refine wpAnyV_take (pre_grown v.ownBlock) (i := 2) (d := some 12) (v := ?vaq2) rfl rfl (by kernel_rfl) (by kernel_rfl) (by kernel_rfl) (by kernel_rfl) (by kernel_rfl) (fun _ _ _ h => h) (by rfl) ?yaq2 ?_
  case yaq2 => (intro w' hw'; go_simp; try (with_reducible rfl))
  simp only [Act.put]; try simp only [sA_, sZ_, sS_]
  refine wpAnyV_take (pre_grown v.ownBlock) (i := 3) (d := some 13) (v := v) rfl rfl (by kernel_rfl) (by kernel_rfl) (by kernel_rfl) (by kernel_rfl) (by kernel_rfl) (fun _ _ _ h => h) (by rfl) ?yaq3 ?_
  case yaq3 => (intro w' hw'; have hx5 : w'.cell? ⟨g, o, none⟩ = some v := (World.cell?_of_block ((HG4.out w' hw').block g (by have := HGW.out; have := HLW2.out; omega) (fun e => (HOW.out g e.symm).2 rfl))).trans HC5.out; go_simp; try (with_reducible rfl))
  simp only [Act.put]; try simp only [sA_, sZ_, sS_]
  refine wpAnyV_take (pre_grown v.ownBlock) (i := 4) (d := some 14) (v := .agg YC.toArray) rfl rfl (by kernel_rfl) (by kernel_rfl) (by kernel_rfl) (by kernel_rfl) (by kernel_rfl) (fun _ _ _ h => h) (by rfl) ?yaq4 ?_
  case yaq4 => (intro w' hw'; exact exec_load_box 42 _ (by rfl) (w.heap.size + 1) 0 (by rfl) 42 YC.toArray (((HG4.out w' hw').block (w.heap.size + 1) HT2.out (fun e => by have := HOL.out _ e.symm; omega)).trans HX6.out) 6 _ Tryz.underlying42 (by rfl) (by kernel_rfl) YC (by simp [List.take_of_length_le (Nat.le_of_eq HYL.out)]) HYL.out)
  simp only [Act.put]; try simp only [sA_, sZ_, sS_]
  refine wpAnyV_only (pre_grown v.ownBlock) (i := 5) rfl (by kernel_rfl) (by rfl) fun K hK => ?_
  refine wp_buildSlice_one 22 42 _ (by rfl) i0 _ 6 Tryz.underlying22 hi hz0 hz1 (by omega) (by omega) YC.toArray (by rfl) (by simp [HYL.out]) ?_
  have F3 := hide (flat_one w2.drew 42 6 YC.toArray (by simp [HYL.out]) (by simpa using HY1.out) (fun _ => True) trivial)
  have O3 := hide (own_below_any HO2.out ((Later.drew w2).trans (Later.alloc w2.drew (.cells YC.toArray 42 (0, 0)))))
  refine hK.out _ _ (World.grownBy_alloc _ _ _) (?_ : wpAnyV _ _ _ _ _ _ _ _ (Act.put _ (some 15) _) _)
  clear hK K
  try (simp only [Act.put]; try simp only [sA_, sZ_, sS_])
  refine wpAnyV_only (pre_grown v.ownBlock) (i := 6) rfl (by kernel_rfl) (by rfl) fun K hK => ?_
  refine wp_append_flat _ _ 22 (by rfl) 0 42 i0 _ 6 48 Tryz.underlying22 hi hz0 hz1 hz2 (by rfl) (by omega) v n xs (by rfl) O3.out w2.heap.size 1 1 YC (by rfl) _ F3.out (by omega) (by have := HNS.out; have := HSZ.out; unfold maxLen; omega) (by have := HNS.out; have := HSZ.out; omega) (Nat.zero_le _) ?_
  intro v4 w4 o4 g4 a4
  have O4 := hide o4
  have G4 := hide g4
  have A4 := hide a4
  refine hK.out _ _ g4 (?_ : wpAnyV _ _ _ _ _ _ _ _ (Act.put _ (some 16) _) _)
  clear o4 g4 a4
  clear hK K
  try (simp only [Act.put]; try simp only [sA_, sZ_, sS_])
  refine wpAnyV_take (pre_grown v.ownBlock) (i := 7) (d := some 17) (v := ?vaq7) rfl rfl (by kernel_rfl) (by kernel_rfl) (by kernel_rfl) (by kernel_rfl) (by kernel_rfl) (fun _ _ _ h => h) (by rfl) ?yaq7 ?_
  case yaq7 => (intro w' hw'; go_simp; try (with_reducible rfl))
  simp only [Act.put]; try simp only [sA_, sZ_, sS_]
  refine wpAnyV_write (i := 8) rfl rfl (by kernel_rfl) (by rfl) fun K hK => ?_
  have hG4 : w2.grownBy w4 v.ownBlock := (HG4.out w4 (((World.grownBy.refl _ _).trans (World.grownBy_alloc _ _ _)).trans G4.out))
  have hc8 : w4.cell? ⟨g, o, none⟩ = some v := (World.cell?_of_block (hG4.block g (by have := HGW.out; have := HLW2.out; omega) (fun e => (HOW.out g e.symm).2 rfl))).trans HC5.out
  have hf8 : w4.frozen? ⟨g, o, none⟩ = false := (frozen_blk (hG4.block g (by have := HGW.out; have := HLW2.out; omega) (fun e => (HOW.out g e.symm).2 rfl))).trans HF5.out
  obtain ⟨A9, c9, hv9⟩ := own_shape O4.out
  subst hv9
  go_simp
  refine hK.out _ _ ?_
  clear hc8 hf8
  clear hK K
  try simp only [Act.put]
  refine wpAnyV_done (by kernel_rfl) ?_ _
  go_wp2
  go_end0
  have hl4 : Later w (w2.drew.alloc (.cells YC.toArray 42 (0, 0))) := HLW.out.trans ((Later.drew w2).trans (Later.alloc _ _))
  refine ⟨rfl, HSET.out _ w4 _ (stepR fb) YC hl4 G4.out O4.out A4.out ?_, ?_⟩
  · exact ⟨HYC.out, Nat.le_trans HSM.out.1 (by omega), HSM.out.2⟩
  · exact ((Turned.of_below hl4 P).trans (Turned.of_grown G4.out fun q e => (HOW.out q e).1)).trans (Turned.of_grown (grown_cell _ g o _) fun q e => by obtain rfl := Option.some.inj e; exact HPG.out)

theorem heap_fours (w : World) (A B C D : Obj) : ((((w.alloc A).alloc B).alloc C).alloc D).heap[w.heap.size]? = some A ∧ ((((w.alloc A).alloc B).alloc C).alloc D).heap[w.heap.size + 1]? = some B ∧ ((((w.alloc A).alloc B).alloc C).alloc D).heap[w.heap.size + 1 + 1]? = some C ∧
    ((((w.alloc A).alloc B).alloc C).alloc D).heap[w.heap.size + 1 + 1 + 1]? = some D ∧ ((((w.alloc A).alloc B).alloc C).alloc D).heap.size = w.heap.size + 4 := by
  obtain ⟨h1, h2, h3⟩ := heap_firsts w A B C
  have h4 := heap_third w A B C
  have hl := Later.alloc (((w.alloc A).alloc B).alloc C) D
  have h5 := heap_alloc_new (((w.alloc A).alloc B).alloc C) D
  rw [h3] at h5
  exact ⟨(Below.block hl _ (by omega)).trans h1, (Below.block hl _ (by omega)).trans h2, (Below.block hl _ (by omega)).trans h4, h5, by rw [World.size_alloc, h3]⟩

def RecsSIs (num : Int) (g o : Nat) (w : World) (e : Ending) (w' : World) : Prop :=
  ∃ p : PartV, e = .returned (.agg p.cells.toArray) ∧ p.num = num ∧ Later w w' ∧
    (∀ (St : World → Prop) (l : List StepD) (k : Nat), (∀ s ∈ l, s.sm k) → k ≤ 5000 → l.length ≤ 100000 → (∀ w, St w → ∃ v F, w.cell? ⟨g, o, none⟩ = some v ∧ StepsAt F w v l) → WrOK w.heap.size w'.heap.size w' St p (l.map fun s => prow num (stepB s))) ∧
    (∀ (S : Type) (Inv : (Nat → Prop) → S → World → Prop) (sz : S → Nat) (push : S → StepD → S), InvOK Inv → RowPl Inv sz 42 6 StepE g o push → RdOK w.heap.size w'.heap.size w' Inv sz p fun s f => push s (stepR f.2.2.2))
set_option maxHeartbeats 2000000 in
set_option maxRecDepth 100000 in
theorem enters_recsS : NtEnters 113 ∧ NtEnters 114 := ⟨fun args w => by go_simp, fun args w => by go_simp⟩
set_option maxHeartbeats 2000000 in
set_option maxRecDepth 100000 in
theorem recsS_any {w : World} {num : Int} {g o : Nat} (hn : I64 num) (_hg : g < w.heap.size) : Calls Tryz.prog 84 #[.int .i64 num, .pointer (some ⟨g, o, none⟩), .func (.func 85) #[] #[]] w (RecsSIs num g o w) := by
  have HN := hide hn
  clear hn
  go_enter Tryz.func84, Tryz.ntmps84
  go_wp2
  obtain ⟨x1, x2, x3, x4, hz⟩ := heap_fours w (.cells #[.int .i64 num] 3 (0, 0)) (.cells #[.pointer (some ⟨g, o, none⟩)] 140 (0, 0)) (.cells #[.func (.func 85) #[] #[]] 141 (0, 0)) (.cells #[.int .i64 num, .func (.func 113) #[] #[.pointer (some ⟨w.heap.size + 1, 0, none⟩), .pointer (some ⟨w.heap.size, 0, none⟩), .pointer (some ⟨w.heap.size + 1 + 1, 0, none⟩)], .func (.func 114) #[] #[.pointer (some ⟨w.heap.size + 1 + 1, 0, none⟩), .pointer (some ⟨w.heap.size + 1, 0, none⟩)]] 136 (0, 0))
  refine bodyPost_ret (results_cell_row Tryz.results84 _ _ (w.heap.size + 1 + 1 + 1) 136 _ (0, 0) _ (by rfl) x4 Tryz.underlying136 (by rfl) (by kernel_rfl)) (by rfl) ?_
  have hl : Later w ((((w.alloc (.cells #[.int .i64 num] 3 (0, 0))).alloc (.cells #[.pointer (some ⟨g, o, none⟩)] 140 (0, 0))).alloc (.cells #[.func (.func 85) #[] #[]] 141 (0, 0))).alloc (.cells #[.int .i64 num, .func (.func 113) #[] #[.pointer (some ⟨w.heap.size + 1, 0, none⟩), .pointer (some ⟨w.heap.size, 0, none⟩), .pointer (some ⟨w.heap.size + 1 + 1, 0, none⟩)], .func (.func 114) #[] #[.pointer (some ⟨w.heap.size + 1 + 1, 0, none⟩), .pointer (some ⟨w.heap.size + 1, 0, none⟩)]] 136 (0, 0))) := (((Later.alloc w _).trans (Later.alloc _ _)).trans (Later.alloc _ _)).trans (Later.alloc _ _)
  refine ⟨⟨num, 113, #[.pointer (some ⟨w.heap.size + 1, 0, none⟩), .pointer (some ⟨w.heap.size, 0, none⟩), .pointer (some ⟨w.heap.size + 1 + 1, 0, none⟩)], 114, #[.pointer (some ⟨w.heap.size + 1 + 1, 0, none⟩), .pointer (some ⟨w.heap.size + 1, 0, none⟩)]⟩, rfl, rfl, hl, ?_, ?_⟩
  · intro St l k hsm hk hlen hcell
    refine ⟨enters_recsS.1, fun wx hs hst => ?_⟩
    obtain ⟨v, F, hv, hlv⟩ := hcell wx hst
    obtain ⟨A, c, rfl, _⟩ := FlatAt.shape hlv
    exact recsSw_any ((hs.2 _ (by omega) (by omega)).trans x2) ((hs.2 _ (by omega) (by omega)).trans x1) ((hs.2 _ (by omega) (by omega)).trans x3) hv hlv rfl hsm hk hlen HN.out
  · intro S Inv sz push hI hpl
    refine ⟨enters_recsS.2, fun P s wx f hs hP hP2 hinv hf hsz => ?_⟩
    exact recsSr_any hI hpl ((hs.2 _ (by omega) (by omega)).trans x3) ((hs.2 _ (by omega) (by omega)).trans x2) (hP _ (by omega) (by omega)) hinv hP2 hf hsz
end Go.Proofs.YtdkiopajilakcaaGreatDoor
/- The parts of a definition. -/
namespace Go.Proofs.YtdkiopajilakcaaGreatDoor
open Go.RowKit

def DefAt (g o : Nat) (d : DefD) (w : World) : Prop := w.cell? ⟨g, o, none⟩ = some (.string d.name) ∧ ∃ v F, w.cell? ⟨g, o + 1, none⟩ = some v ∧ StepsAt F w v d.steps
def DefW (g o a b : Nat) (w' : World) (ps : List PartV) : Prop :=
  (∀ (St : World → Prop) (d : DefD) (k : Nat), d.sm k → k ≤ 5000 → (∀ w, St w → DefAt g o d w) → WrAll a b w' St ps (defFs d)) ∧
  (∀ (S : Type) (Inv : (Nat → Prop) → S → World → Prop) (sz : S → Nat) (L : Lens S DefD), InvOK Inv → DefPl Inv sz L g o → RdAll a b w' Inv sz ps (L.lift defPs))

set_option maxHeartbeats 8000000 in
set_option maxRecDepth 100000 in
theorem defParts_any {w : World} {g o : Nat} (hg : g < w.heap.size) : Calls Tryz.prog 43 #[.pointer (some ⟨g, o, none⟩)] w (PartsIs 2 (DefW g o) w) := by
  obtain ⟨i0, hi, hz0, hz1, _⟩ := info_parts Tryz.infoPart
  have HG := hide hg
  have L0 : Hid (Later w w.drew) := Later.drew w
  clear hg
  go_enter Tryz.func43, Tryz.ntmps43
  go_wp2
  refine wp_region_L (by kernel_rfl) ?_
  refine wpAnyL_take (i := 0) (d := some 3) (v := ?vad0) rfl rfl (by kernel_rfl) (by kernel_rfl) (by kernel_rfl) (fun _ _ _ h => h) (by rfl) ?yad0 ?_
  case yad0 => (intro w' hw'; go_simp; try (with_reducible rfl))
  simp only [Act.put]; try simp only [sA_, sZ_, sS_]
  refine wpAnyL_take (i := 1) (d := some 4) (v := ?vad1) rfl rfl (by kernel_rfl) (by kernel_rfl) (by kernel_rfl) (fun _ _ _ h => h) (by rfl) ?yad1 ?_
  case yad1 => (intro w' hw'; go_simp; try (with_reducible rfl))
  simp only [Act.put]; try simp only [sA_, sZ_, sS_]
  refine wpAnyL_take (i := 2) (d := some 5) (v := ?vad2) rfl rfl (by kernel_rfl) (by kernel_rfl) (by kernel_rfl) (fun _ _ _ h => h) (by rfl) ?yad2 ?_
  case yad2 => (intro w' hw'; go_simp; try (with_reducible rfl))
  simp only [Act.put]; try simp only [sA_, sZ_, sS_]
  refine wpAnyL_take (i := 4) (d := some 7) (v := ?vad4) rfl rfl (by kernel_rfl) (by kernel_rfl) (by kernel_rfl) (fun _ _ _ h => h) (by rfl) ?yad4 ?_
  case yad4 => (intro w' hw'; go_simp; try (with_reducible rfl))
  simp only [Act.put]; try simp only [sA_, sZ_, sS_]
  refine wpAnyL_take (i := 5) (d := some 8) (v := ?vad5) rfl rfl (by kernel_rfl) (by kernel_rfl) (by kernel_rfl) (fun _ _ _ h => h) (by rfl) ?yad5 ?_
  case yad5 => (intro w' hw'; go_simp; try (with_reducible rfl))
  simp only [Act.put]; try simp only [sA_, sZ_, sS_]
  refine wpAnyL_take (i := 6) (d := some 9) (v := ?vad6) rfl rfl (by kernel_rfl) (by kernel_rfl) (by kernel_rfl) (fun _ _ _ h => h) (by rfl) ?yad6 ?_
  case yad6 => (intro w' hw'; go_simp; try (with_reducible rfl))
  simp only [Act.put]; try simp only [sA_, sZ_, sS_]
  refine wpAnyL_only (i := 3) rfl (by kernel_rfl) (by rfl) fun K hK => ?_
  go_simp
  refine (text_any (num := 1) (g := g) (o := o) (one_i64 (by omega) (by omega)) (by have h2 := HG.out; exact h2)).mono ?_
  rintro e w1 ⟨p1, rfl, hn, l1, hw1, hr1⟩
  refine hK.out _ _ l1 ?_
  have W1 := hide hw1
  have R1 := hide hr1
  have N1 := hide hn
  have K1 := hide l1
  have A1 := hide ((Later.drew w).trans l1)
  clear hn hw1 hr1 l1
  clear hK K
  try (simp only [Act.put]; try simp only [sA_, sZ_, sS_])
  refine wpAnyL_only (i := 7) rfl (by kernel_rfl) (by rfl) fun K hK => ?_
  go_simp
  refine (recsS_any (num := 2) (g := g) (o := (o + 1)) (one_i64 (by omega) (by omega)) (by have h1 := Below.size A1.out; have h2 := HG.out; omega)).mono ?_
  rintro e w2 ⟨p2, rfl, hn, l2, hw2, hr2⟩
  refine hK.out _ _ l2 ?_
  have W2 := hide hw2
  have R2 := hide hr2
  have N2 := hide hn
  have K2 := hide l2
  have A2 := hide (A1.out.trans l2)
  clear hn hw2 hr2 l2
  clear hK K
  try (simp only [Act.put]; try simp only [sA_, sZ_, sS_])
  refine wpAnyL_only (i := 8) rfl (by kernel_rfl) (by rfl) fun K hK => ?_
  refine wp_buildSlice_many 108 136 _ 2 (by rfl) i0 _ 3 Tryz.underlying108 hi hz0 hz1 (by omega) (by omega) (by omega) [p1.cells.toArray, p2.cells.toArray] (by rfl) (by rfl) (by intro v hv; simp only [List.mem_cons, List.not_mem_nil, or_false] at hv; rcases hv with rfl | rfl <;> rfl) ?_
  refine hK.out _ _ (show Later w2 (w2.alloc (.cells (flatC [p1.cells.toArray, p2.cells.toArray]).toArray 136 (0, 0))) from Later.alloc _ _) (?_ : wpAnyL _ _ _ _ _ _ (Act.put _ (some 11) _) _)
  clear hK K
  try (simp only [Act.put]; try simp only [sA_, sZ_, sS_])
  refine wpAnyL_take (i := 9) (d := some 2) (v := ?vad9) rfl rfl (by kernel_rfl) (by kernel_rfl) (by kernel_rfl) (fun _ _ _ h => h) (by rfl) ?yad9 ?_
  case yad9 => (intro w' hw'; go_simp; try (with_reducible rfl))
  simp only [Act.put]; try simp only [sA_, sZ_, sS_]
  refine wpAnyL_done (by kernel_rfl) ?_ _
  go_wp2
  go_ret
  have hz : (w2.alloc (.cells (flatC [p1.cells.toArray, p2.cells.toArray]).toArray 136 (0, 0))).heap.size = w2.heap.size + 1 := World.size_alloc _ _
  have T2 : Later w2 (w2.alloc (.cells (flatC [p1.cells.toArray, p2.cells.toArray]).toArray 136 (0, 0))) := Later.alloc _ _
  have T1 := K2.out.trans T2
  have z1 := Below.size T1
  have z2 := Below.size T2
  have zd : w.drew.heap.size = w.heap.size := rfl
  have y1 := Below.size A1.out
  have y2 := Below.size A2.out
  refine ⟨_, [p1, p2], rfl, rfl, parts_new _ 2 _ _ rfl (Below.size A2.out) (by omega), (A2.out).trans T2, ?_, ?_⟩
  · intro St d k hsm hk hc
    exact (All2.cons (WrOK.part (W1.out St d.name (fun w hw => (hc w hw).1)) (by omega) (by omega) (Nat.le_refl _) T1) (All2.cons (WrOK.part (W2.out St d.steps k hsm.2.2 hk (by have := hsm.2.1; omega) (fun w hw => (hc w hw).2)) (by omega) (by omega) (Nat.le_refl _) T2) All2.nil))
  · intro S Inv sz L hI hpl
    exact (All2.cons ⟨N1.out, RdOK.part (R1.out S Inv sz _ hI hpl.name) (by omega) (by omega) (Nat.le_refl _) T1⟩ (All2.cons ⟨N2.out, RdOK.part (R2.out S Inv sz _ hI hpl.steps) (by omega) (by omega) (Nat.le_refl _) T2⟩ All2.nil))
end Go.Proofs.YtdkiopajilakcaaGreatDoor
/- The parts of an operation. -/
namespace Go.Proofs.YtdkiopajilakcaaGreatDoor
open Go.RowKit

def NtOpIn (g o : Nat) (x : OpD) (w : World) : Prop := ∃ sv F, w.rangeAt g o (x.cells sv) ∧ StepsAt F w sv x.steps
theorem NtOpIn.defn {g o : Nat} {x : OpD} {w : World} (h : NtOpIn g o x w) : DefAt g (o + 3) x.defn w := by
  obtain ⟨sv, F, h1, h2⟩ := h
  exact ⟨(range_op h1).2.2.2.1, sv, F, (range_op h1).2.2.2.2.1, h2⟩
end Go.Proofs.YtdkiopajilakcaaGreatDoor
/- The parts of lists of operations: how they are written, how they are read. -/
namespace Go.Proofs.YtdkiopajilakcaaGreatDoor
open Go.RowKit

end Go.Proofs.YtdkiopajilakcaaGreatDoor
/- The parts of lists of numbers: how they are written, how they are read. -/
namespace Go.Proofs.YtdkiopajilakcaaGreatDoor
open Go.RowKit

end Go.Proofs.YtdkiopajilakcaaGreatDoor
/- Where the parts of a message lie; its fields, part by part. -/
namespace Go.Proofs.YtdkiopajilakcaaGreatDoor
open Go.RowKit
structure MsgD.nums (m : MsgD) : Prop where
  kind : I64 m.kind
  src : I64 m.src
  dst : I64 m.dst
  view : I64 m.view
  last : I64 m.last
  num : I64 m.num
  commit : I64 m.commit
  nonce : I64 m.nonce
  request : I64 m.request
  rerr : I64 m.rerr
  rsaga : I64 m.rsaga
  rstate : I64 m.rstate
  rstep : I64 m.rstep
  cview : I64 m.cview
  cstub : I64 m.cstub
  csaga : I64 m.csaga
  cstep : I64 m.cstep
  ctry : I64 m.ctry
  incs : ∀ x ∈ m.incs, I64 x
structure MsgD.sm (k : Nat) (m : MsgD) : Prop where
  nums : m.nums
  op : m.op.sm k
  ops : ∀ o ∈ m.ops, o.sm k
  nops : m.ops.length ≤ 100000
  nincs : m.incs.length ≤ k
def MsgIn (g o : Nat) (m : MsgD) (w : World) : Prop := ∃ sv ov iv F, w.rangeAt g o (m.cells sv ov iv) ∧ Lists F w m sv ov iv
theorem MsgIn.op {g o : Nat} {m : MsgD} {w : World} (h : MsgIn g o m w) : NtOpIn g (o + 12) m.op w := by
  obtain ⟨sv, ov, iv, F, h1, h2⟩ := h
  refine ⟨sv, F, fun j u hj => ?_, h2.1⟩
  have hl : j < 10 := by
    have := (List.getElem?_eq_some_iff.1 hj).1
    rwa [OpD.len] at this
  have e : m.cells sv ov iv = m.front ++ (m.op.cells sv ++ (m.middle ++ [ov, iv])) := rfl
  have hf : m.front.length = 12 := rfl
  have := h1 (12 + j) u (by rw [e, List.getElem?_append_right (by omega), hf, Nat.add_sub_cancel_left, List.getElem?_append_left (by rw [OpD.len]; exact hl)]; exact hj)
  rwa [← Nat.add_assoc] at this
structure ReplyPl (Inv : (Nat → Prop) → MsgD → World → Prop) (g o : Nat) : Prop where
  rerr : NumPl Inv g o fun m x => { m with rerr := x }
  rsaga : NumPl Inv g (o + 1) fun m x => { m with rsaga := x }
  rstate : NumPl Inv g (o + 2) fun m x => { m with rstate := x }
  rstep : NumPl Inv g (o + 3) fun m x => { m with rstep := x }
structure CmdPl (Inv : (Nat → Prop) → MsgD → World → Prop) (g o : Nat) : Prop where
  cview : NumPl Inv g o fun m x => { m with cview := x }
  cstub : NumPl Inv g (o + 1) fun m x => { m with cstub := x }
  csaga : NumPl Inv g (o + 2) fun m x => { m with csaga := x }
  cstep : NumPl Inv g (o + 3) fun m x => { m with cstep := x }
  ctry : NumPl Inv g (o + 4) fun m x => { m with ctry := x }
  cback : FlagPl Inv g (o + 5) fun m x => { m with cback := x }
def msgSz (m : MsgD) : Nat := m.ops.length + m.incs.length + m.op.steps.length
structure MsgPl (Inv : (Nat → Prop) → MsgD → World → Prop) (g o : Nat) : Prop where
  kind : NumPl Inv g o fun m x => { m with kind := x }
  src : NumPl Inv g (o + 1) fun m x => { m with src := x }
  dst : NumPl Inv g (o + 2) fun m x => { m with dst := x }
  view : NumPl Inv g (o + 3) fun m x => { m with view := x }
  last : NumPl Inv g (o + 4) fun m x => { m with last := x }
  num : NumPl Inv g (o + 5) fun m x => { m with num := x }
  commit : NumPl Inv g (o + 6) fun m x => { m with commit := x }
  nonce : NumPl Inv g (o + 7) fun m x => { m with nonce := x }
  request : NumPl Inv g (o + 8) fun m x => { m with request := x }
  lead : FlagPl Inv g (o + 9) fun m x => { m with lead := x }
  good : FlagPl Inv g (o + 10) fun m x => { m with good := x }
  fenced : FlagPl Inv g (o + 11) fun m x => { m with fenced := x }
  op : OpPl Inv msgSz msgOp g (o + 12)
  reply : ReplyPl Inv g (o + 22)
  cmd : CmdPl Inv g (o + 26)
  ops : RowPl Inv msgSz 104 10 OpE g (o + 32) fun m y => { m with ops := m.ops ++ [y] }
  incs : RowPl Inv msgSz 3 1 IntE g (o + 33) fun m y => { m with incs := m.incs ++ [y] }

end Go.Proofs.YtdkiopajilakcaaGreatDoor
/- CRC-32 as numbers: one step, a byte, a list; it is linear, and no step forgets. -/
namespace Go.Proofs.YtdkiopajilakcaaGreatDoor

def st (s : Nat) : Nat := if s % 2 = 1 then s / 2 ^^^ 3988292384 else s / 2
def st4 (s : Nat) : Nat := st (st (st (st s)))
def st8 (s : Nat) : Nat := st4 (st4 s)
def crc (s : Nat) (l : List Nat) : Nat := l.foldl (fun s x => st8 (s ^^^ x)) s
def sum (l : List Nat) : Nat := crc 4294967295 l ^^^ 4294967295

theorem st_bit (s i : Nat) : (st s).testBit i = (s.testBit (i + 1) ^^ (s.testBit 0 && Nat.testBit 3988292384 i)) := by
  have h0 : s.testBit 0 = decide (s % 2 = 1) := Nat.testBit_zero s
  unfold st
  by_cases h : s % 2 = 1
  · rw [if_pos h, Nat.testBit_xor, h0, Nat.testBit_succ]; simp [h]
  · rw [if_neg h, h0, Nat.testBit_succ]; simp [h]

theorem st_xor (a b : Nat) : st (a ^^^ b) = st a ^^^ st b := by
  apply Nat.eq_of_testBit_eq
  intro i
  simp only [st_bit, Nat.testBit_xor]
  cases a.testBit (i + 1) <;> cases b.testBit (i + 1) <;> cases a.testBit 0 <;> cases b.testBit 0 <;> cases Nat.testBit 3988292384 i <;> rfl
theorem st4_xor (a b : Nat) : st4 (a ^^^ b) = st4 a ^^^ st4 b := by simp only [st4, st_xor]
theorem st_lt {s : Nat} (h : s < 4294967296) : st s < 4294967296 := by
  unfold st
  split
  · exact Nat.xor_lt_two_pow (n := 32) (by omega) (by omega)
  · omega
theorem st4_lt {s : Nat} (h : s < 4294967296) : st4 s < 4294967296 := st_lt (st_lt (st_lt (st_lt h)))
theorem st8_lt {s : Nat} (h : s < 4294967296) : st8 s < 4294967296 := st4_lt (st4_lt h)

theorem step_lt {s x : Nat} (h : s < 4294967296) (hx : x < 256) : st8 (s ^^^ x) < 4294967296 := st8_lt (Nat.xor_lt_two_pow (n := 32) h (by omega))
theorem crc_lt : ∀ (l : List Nat) {s : Nat}, s < 4294967296 → (∀ x ∈ l, x < 256) → crc s l < 4294967296
  | [], _, h, _ => h
  | x :: l, _, h, hs => crc_lt l (step_lt h (hs x (by simp))) (fun y hy => hs y (by simp [hy]))
theorem sum_lt {l : List Nat} (hs : ∀ x ∈ l, x < 256) : sum l < 4294967296 := Nat.xor_lt_two_pow (n := 32) (crc_lt l (by omega) hs) (by omega)
theorem crc_snoc (a : List Nat) (x s : Nat) : crc s (a ++ [x]) = st8 (crc s a ^^^ x) := by simp [crc]

def tab : List Nat := [0, 498536548, 997073096, 651767980, 1994146192, 1802195444, 1303535960, 1342533948, 3988292384, 4027552580, 3604390888, 3412177804, 2607071920, 2262029012, 2685067896, 3183342108]
theorem tab_is : ∀ n, n < 16 → tab.getD n 0 = st4 n := by decide
theorem tab_lt (n : Nat) (h : n < 16) : tab.getD n 0 < 4294967296 := by rw [tab_is n h]; exact st4_lt (by omega)
theorem st4_high (q : Nat) : st4 (16 * q) = q := by
  have h (k : Nat) : st (2 * k) = k := by unfold st; rw [if_neg (by omega)]; omega
  rw [show 16 * q = 2 * (2 * (2 * (2 * q))) by omega]
  simp only [st4, h]
theorem split16 (s : Nat) : s = 16 * (s / 16) ^^^ s % 16 := by
  have := Nat.two_pow_add_eq_or_of_lt (i := 4) (b := s % 16) (by omega) (s / 16)
  have e2 : s = 16 * (s / 16) + s % 16 := by omega
  apply Nat.eq_of_testBit_eq
  intro i
  rw [Nat.testBit_xor]
  by_cases hi : i < 4
  · have h1 : (16 * (s / 16)).testBit i = false := by rw [show 16 * (s / 16) = 2 ^ 4 * (s / 16) by omega, Nat.testBit_two_pow_mul]; simp; omega
    rw [h1, Bool.false_xor, show 16 = 2 ^ 4 by rfl, Nat.testBit_mod_two_pow]
    simp [hi]
  · have h1 : (s % 16).testBit i = false := Nat.testBit_lt_two_pow (Nat.lt_of_lt_of_le (Nat.mod_lt _ (by omega)) (by exact Nat.pow_le_pow_right (n := 2) (by omega) (show 4 ≤ i by omega)))
    rw [h1, Bool.xor_false, show 16 * (s / 16) = 2 ^ 4 * (s / 16) by omega, Nat.testBit_two_pow_mul, show s / 16 = s / 2 ^ 4 by rfl, Nat.testBit_div_two_pow]
    simp
    rw [show i - 4 + 4 = i by omega, decide_eq_true (show 4 ≤ i by omega), Bool.true_and]
theorem st4_half (s : Nat) : st4 s = s / 16 ^^^ tab.getD (s % 16) 0 := by
  have e := split16 s
  conv => lhs; rw [e, st4_xor, st4_high]
  rw [tab_is _ (by omega)]

def four (s : Nat) : List Nat := [s % 256, s / 256 % 256, s / 65536 % 256, s / 16777216 % 256]
theorem four_small (s : Nat) : ∀ x ∈ four s, x < 256 := by
  intro x hx
  simp [four] at hx
  omega
end Go.Proofs.YtdkiopajilakcaaGreatDoor
/- Envelopes as lists: seal, and what bytes begin with. -/
namespace Go.Proofs.YtdkiopajilakcaaGreatDoor

def high (l : List Nat) : Bool := decide (l.length ≤ 9) && l.all fun x => decide (128 ≤ x)

def cnt (l : List Nat) : Nat × Nat × Nat :=
  if (num l 0 0).2.1 = 0 ∧ high l = true then (0, 0, 3) else if (num l 0 0).2.1 = 0 ∨ 65536 < (num l 0 0).1 then (0, 0, 4) else ((num l 0 0).1, (num l 0 0).2.1, 0)

def bnd (l : List Nat) : Nat × Nat × Nat :=
  if l.length = 0 then (0, 0, 3) else if l.getD 0 0 ≠ 3 then (0, 0, 5) else
    if (cnt (l.drop 1)).2.2 ≠ 0 then (0, 0, (cnt (l.drop 1)).2.2) else
      if l.length < 1 + (cnt (l.drop 1)).2.1 + ((cnt (l.drop 1)).1 + 4) then (0, 0, 3) else (1 + (cnt (l.drop 1)).2.1, 1 + (cnt (l.drop 1)).2.1 + (cnt (l.drop 1)).1, 0)

def opn (l : List Nat) : List Nat × Nat × Nat :=
  if (bnd l).2.2 ≠ 0 then ([], 0, (bnd l).2.2) else
    if (l.drop (bnd l).2.1).take 4 ≠ four (sum (l.take (bnd l).2.1)) then ([], 0, 6) else ((l.drop (bnd l).1).take ((bnd l).2.1 - (bnd l).1), (bnd l).2.1 + 4, 0)

def sealP (l : List Nat) : List Nat := 3 :: (enc l.length ++ l)
def sealed (l : List Nat) : List Nat := if l.length > 65536 then [] else sealP l ++ four (sum (sealP l))

theorem cnt_fits (l : List Nat) : (cnt l).1 ≤ 65536 ∧ (cnt l).2.1 ≤ l.length ∧ (cnt l).2.2 ≤ 4 := by
  have h := (num_bound l 0 0).1
  unfold cnt
  split
  · exact ⟨by simp, by simp, by simp⟩
  · split
    · exact ⟨by simp, by simp, by simp⟩
    · rename_i h2
      refine ⟨by simp; omega, by simp; omega, by simp⟩
theorem bnd_fits (l : List Nat) (h : (bnd l).2.2 = 0) : 1 ≤ (bnd l).1 ∧ (bnd l).1 ≤ (bnd l).2.1 ∧ (bnd l).2.1 + 4 ≤ l.length := by
  unfold bnd at h ⊢
  split at h
  · simp at h
  · rename_i h1
    rw [if_neg h1]
    split at h
    · simp at h
    · rename_i h2
      rw [if_neg h2]
      split at h
      · rename_i h3
        exact absurd h h3
      · rename_i h3
        rw [if_neg h3]
        split at h
        · simp at h
        · rename_i h4
          rw [if_neg h4]
          exact ⟨Nat.le_add_right _ _, Nat.le_add_right _ _, by show 1 + (cnt (l.drop 1)).2.1 + (cnt (l.drop 1)).1 + 4 ≤ l.length; omega⟩

theorem sealP_small {l : List Nat} (h : ∀ x ∈ l, x < 256) : ∀ x ∈ sealP l, x < 256 := by
  intro x hx
  simp only [sealP, List.mem_cons, List.mem_append] at hx
  rcases hx with rfl | hx | hx
  · decide
  · exact enc_small _ x hx
  · exact h x hx
theorem sealed_small {l : List Nat} (h : ∀ x ∈ l, x < 256) : ∀ x ∈ sealed l, x < 256 := by
  intro x hx
  unfold sealed at hx
  split at hx
  · simp at hx
  · rcases List.mem_append.1 hx with hx | hx
    · exact sealP_small h x hx
    · exact four_small _ x hx
end Go.Proofs.YtdkiopajilakcaaGreatDoor
/- Good messages on data alone: they are small, their fields are fine, they come back from their fields. -/
namespace Go.Proofs.YtdkiopajilakcaaGreatDoor
open Go.RowKit

theorem may_i64 {x : Int} (h : mayB x = true) : I64 x := by
  unfold mayB at h
  simp only [Bool.and_eq_true, decide_eq_true_eq] at h
  unfold I64
  omega
theorem stepG_sm {s : StepD} (h : stepG s = true) : s.sm 16 := by
  unfold stepG at h
  simp only [Bool.and_eq_true, decide_eq_true_eq] at h
  exact ⟨h.1, may_i64 h.2.1.1, may_i64 h.2.1.2, may_i64 h.2.2⟩
theorem defG_sm {d : DefD} (h : defG d = true) : d.sm 16 := by
  unfold defG at h
  simp only [Bool.and_eq_true, decide_eq_true_eq, List.all_eq_true] at h
  exact ⟨h.1.1, by have := h.1.2; omega, fun s hs => stepG_sm (h.2 s hs)⟩
theorem StepD.sm.mono {k j : Nat} {s : StepD} (h : s.sm k) (hj : k ≤ j) : s.sm j := ⟨Nat.le_trans h.1 hj, h.2⟩
theorem DefD.sm.mono {k j : Nat} {d : DefD} (h : d.sm k) (hj : k ≤ j) : d.sm j := ⟨Nat.le_trans h.1 hj, Nat.le_trans h.2.1 hj, fun s hs => (h.2.2 s hs).mono hj⟩
theorem OpD.sm.mono {k j : Nat} {o : OpD} (h : o.sm k) (hj : k ≤ j) : o.sm j := ⟨h.1, h.2.1, h.2.2.1, h.2.2.2.1.mono hj, h.2.2.2.2⟩

end Go.Proofs.YtdkiopajilakcaaGreatDoor
/- The parts of a reply, of a command. -/
namespace Go.Proofs.YtdkiopajilakcaaGreatDoor
open Go.RowKit

end Go.Proofs.YtdkiopajilakcaaGreatDoor
/- The parts of a message. -/
namespace Go.Proofs.YtdkiopajilakcaaGreatDoor
open Go.RowKit

end Go.Proofs.YtdkiopajilakcaaGreatDoor
