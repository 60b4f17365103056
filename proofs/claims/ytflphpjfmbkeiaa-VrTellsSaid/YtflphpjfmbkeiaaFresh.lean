/- Fresh of package vr, and the document's: the messages of no elder incarnation. -/
import Derived.Test.YtflphpjfmbkeiaaStale
import Derived.Test.YtflphpjfmbkeiaaMsgV
import Derived.Test.YtflphpjfmbkeiaaCopy
import Derived.Test.YtflphpjfmbkeiaaLit
import Derived.Test.YtflphpjfmbkeiaaLitW
import Derived.Test.YtflphpjfmbkeiaaAppendAt
namespace Go.Proofs.Ytflphpjfmbkeiaa
open Go.RowKit

theorem Try.infoMsg : (Try.prog.info? 40).map (fun i => (i.zero, i.size, i.bytes)) = some (some (.agg zcells), 34, 304) := by kernel_rfl
/-- Those that are not stale. -/
def freshL (a : List Int) (l : List MsgD) : List MsgD := l.filter fun m => !staleB a m
/-- A row of messages of the call's own, their lists in other blocks. -/
structure MRow (w : World) (base : Nat) (v : Value) (ps : List MsgV) : Prop where
  own : w.ownsRow base 40 34 v ps.length (ps.flatMap MsgV.cells)
  lists : ∀ p ∈ ps, Lists (fun b => some b ≠ v.ownBlock) w p.m p.s p.o p.i
theorem MRow.nil (w : World) (base : Nat) : MRow w base (.slice none 0 0) [] := ⟨World.ownsRow_nil _ _ _ _, by simp⟩
theorem own_on {w w1 : World} {base e size n : Nat} {v : Value} {xs : List Value} (ho : w.ownsRow base e size v n xs) (hb : Below w.heap.size w w1) : w1.ownsRow base e size v n xs := by
  refine ⟨ho.1, ?_⟩
  rcases ho.2 with h | ⟨g, cap, cur, hv, h1, h2, h3⟩
  · exact .inl h
  · exact .inr ⟨g, cap, cur, hv, h1, (hb.block g (lt_of_block h2)).trans h2, h3⟩
theorem MRow.later {w w' : World} {base : Nat} {v : Value} {ps : List MsgV} (h : MRow w base v ps) (hl : Later w w') : MRow w' base v ps := ⟨own_on h.own hl, fun p hp => (h.lists p hp).kept (Kept.of_below hl _)⟩
theorem msgs_one {F : Nat → Prop} {w : World} {ps : List MsgV} (h : ∀ p ∈ ps, Lists F w p.m p.s p.o p.i) : ∀ u ∈ ps.flatMap MsgV.cells, u.oneCell' = true := by
  intro u hu
  obtain ⟨p, hp, hu⟩ := List.mem_flatMap.1 hu
  have hc := (h p hp).cell
  exact msg_one p hc.1 hc.2.1 hc.2.2 u hu
theorem MRow.msgs {w : World} {base : Nat} {v : Value} {ps : List MsgV} (h : MRow w base v ps) : MsgsIn (fun _ => True) w v ps := ⟨(FlatAt.of_own h.own (msgs_one h.lists)).mono (fun _ _ _ => trivial), fun p hp => (h.lists p hp).mono (fun _ _ _ => trivial)⟩
/-- With one message more. -/
theorem MRow.next {w1 w2 : World} {base : Nat} {v v2 : Value} {ps : List MsgV} {p : MsgV} {X : Obj} (h : MRow w1 base v ps) (hp : Lists (fun b => some b ≠ v.ownBlock) w1 p.m p.s p.o p.i)
    (ho : w2.ownsRow base 40 34 v2 (ps.length + 1) (ps.flatMap MsgV.cells ++ p.cells)) (hg : (w1.alloc X).grownBy w2 v.ownBlock) (hw : v2.ownBlock = v.ownBlock ∨ v2.ownBlock = some (w1.alloc X).heap.size) : MRow w2 base v2 (ps ++ [p]) := by
  have go : ∀ q : MsgV, Lists (fun b => some b ≠ v.ownBlock) w1 q.m q.s q.o q.i → Lists (fun b => some b ≠ v2.ownBlock) w2 q.m q.s q.o q.i := fun q hq => by
    have h1 := hq.kept (Kept.of_below (show Below w1.heap.size w1 (w1.alloc X) from (Below.refl _ _).alloc (Nat.le_refl _) _) _)
    have h2 := h1.mono (G := fun b => some b ≠ v.ownBlock ∧ some b ≠ v2.ownBlock) (fun i hi hf => ⟨hf, by
      rcases hw with hw | hw
      · rw [hw]; exact hf
      · rw [hw]; intro e; have := Option.some.inj e; omega⟩)
    exact (h2.kept (Kept.of_grown hg (fun g e h => h.1 e.symm))).mono (fun _ _ hf => hf.2)
  refine ⟨by simpa using ho, fun q hq => ?_⟩
  rcases List.mem_append.1 hq with hq | hq
  · exact go q (h.lists q hq)
  · obtain rfl : q = p := by simpa using hq
    exact go q hp
/-- What Fresh tells: a new row of those that are not stale. -/
def Freshed (a : List Int) (ps : List MsgV) (w : World) (e : Ending) (w' : World) : Prop :=
  ∃ v qs, e = .returned v ∧ MsgsIn (fun _ => True) w' v qs ∧ qs.map MsgV.m = freshL a (ps.map MsgV.m) ∧ Later w w'
theorem fresh_next {a : List Int} {ps : List MsgV} {q : Nat} {p : MsgV} (h : ps[q]? = some p) : freshL a ((ps.take (q + 1)).map MsgV.m) = freshL a ((ps.take q).map MsgV.m) ++ if staleB a p.m then [] else [p.m] := by
  rw [List.take_add_one, h]
  unfold freshL
  simp only [Option.toList_some, List.map_append, List.map_cons, List.map_nil, List.filter_append]
  cases hs : staleB a p.m <;> simp [hs]

set_option maxHeartbeats 4000000 in
set_option maxRecDepth 100000 in
theorem fresh_any {F G : Nat → Prop} {w : World} {v u : Value} {ps : List MsgV} {a : List Int} (h : MsgsIn F w v ps) (hu : SlI G w u a) (hn : ps.length ≤ 1000) (hw : ∀ p ∈ ps, p.m.lightN 200 ∧ p.m.incs.length ≤ 200 ∧ I64 p.m.src) :
    Calls Try.prog 10 #[v, u] w (Freshed a ps w) := by
  obtain ⟨i0, hi, hz0, hz1, hz2⟩ := info_parts Try.infoMsg
  obtain ⟨A, cap, rfl, _, _, _⟩ := FlatAt.shape h.1
  obtain ⟨n, hn1⟩ : ∃ n, ps.length = n := ⟨_, rfl⟩
  have HN := hide hn1
  have HW := hide hw
  have HU := hide hu
  rw [hn1] at h hn ⊢
  have HM := hide h
  clear h hw hu hn1
  go_enter Try.func10, Try.ntmps10
  go_wp2
  go_loopw [5, 10] (fun r0 j wr => ∃ (q : Nat) (qs : List MsgV) (r : Value), r = r0 ∧ q ≤ n ∧ j = .int .i64 (q : Int) ∧ MRow wr w.heap.size r qs ∧ qs.map MsgV.m = freshL a ((ps.take q).map MsgV.m) ∧ qs.length ≤ q ∧ Later w wr) (fun _ j _ => n - (Go.RowKit.intOf j).toNat)
  case atStart => exact ⟨0, [], _, rfl, by omega, rfl, MRow.nil _ _, rfl, Nat.le_refl _, Below.refl _ _⟩
  case round =>
    obtain ⟨q, qs, r, rfl, hq, rfl, hrow, heq, hql, hb⟩ := hrel
    have HR := hide hrow
    have HE := hide heq
    have HB := hide hb
    clear hrow heq hb
    by_cases hlt : q < n
    · obtain ⟨p, b, off, c', hx, hv, _, _, _, hr, hli⟩ := MsgsIn.at_ (MsgsIn.kept (by rw [← HN.out] at HM; exact HM.out) (Kept.of_below HB.out _)) (k := q) (by rw [HN.out]; exact hlt)
      obtain ⟨rfl, rfl⟩ : A = some ⟨b, off, none⟩ ∧ cap = c' := by injection hv with e1 _ e3; exact ⟨e1, e3⟩
      have HNX := hide (fresh_next (a := a) hx)
      have hwx := HW.out p (List.mem_of_getElem? hx)
      have HRG := hide hr
      obtain ⟨m, s, o, i⟩ := p
      obtain ⟨k1, k2, k3⟩ := hli.cell
      have HZ : Hid ((wr.alloc (.cells zcells 40 (0, 0))).heap[wr.heap.size]? = some (.cells zcells 40 (0, 0))) := heap_alloc_new _ _
      have HLI := hide hli
      have HWX := hide hwx
      have CS := hide (fun w' (hl : Later wr w') => stale_any (s := s) (o := o) (i := i) (HU.out.kept (Kept.of_below (HB.out.trans hl) _)) (hli.kept (Kept.of_below hl _)).2.2 hwx.2.2)
      clear hx hv hr hli hwx
      obtain ⟨t, ht⟩ : ∃ t, staleB a m = t := ⟨_, rfl⟩
      simp only [ht] at CS
      have HT := hide ht
      clear ht
      go_wp2_with (first
        | (refine wpList_load_mid (by rfl) 40 _ (by rfl) b (off + q * 34) (by rfl) _ _ HRG.out Try.underlying40 (by rfl) (by kernel_rfl) ?_)
        | (refine wpList_store_box (by rfl) 40 _ _ (by rfl) (wr.heap.size) 0 ((m.cells s o i).toArray) (by rfl) (by rfl) 40 (zcells) (HZ.out) (by kernel_rfl) (by exact Nat.le_of_ble_eq_true rfl) (by exact m.one k1 k2 k3) ?_; intro w2 hb2 hg2; rw [put_zmsg] at hb2)
        | (refine wpList_load_box (by rfl) 40 _ (by rfl) (wr.heap.size) 0 (by rfl) 40 _ (hb2) 34 _ Try.underlying40 (by rfl) (by kernel_rfl) (m.cells s o i) (by rfl) (by rfl) ?_))
      have hB2 : Later wr w2 := ((Below.refl _ _).alloc (Nat.le_refl _) _).grown hg2 (by simp) (fun k hk => by have := Option.some.inj hk; omega)
      refine (CS.out w2 hB2).mono ?_
      rintro e w3 ⟨rfl, hl3⟩
      have HX3 := hide ((Below.block hl3 _ (lt_of_block hb2)).trans hb2)
      have L3 : Hid (Later wr w3) := hB2.trans hl3
      clear hb2 hg2 hB2 hl3 CS
      cases t with
      | true =>
        go_wp2
        go_roundw
        case rel => exact ⟨q + 1, qs, _, rfl, by omega, by go_num, HR.out.later L3.out, by rw [HE.out, HNX.out, show staleB a (MsgV.m ⟨m, s, o, i⟩) = true from HT.out]; simp, by omega, HB.out.trans L3.out⟩
        case measure => simp [Go.RowKit.intOf]; omega
      | false =>
        have CC := hide (copy_any F m (.agg (m.cells s o i).toArray) w3 ⟨s, o, i, rfl, HLI.out.kept (Kept.of_below L3.out _)⟩ HWX.out.1 (by have := HWX.out.2.1; omega))
        go_wp2_with (refine wpList_load_box (by rfl) 40 _ (by rfl) (wr.heap.size) 0 (by rfl) 40 _ (HX3.out) 34 _ Try.underlying40 (by rfl) (by kernel_rfl) (m.cells s o i) (by rfl) (by rfl) ?_)
        refine CC.out.mono ?_
        rintro e w4 ⟨v4, rfl, ⟨s4, o4, i4, rfl, hl4⟩, hb4⟩
        have L4 : Hid (Later wr w4) := L3.out.trans hb4
        have HR4 := hide (HR.out.later L4.out)
        have HL4 : Hid (Lists (fun b => some b ≠ r.ownBlock) w4 m s4 o4 i4) := hl4.mono (fun b _ hf hb => by have h1 := (HR.out.own.lt b hb.symm).2; have h2 := Below.size L3.out; omega)
        have HO := hide (HR4.out.own.alloc (.cells (m.cells s4 o4 i4).toArray 40 (0, 0)))
        obtain ⟨j1, j2, j3⟩ := hl4.cell
        have hsz : w.heap.size ≤ w4.heap.size := Below.size (HB.out.trans L4.out)
        clear hl4 hb4 CC
        go_wp2_with (first
          | (refine wpList_buildSlice_one (by rfl) 23 40 _ (by rfl) i0 _ 34 Try.underlying23 hi hz0 hz1 (by decide) (by decide) ((m.cells s4 o4 i4).toArray) (by rfl) (by rfl) ?_)
          | (at_builtin; refine wpList_append_flat_to (by rfl) _ _ 23 (by rfl) w.heap.size 40 i0 _ 34 304 Try.underlying23 hi hz0 hz1 hz2 (by rfl) (by decide) r qs.length (qs.flatMap MsgV.cells) (by rfl) HO.out w4.heap.size 1 1 (m.cells s4 o4 i4) (by rfl) (fun _ => True) (flat_one w4 40 34 (m.cells s4 o4 i4).toArray (by rfl) (by exact m.one j1 j2 j3) (fun _ => True) trivial) (by decide) (by unfold maxLen; omega) (by omega) (by simp; omega) ?_; intro v5 w5 o5 g5 e5))
        have R5 := hide (MRow.next (p := ⟨m, s4, o4, i4⟩) HR4.out HL4.out o5 g5 e5)
        have L5 : Hid (Later w w5) := Below.grown (Below.alloc (HB.out.trans L4.out) hsz _) g5 (by simp; omega) (fun k hk => (HR.out.own.lt k hk).1)
        clear o5 g5 e5
        go_wp2
        go_roundw
        case rel => exact ⟨q + 1, qs ++ [⟨m, s4, o4, i4⟩], _, rfl, by omega, by go_num, R5.out, by rw [List.map_append, HE.out, HNX.out, show staleB a (MsgV.m ⟨m, s, o, i⟩) = false from HT.out]; simp, by simp; omega, L5.out⟩
        case measure => simp [Go.RowKit.intOf]; omega
    · obtain rfl : q = n := by omega
      have hall : qs.map MsgV.m = freshL a (ps.map MsgV.m) := by rw [HE.out, List.take_of_length_le (by have := HN.out; omega)]
      have HALL := hide hall
      clear hall
      go_wp2
      go_ret
      exact ⟨_, qs, rfl, HR.out.msgs, HALL.out, HB.out⟩
end Go.Proofs.Ytflphpjfmbkeiaa
