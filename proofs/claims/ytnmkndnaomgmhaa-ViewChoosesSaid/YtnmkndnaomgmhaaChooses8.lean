/- The walk over droverlaw08.ViewChooses: whose log goes on, of any messages. -/
import Derived.Test.YtnmkndnaomgmhaaPickR
import Derived.Test.YtnmkndnaomgmhaaWeighN
import Derived.Test.YtnmkndnaomgmhaaNext
namespace Go.Proofs.Ytnmkndnaomgmhaa
open Go.RowKit

set_option maxHeartbeats 4000000 in
set_option maxRecDepth 100000 in
theorem law_chooses (v : Value) (ps : List MsgV) (w : World) (h : MsgsIn (· < w.heap.size) w v ps) (hw : ∀ p ∈ ps, p.m.wf) :
    Calls Try.prog 5 #[v] w fun e w' => e = .returned (.bool true) ∧ Below w.heap.size w w' := by
  have LV := hide lives_any
  obtain ⟨A, cap, rfl, h1, h2, _⟩ := FlatAt.shape h.1
  unfold maxLen at h2
  have H := hide h
  have HW := hide hw
  clear h hw
  by_cases hlong : 60 < ps.length
  · go_enter Try.func5, Try.ntmps5
    go_wp2_with (fail)
    refine (LV.out _).mono ?_
    rintro e w2 ⟨rfl, hq⟩
    obtain rfl := hq.symm
    go_wp2
    go_ret
    exact ⟨rfl, Below.refl _ _⟩
  · go_enter Try.func5, Try.ntmps5
    go_wp2
    go_loopw [15] (fun j wr => ∃ k : Nat, k ≤ ps.length ∧ j = .int .i64 (k : Int) ∧ Below w.heap.size w wr) (fun j _ => ps.length - (Go.RowKit.intOf j).toNat)
    case atStart => exact ⟨0, by omega, rfl, Below.refl _ _⟩
    case round =>
      obtain ⟨k, hk, rfl, hb⟩ := hrel
      have HB := hide hb
      clear hb
      by_cases hkn : k < ps.length
      · obtain ⟨p, b, off, c', hx, hv, _, _, _, hr, hli⟩ := MsgsIn.at_ (H.out.kept (Kept.of_below HB.out _)) (k := k) hkn
        obtain ⟨rfl, rfl⟩ : A = some ⟨b, off, none⟩ ∧ cap = c' := by injection hv with e1 _ e3; exact ⟨e1, e3⟩
        have hwx := HW.out p (List.mem_of_getElem? hx)
        have HR := hide hr
        obtain ⟨m, s, o, i⟩ := p
        obtain ⟨k1, k2, k3⟩ := hli.cell
        have HZ : Hid ((wr.alloc (.cells zcells 52 (0, 0))).heap[wr.heap.size]? = some (.cells zcells 52 (0, 0))) := heap_alloc_new _ _
        have C := hide (fun w' (hb : Below wr.heap.size wr w') => stepsn_any 200 (by decide) (by decide) _ m s o i w' hwx (hli.kept (Kept.of_below hb _)))
        clear hx hv hr hli hwx
        go_wp2_with (first
          | (refine wpList_load_mid (by rfl) 52 _ (by rfl) b (off + k * 34) (by rfl) _ _ HR.out Try.underlying52 (by rfl) (by kernel_rfl) ?_)
          | (refine wpList_store_box (by rfl) 52 _ _ (by rfl) (wr.heap.size) 0 ((m.cells s o i).toArray) (by rfl) (by rfl) 52 (zcells) (HZ.out) (by kernel_rfl) (by exact Nat.le_of_ble_eq_true rfl) (by exact m.one k1 k2 k3) ?_; intro w2 hb2 hg2; rw [put_zmsg] at hb2)
          | (refine wpList_load_box (by rfl) 52 _ (by rfl) (wr.heap.size) 0 (by rfl) 52 _ (hb2) 34 _ Try.underlying52 (by rfl) (by kernel_rfl) (m.cells s o i) (by rfl) (by rfl) ?_))
        have hB2 : Below wr.heap.size wr w2 := ((Below.refl _ _).alloc (Nat.le_refl _) _).grown hg2 (by simp) (fun k hk => by have := Option.some.inj hk; omega)
        refine (C.out w2 hB2).mono ?_
        rintro e w3 ⟨q, rfl, _, hb3⟩
        have HB3 : Hid (Below w.heap.size w w3) := HB.out.trans ((hB2.trans (Below.mono hb3 hB2.size)).mono HB.out.size)
        clear hb2 hg2 hB2 hb3 C
        by_cases hq1 : 200 < q
        · go_wp2_with (fail)
          refine (LV.out _).mono ?_
          rintro e w4 ⟨rfl, hq⟩
          obtain rfl := hq.symm
          go_wp2
          go_ret
          exact ⟨rfl, HB3.out⟩
        · have hq2 : decide (200 < q) = false := by simpa using hq1
          go_wp2
          go_roundw
          case rel => exact ⟨k + 1, by omega, by go_num, HB3.out⟩
          case measure => simp [Go.RowKit.intOf]; omega
      · obtain rfl : k = ps.length := by omega
        have hf : decide (ps.length < ps.length) = false := by simp
        have HH : Hid (MsgsIn (· < wr.heap.size) wr (.slice A ps.length cap) ps) := ⟨(H.out.kept (Kept.of_below HB.out _)).1.mono (fun i hi _ => hi), fun p hp => ((H.out.kept (Kept.of_below HB.out _)).2 p hp).mono (fun i hi _ => hi)⟩
        have C1 := hide (choose_any HH.out rfl)
        have C2 : Hid (∀ w2, Below wr.heap.size wr w2 → Calls Try.prog 32 #[.slice A ps.length cap] w2 fun e w' => e = .returned (.tuple #[.int .i64 (bestN (pickUp ps ps.length)), .bool (pickUp ps ps.length).isSome]) ∧ Below w2.heap.size w2 w') := fun w2 hb => refchoose_any (w := w2) ⟨(HH.out.kept (Kept.of_below hb _)).1.mono (fun i hi _ => hi), fun p hp => ((HH.out.kept (Kept.of_below hb _)).2 p hp).mono (fun i hi _ => hi)⟩ rfl
        obtain ⟨y1, hy1⟩ : ∃ y, y = bestN (pickUp ps ps.length) := ⟨_, rfl⟩
        obtain ⟨y2, hy2⟩ : ∃ y, y = (pickUp ps ps.length).isSome := ⟨_, rfl⟩
        rw [← hy1, ← hy2] at C1
        simp only [← hy1, ← hy2] at C2
        clear hy1 hy2
        go_wp2_with (fail)
        refine C1.out.mono ?_
        rintro e w2 ⟨rfl, hb2⟩
        have B2 := hide hb2
        clear hb2
        go_wp2_with (fail)
        refine (C2.out _ B2.out).mono ?_
        rintro e w3 ⟨rfl, hb3⟩
        have B3 : Hid (Below w.heap.size w w3) := HB.out.trans ((B2.out.trans (hb3.mono B2.out.size)).mono HB.out.size)
        clear hb3
        go_wp2_with (fail)
        refine (LV.out _).mono ?_
        rintro e w4 ⟨rfl, hq⟩
        obtain rfl := hq.symm
        go_wp2
        go_ret
        exact ⟨rfl, B3.out⟩
end Go.Proofs.Ytnmkndnaomgmhaa
