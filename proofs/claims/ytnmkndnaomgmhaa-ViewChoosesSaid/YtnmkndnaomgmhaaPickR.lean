/- Whose log goes on: the document's Choose. -/
import Derived.Test.YtnmkndnaomgmhaaPick8
import Derived.Deep.QuietTactic
import Derived.BigQuiet
namespace Go.Proofs.Ytnmkndnaomgmhaa
open Go.RowKit

theorem box_at {w : World} {g : Nat} {cs : List Value} {t : TypeId} (h : w.heap[g]? = some (.cells cs.toArray t (0, 0))) (k : Nat) (v : Value) (hk : cs[k]? = some v) : w.cell? ⟨g, k, none⟩ = some v := by
  rw [cell_of_row w g k _ _ _ h]
  simpa using hk

set_option maxHeartbeats 8000000 in
set_option maxRecDepth 100000 in
theorem refchoose_any {w : World} {A : Option Addr} {len cap : Nat} {ps : List MsgV} (h : MsgsIn (· < w.heap.size) w (.slice A len cap) ps) (hlen : len = ps.length) :
    Calls Try.prog 32 #[.slice A len cap] w fun e w' => e = .returned (.tuple #[.int .i64 (bestN (pickUp ps ps.length)), .bool (pickUp ps ps.length).isSome]) ∧ Below w.heap.size w w' := by
  subst hlen
  have H := hide h
  obtain ⟨_, _, _, hx1, hx2, _⟩ := FlatAt.shape h.1
  have hmx : ps.length ≤ 9223372036854775807 := by unfold maxLen at hx2; omega
  clear h hx1 hx2
  go_enter Try.func32, Try.ntmps32
  go_wp2
  go_loopw [4, 9] (fun v j wr => ∃ k : Nat, k ≤ ps.length ∧ j = .int .i64 (k : Int) ∧ v = .int .i64 (bestR (pickUp ps k)) ∧ Below w.heap.size w wr) (fun _ j _ => ps.length - (Go.RowKit.intOf j).toNat)
  case atStart => exact ⟨0, by omega, rfl, rfl, Below.refl _ _⟩
  case round =>
    obtain ⟨k, hk, rfl, rfl, hb⟩ := hrel
    have HB := hide hb
    clear hb
    by_cases hkn : k < ps.length
    · obtain ⟨p, b, off, c', hx, hv, _, hbf, hbl, hr, hli⟩ := MsgsIn.at_ (H.out.kept (Kept.of_below HB.out _)) (k := k) hkn
      obtain ⟨rfl, rfl⟩ : A = some ⟨b, off, none⟩ ∧ cap = c' := by injection hv with e1 _ e3; exact ⟨e1, e3⟩
      have HR := hide hr
      have HP := hide hx
      obtain ⟨m, s, o, i⟩ := p
      obtain ⟨k1, k2, k3⟩ := hli.cell
      obtain ⟨o1, c1, rfl⟩ : ∃ o1 c1, o = .slice o1 m.ops.length c1 := by
        obtain ⟨qs, hq, ho⟩ := hli.2.1
        obtain ⟨o1, c1, he, _, _, _⟩ := FlatAt.shape ho.1
        have hl : qs.length = m.ops.length := by have h1 := congrArg List.length hq; rw [List.length_map] at h1; exact h1
        exact ⟨o1, c1, by rw [← hl]; exact he⟩
      have HBL := hide hbl
      have HBF := hide hbf
      have HZ : Hid ((wr.alloc (.cells zcells 52 (0, 0))).heap[wr.heap.size]? = some (.cells zcells 52 (0, 0))) := heap_alloc_new _ _
      clear hx hv hr hli hbf hbl
      by_cases h7 : m.kind = 7
      · have t7 : (m.kind != 7) = false := by simp [h7]
        have HK : Hid (m.kind = 7) := h7
        clear h7
        rcases hpk : pickUp ps k with _ | bb
        · have HN := hide (pick_first HP.out HK.out hpk)
          clear hpk
          rw [show bestR none = -1 from rfl]
          go_wp2_with (first
            | (refine wpList_load_mid (by rfl) 52 _ (by rfl) b (off + k * 34) (by rfl) _ _ HR.out Try.underlying52 (by rfl) (by kernel_rfl) ?_)
            | (refine wpList_store_box (by rfl) 52 _ _ (by rfl) (wr.heap.size) 0 ((m.cells s (.slice o1 m.ops.length c1) i).toArray) (by rfl) (by rfl) 52 (zcells) (HZ.out) (by kernel_rfl) (by exact Nat.le_of_ble_eq_true rfl) (by exact m.one k1 k2 k3) ?_; intro w2 hb2 hg2; rw [put_zmsg] at hb2; have f0 := box_at hb2 0 (.int .i64 m.kind) (by rfl)))
          have HB2 := hide hb2
          have LB2 : Hid (Below wr.heap.size wr w2) := ((Below.refl _ _).alloc (Nat.le_refl _) _).grown hg2 (by simp) (fun k hk => by have := Option.some.inj hk; omega)
          have BW2 : Hid (Below w.heap.size w w2) := HB.out.trans (LB2.out.mono HB.out.size)
          clear hb2 hg2 f0
          go_quiet (fail)
          go_wp2
          go_roundw
          case rel => exact ⟨k + 1, by omega, by go_num, by rw [HN.out]; rfl, BW2.out.trans (below_drewN _ _ _)⟩
          case measure => simp [Go.RowKit.intOf]; omega
        · have hbk : bb < k := pick_lt hpk
          obtain ⟨p2, b2, off2, o2, c2, hp2, hA2, _, _, _, _, q4, q32, _⟩ := (H.out.kept (Kept.of_below HB.out _)).look (k := bb) (by omega)
          obtain ⟨rfl, rfl⟩ : b = b2 ∧ off = off2 := by injection hA2 with e; injection e with e1 e2; exact ⟨e1, e2⟩
          have HN := hide (pick_next HP.out HK.out hpk hp2)
          have HQ : Hid (LookAt wr b off bb p2.m.last o2 p2.m.ops.length c2) := ⟨q4, q32⟩
          obtain ⟨l2, hl2⟩ : ∃ x, x = p2.m.last := ⟨_, rfl⟩
          obtain ⟨n2, hn2⟩ : ∃ x, x = p2.m.ops.length := ⟨_, rfl⟩
          rw [← hl2, ← hn2] at HN HQ
          have hd0 : decide ((bb : Int) < 0) = false := by simp
          clear hpk hp2 q4 q32 hA2 hl2 hn2
          rw [show bestR (some bb) = (bb : Int) from rfl]
          by_cases hlt : l2 < m.last
          · have HBT : Hid (betterB m.last m.ops.length l2 n2 = true) := by show _ = _; simp [betterB, hlt]
            have d1 : decide (l2 < m.last) = true := by simpa using hlt
            clear hlt
            go_wp2_with (first
              | (refine wpList_load_mid (by rfl) 52 _ (by rfl) b (off + k * 34) (by rfl) _ _ HR.out Try.underlying52 (by rfl) (by kernel_rfl) ?_)
              | (refine wpList_store_box (by rfl) 52 _ _ (by rfl) (wr.heap.size) 0 ((m.cells s (.slice o1 m.ops.length c1) i).toArray) (by rfl) (by rfl) 52 (zcells) (HZ.out) (by kernel_rfl) (by exact Nat.le_of_ble_eq_true rfl) (by exact m.one k1 k2 k3) ?_; intro w2 hb2 hg2; rw [put_zmsg] at hb2; have f0 := box_at hb2 0 (.int .i64 m.kind) (by rfl)))
            have HB2 := hide hb2
            have LB2 : Hid (Below wr.heap.size wr w2) := ((Below.refl _ _).alloc (Nat.le_refl _) _).grown hg2 (by simp) (fun k hk => by have := Option.some.inj hk; omega)
            have BW2 : Hid (Below w.heap.size w w2) := HB.out.trans (LB2.out.mono HB.out.size)
            clear hb2 hg2 f0
            have f4 := box_at HB2.out 4 (.int .i64 m.last) (by rfl)
            have f32 := box_at HB2.out 32 (.slice o1 m.ops.length c1) (by rfl)
            obtain ⟨g4, g32⟩ : LookAt w2 b off bb l2 o2 n2 c2 := look_kept HQ.out LB2.out HBL.out
            go_quiet (fail)
            go_wp2
            go_roundw
            case rel => exact ⟨k + 1, by omega, by go_num, by rw [HN.out, HBT.out]; rfl, BW2.out.trans (below_drewN _ _ _)⟩
            case measure => simp [Go.RowKit.intOf]; omega
          · have d1 : decide (l2 < m.last) = false := by simpa using hlt
            by_cases heq : m.last = l2
            · have d2 : (m.last == l2) = true := by simpa using heq
              by_cases hn : n2 < m.ops.length
              · have HBT : Hid (betterB m.last m.ops.length l2 n2 = true) := by show _ = _; simp [betterB, heq, hn]
                have d3 : decide (n2 < m.ops.length) = true := by simpa using hn
                clear hlt heq hn
                go_wp2_with (first
                  | (refine wpList_load_mid (by rfl) 52 _ (by rfl) b (off + k * 34) (by rfl) _ _ HR.out Try.underlying52 (by rfl) (by kernel_rfl) ?_)
                  | (refine wpList_store_box (by rfl) 52 _ _ (by rfl) (wr.heap.size) 0 ((m.cells s (.slice o1 m.ops.length c1) i).toArray) (by rfl) (by rfl) 52 (zcells) (HZ.out) (by kernel_rfl) (by exact Nat.le_of_ble_eq_true rfl) (by exact m.one k1 k2 k3) ?_; intro w2 hb2 hg2; rw [put_zmsg] at hb2; have f0 := box_at hb2 0 (.int .i64 m.kind) (by rfl)))
                have HB2 := hide hb2
                have LB2 : Hid (Below wr.heap.size wr w2) := ((Below.refl _ _).alloc (Nat.le_refl _) _).grown hg2 (by simp) (fun k hk => by have := Option.some.inj hk; omega)
                have BW2 : Hid (Below w.heap.size w w2) := HB.out.trans (LB2.out.mono HB.out.size)
                clear hb2 hg2 f0
                have f4 := box_at HB2.out 4 (.int .i64 m.last) (by rfl)
                have f32 := box_at HB2.out 32 (.slice o1 m.ops.length c1) (by rfl)
                obtain ⟨g4, g32⟩ : LookAt w2 b off bb l2 o2 n2 c2 := look_kept HQ.out LB2.out HBL.out
                go_quiet (fail)
                go_wp2
                go_roundw
                case rel => exact ⟨k + 1, by omega, by go_num, by rw [HN.out, HBT.out]; rfl, BW2.out.trans (below_drewN _ _ _)⟩
                case measure => simp [Go.RowKit.intOf]; omega
              · have HBT : Hid (betterB m.last m.ops.length l2 n2 = false) := by show _ = _; simp [betterB, heq, hn]
                have d3 : decide (n2 < m.ops.length) = false := by simpa using hn
                clear hlt heq hn
                go_wp2_with (first
                  | (refine wpList_load_mid (by rfl) 52 _ (by rfl) b (off + k * 34) (by rfl) _ _ HR.out Try.underlying52 (by rfl) (by kernel_rfl) ?_)
                  | (refine wpList_store_box (by rfl) 52 _ _ (by rfl) (wr.heap.size) 0 ((m.cells s (.slice o1 m.ops.length c1) i).toArray) (by rfl) (by rfl) 52 (zcells) (HZ.out) (by kernel_rfl) (by exact Nat.le_of_ble_eq_true rfl) (by exact m.one k1 k2 k3) ?_; intro w2 hb2 hg2; rw [put_zmsg] at hb2; have f0 := box_at hb2 0 (.int .i64 m.kind) (by rfl)))
                have HB2 := hide hb2
                have LB2 : Hid (Below wr.heap.size wr w2) := ((Below.refl _ _).alloc (Nat.le_refl _) _).grown hg2 (by simp) (fun k hk => by have := Option.some.inj hk; omega)
                have BW2 : Hid (Below w.heap.size w w2) := HB.out.trans (LB2.out.mono HB.out.size)
                clear hb2 hg2 f0
                have f4 := box_at HB2.out 4 (.int .i64 m.last) (by rfl)
                have f32 := box_at HB2.out 32 (.slice o1 m.ops.length c1) (by rfl)
                obtain ⟨g4, g32⟩ : LookAt w2 b off bb l2 o2 n2 c2 := look_kept HQ.out LB2.out HBL.out
                go_quiet (fail)
                go_wp2
                go_roundw
                case rel => exact ⟨k + 1, by omega, by go_num, by rw [HN.out, HBT.out]; rfl, BW2.out.trans (below_drewN _ _ _)⟩
                case measure => simp [Go.RowKit.intOf]; omega
            · have HBT : Hid (betterB m.last m.ops.length l2 n2 = false) := by show _ = _; simp [betterB, heq, hlt]
              have d2 : (m.last == l2) = false := by simpa using heq
              clear hlt heq
              go_wp2_with (first
                | (refine wpList_load_mid (by rfl) 52 _ (by rfl) b (off + k * 34) (by rfl) _ _ HR.out Try.underlying52 (by rfl) (by kernel_rfl) ?_)
                | (refine wpList_store_box (by rfl) 52 _ _ (by rfl) (wr.heap.size) 0 ((m.cells s (.slice o1 m.ops.length c1) i).toArray) (by rfl) (by rfl) 52 (zcells) (HZ.out) (by kernel_rfl) (by exact Nat.le_of_ble_eq_true rfl) (by exact m.one k1 k2 k3) ?_; intro w2 hb2 hg2; rw [put_zmsg] at hb2; have f0 := box_at hb2 0 (.int .i64 m.kind) (by rfl)))
              have HB2 := hide hb2
              have LB2 : Hid (Below wr.heap.size wr w2) := ((Below.refl _ _).alloc (Nat.le_refl _) _).grown hg2 (by simp) (fun k hk => by have := Option.some.inj hk; omega)
              have BW2 : Hid (Below w.heap.size w w2) := HB.out.trans (LB2.out.mono HB.out.size)
              clear hb2 hg2 f0
              have f4 := box_at HB2.out 4 (.int .i64 m.last) (by rfl)
              have f32 := box_at HB2.out 32 (.slice o1 m.ops.length c1) (by rfl)
              obtain ⟨g4, g32⟩ : LookAt w2 b off bb l2 o2 n2 c2 := look_kept HQ.out LB2.out HBL.out
              go_quiet (fail)
              go_wp2
              go_roundw
              case rel => exact ⟨k + 1, by omega, by go_num, by rw [HN.out, HBT.out]; rfl, BW2.out.trans (below_drewN _ _ _)⟩
              case measure => simp [Go.RowKit.intOf]; omega
      · have t7 : (m.kind != 7) = true := by simpa using h7
        have HN := hide (pick_other HP.out h7)
        clear h7
        go_wp2_with (first
          | (refine wpList_load_mid (by rfl) 52 _ (by rfl) b (off + k * 34) (by rfl) _ _ HR.out Try.underlying52 (by rfl) (by kernel_rfl) ?_)
          | (refine wpList_store_box (by rfl) 52 _ _ (by rfl) (wr.heap.size) 0 ((m.cells s (.slice o1 m.ops.length c1) i).toArray) (by rfl) (by rfl) 52 (zcells) (HZ.out) (by kernel_rfl) (by exact Nat.le_of_ble_eq_true rfl) (by exact m.one k1 k2 k3) ?_; intro w2 hb2 hg2; rw [put_zmsg] at hb2; have f0 := box_at hb2 0 (.int .i64 m.kind) (by rfl)))
        have HB2 := hide hb2
        have LB2 : Hid (Below wr.heap.size wr w2) := ((Below.refl _ _).alloc (Nat.le_refl _) _).grown hg2 (by simp) (fun k hk => by have := Option.some.inj hk; omega)
        have BW2 : Hid (Below w.heap.size w w2) := HB.out.trans (LB2.out.mono HB.out.size)
        clear hb2 hg2 f0
        go_roundw
        case rel => exact ⟨k + 1, by omega, by go_num, by rw [HN.out], BW2.out⟩
        case measure => simp [Go.RowKit.intOf]; omega
    · obtain rfl : k = ps.length := by omega
      have hf : decide (ps.length < ps.length) = false := by simp
      rcases hpk : pickUp ps ps.length with _ | bb
      · rw [show bestR none = -1 from rfl]
        have HPK := hide hpk
        clear hpk
        go_wp2
        go_ret2
        exact ⟨by rw [HPK.out]; rfl, HB.out⟩
      · have hd0 : decide ((bb : Int) < 0) = false := by simp
        rw [show bestR (some bb) = (bb : Int) from rfl]
        have HPK := hide hpk
        clear hpk
        go_wp2
        go_ret2
        exact ⟨by rw [HPK.out]; rfl, HB.out⟩
end Go.Proofs.Ytnmkndnaomgmhaa
