/- The walk over Merge of package vr. -/
import Derived.Test.YtflphpjfmbkeiaaMergeM
import Derived.Test.YtflphpjfmbkeiaaCloneI
import Derived.Test.YtflphpjfmbkeiaaCopyOp
import Derived.Lib.MinMax
namespace Go.Proofs.Ytflphpjfmbkeiaa
open Go.RowKit

set_option maxHeartbeats 2000000 in
set_option maxRecDepth 100000 in
theorem merge_any {F G : Nat → Prop} {w : World} {u v : Value} {a b : List Int} (ha : SlI F w u a) (hb : SlI G w v b) (hn : a.length ≤ 1000000) :
    Calls Try.prog 16 #[u, v] w (NewInts w (mergeL a b)) := by
  have C := hide (clone_ints F u a.length _ w ha.1 hn)
  obtain ⟨A, c, rfl, h1, h2⟩ := ha.shape
  obtain ⟨A2, c2, rfl, h3, h4⟩ := hb.shape
  have HA := hide ha.2
  have HBF := hide hb.2
  have HB := hide hb
  have h5 : b.length ≤ maxLen := by omega
  unfold maxLen at h5
  obtain ⟨m, hm⟩ : ∃ m, b.length = m := ⟨_, rfl⟩
  obtain ⟨n, hn2⟩ : ∃ n, a.length = n := ⟨_, rfl⟩
  have HM := hide hm
  have HN := hide hn2
  rw [hm] at HB h5 ⊢
  rw [hn2] at C hn ⊢
  clear ha hb h1 h2 h3 h4 hm hn2
  go_enter Try.func16, Try.ntmps16
  go_wp2_with (fail)
  refine C.out.mono ?_
  rintro e w1 ⟨r, rfl, hown, hbl⟩
  have hown' : w1.ownsRow w.heap.size 3 1 r n (ivs (mergeUp a b 0)) := by rw [merge_zero]; exact hown
  obtain ⟨AR, cR, rfl, hnc⟩ : ∃ A c, r = .slice A n c ∧ n ≤ c := own_slice hown
  have HO := hide hown'
  have HL := hide hbl
  clear hown hown' hbl C
  go_wp2
  go_loopw [13] (fun j wr => ∃ k : Nat, k ≤ n ∧ j = .int .i64 (k : Int) ∧ wr.ownsRow w.heap.size 3 1 (.slice AR n cR) n (ivs (mergeUp a b k)) ∧ Below w.heap.size w wr) (fun j _ => n - (Go.RowKit.intOf j).toNat)
  case atStart => exact ⟨0, by omega, rfl, HO.out, HL.out⟩
  case round =>
    obtain ⟨k, hk, rfl, hown, hbw⟩ := hrel
    have HW := hide hown
    have HB2 := hide hbw
    clear hown hbw
    by_cases hkn : k < n
    · obtain ⟨g, c9, hv, hg, hlt, _, _⟩ := iown_at HW.out (by omega)
      obtain ⟨rfl, rfl⟩ : AR = some ⟨g, 0, none⟩ ∧ cR = c9 := by injection hv with e1 _ e3; exact ⟨e1, e3⟩
      have hc := iown_cell HW.out hkn
      have hf := iown_free HW.out k
      rw [merge_get a b (by rw [HN.out]; exact hkn), if_neg (by omega)] at hc
      have HS := hide (merge_set a b k)
      have HD := hide (HB.out.kept (Kept.of_below HB2.out G))
      obtain ⟨x, hx⟩ : ∃ x, a.getD k 0 = x := ⟨_, rfl⟩
      rw [hx] at hc HS
      clear hv hx
      by_cases hkm : k < m
      · obtain ⟨b2, off2, rfl, _, hc2⟩ := HD.out.cell (i := k) hkm
        obtain ⟨y, hy⟩ : ∃ y, b.getD k 0 = y := ⟨_, rfl⟩
        rw [hy] at hc2 HS
        clear hy
        go_wp2
        go_roundw
        case rel =>
          have h := iown_set HW.out k (max x y)
          refine ⟨k + 1, by omega, by go_num, ?_, HB2.out.grown h.2 HB2.out.size (fun j hj => by have := Option.some.inj hj; omega)⟩
          rw [← HS.out]
          exact h.1
        case measure => simp [Go.RowKit.intOf]; omega
      · have hy : b.getD k 0 = 0 := by
          have h1 := HM.out
          simp [List.getD, List.getElem?_eq_none (show b.length ≤ k by omega)]
        rw [hy] at HS
        clear hy
        go_wp2
        go_roundw
        case rel =>
          have h := iown_set HW.out k (max x 0)
          refine ⟨k + 1, by omega, by go_num, ?_, HB2.out.grown h.2 HB2.out.size (fun j hj => by have := Option.some.inj hj; omega)⟩
          rw [← HS.out]
          exact h.1
        case measure => simp [Go.RowKit.intOf]; omega
    · obtain rfl : k = n := by omega
      go_wp2
      go_ret
      have h1 := HW.out
      rw [show mergeUp a b k = mergeL a b from by rw [mergeL, HN.out]] at h1
      obtain ⟨A', c', hv, hnc', _, hh⟩ := IHolds.of_own h1 (merge_fit HA.out HBF.out _)
      obtain ⟨rfl, rfl⟩ : AR = A' ∧ cR = c' := by injection hv with e1 _ e3; exact ⟨e1, e3⟩
      exact ⟨AR, k, cR, rfl, h1, hh, hnc', HB2.out⟩
end Go.Proofs.Ytflphpjfmbkeiaa
