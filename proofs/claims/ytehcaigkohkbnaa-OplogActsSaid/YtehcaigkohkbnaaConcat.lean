/- slices.Grow of nothing, slices.Concat of two lists of operations. -/
import Derived.Test.YtehcaigkohkbnaaClone
import Derived.Test.YtehcaigkohkbnaaCutRow
import Derived.Lib.AppendZeros
namespace Go.Proofs.Ytehcaigkohkbnaa
open Go.RowKit

set_option maxHeartbeats 1000000 in
set_option maxRecDepth 100000 in
theorem grow_nil (n : Nat) (w : World) (hn : n ≤ 1000000) :
    Calls Try.prog 81 #[.slice none 0 0, .int .i64 (n : Int)] w (Cloned 33 10 0 [] w) := by
  obtain ⟨i0, hi, hz0, hz1, hz2⟩ := info_parts Try.infoOp
  by_cases h0 : n = 0
  · subst h0
    go_enter Try.func81, Try.ntmps81
    go_wp2
    go_ret
    exact ⟨_, rfl, World.ownsRow_nil _ _ _ _, Below.refl _ _⟩
  · have happ := Lib.run_append_nil_zeros (P := Try.prog) w 39 3 39 33 i0 _ .i64 .i64 Try.underlying39 Try.underlying3 hi hz0 n (by omega) (by rw [hz1]; decide) (by omega) (by rw [hz2]; omega)
    generalize hcap : grownCap w n 0 33 = cap2 at happ
    have hcapge : n ≤ cap2 := by rw [← hcap]; exact grownCap_ge w _ 0 33
    have hcaple : cap2 ≤ maxLen := by rw [← hcap]; exact grownCap_le_maxLen w _ 0 33 (by unfold maxLen; omega)
    generalize hZ : (Builtin.zeroCells _ n ++ Builtin.zeroCells _ (cap2 - n)) = Z at happ
    have hZs : Z.size = cap2 * 10 := by rw [← hZ]; simp [size_zeroCells, Value.cells]; omega
    have hc63 : (cap2 : Int) ≤ 9223372036854775807 := by unfold maxLen at hcaple; omega
    clear hcap hZ
    go_enter Try.func81, Try.ntmps81
    go_wp2_with (at_builtin; refine Lib.wpList_append_run _ rfl _ _ _ _ rfl _ _ rfl rfl _ _ happ ?_)
    go_ret
    refine ⟨_, rfl, ⟨by simp, .inr ⟨w.heap.size, cap2, Z, ?_, Nat.le_refl _, ?_, by omega, hcaple, by rw [hZs], by simp⟩⟩, ?_⟩
    · simp
    · exact heap_alloc_new w _
    · exact ((Below.refl _ _).alloc (Nat.le_refl _) _).drew

/-- How much Concat holds behind k lists. -/
def upto (k n m : Nat) : Nat := if k = 0 then 0 else if k = 1 then n else n + m
def rowOf (k : Nat) (xs ys : List Value) : List Value := if k = 0 then [] else if k = 1 then xs else xs ++ ys

set_option maxHeartbeats 2000000 in
set_option maxRecDepth 100000 in
theorem concat_two (F : Nat → Prop) (g n m : Nat) (v1 v2 : Value) (xs ys : List Value) (w : World) (hg : w.heap[g]? = some (.cells #[v1, v2] 39 (0, 0))) (h1 : FlatAt F w 10 v1 n xs) (h2 : FlatAt F w 10 v2 m ys) (hn : n ≤ 400000) (hm : m ≤ 400000) :
    Calls Try.prog 75 #[.slice (some ⟨g, 0, none⟩) 2 2] w (Cloned 33 10 (n + m) (xs ++ ys) w) := by
  obtain ⟨i0, hi, hz0, hz1, hz2⟩ := info_parts Try.infoOp
  obtain ⟨A1, c1, rfl, a1, a2, a3⟩ := h1.shape
  obtain ⟨A2, c2, rfl, b1, b2, b3⟩ := h2.shape
  have H1 := hide h1
  have H2 := hide h2
  have HG := hide hg
  have x0 : w.cell? ⟨g, 0, none⟩ = some (.slice A1 n c1) := cell_of_row w g 0 _ _ _ hg
  have x1 : w.cell? ⟨g, 1, none⟩ = some (.slice A2 m c2) := cell_of_row w g 1 _ _ _ hg
  clear h1 h2 hg a1 a2 a3 b1 b2 b3
  go_enter Try.func75, Try.ntmps75
  go_wp2
  go_loopw [3, 11] (fun s i wr => ∃ k : Nat, k ≤ 2 ∧ i = .int .i64 (k : Int) ∧ s = .int .i64 ((upto k n m : Nat) : Int) ∧ w = wr) (fun _ i _ => 2 - (intOf i).toNat)
  case atStart => exact ⟨0, by omega, rfl, rfl, rfl⟩
  case round =>
    obtain ⟨k, hk, rfl, rfl, rfl⟩ := hrel
    obtain rfl | rfl | rfl : k = 0 ∨ k = 1 ∨ k = 2 := by omega
    · simp only [upto, if_true]
      go_wp2
      go_roundw
      case rel => exact ⟨1, by omega, by go_num, by simp, trivial⟩
      case measure => simp [intOf]
    · simp only [upto, if_true, show ¬ (1 : Nat) = 0 from by omega, if_false]
      go_wp2
      go_roundw
      case rel => exact ⟨2, by omega, by go_num, by simp, trivial⟩
      case measure => simp [intOf]
    · simp only [upto, show ¬ (2 : Nat) = 0 from by omega, show ¬ (2 : Nat) = 1 from by omega, if_false]
      have C := hide (grow_nil (n + m) w (by omega))
      rw [Int.natCast_add] at C
      go_wp2_with (fail)
      refine C.out.mono ?_
      rintro e w1 ⟨v, rfl, ho, hb⟩
      have HO := hide ho
      have HB := hide hb
      clear ho hb C x0 x1
      go_wp2
      go_loopw [6, 27] (fun v i wr => ∃ k : Nat, k ≤ 2 ∧ i = .int .i64 (k : Int) ∧ wr.ownsRow w.heap.size 33 10 v (upto k n m) (rowOf k xs ys) ∧ Below w.heap.size w wr) (fun _ i _ => 2 - (intOf i).toNat)
      case atStart => exact ⟨0, by omega, rfl, HO.out, HB.out⟩
      case round =>
        obtain ⟨k, hk, rfl, ho, hb⟩ := hrel
        have HO2 := hide ho
        have HB2 := hide hb
        have hgw := (hb.block g (lt_of_block HG.out)).trans HG.out
        have x0 : wr.cell? ⟨g, 0, none⟩ = some (.slice A1 n c1) := cell_of_row wr g 0 _ _ _ hgw
        have x1 : wr.cell? ⟨g, 1, none⟩ = some (.slice A2 m c2) := cell_of_row wr g 1 _ _ _ hgw
        have hsz := hb.size
        clear ho hb hgw HO HB
        obtain rfl | rfl | rfl : k = 0 ∨ k = 1 ∨ k = 2 := by omega
        · simp only [upto, rowOf, if_true] at HO2
          go_wp2_with (at_builtin; refine wpList_append_flat _ rfl _ _ 39 rfl w.heap.size 33 i0 _ 10 96 Try.underlying39 hi hz0 hz1 hz2 rfl (by decide) _ 0 [] rfl HO2.out F A1 n c1 xs rfl (H1.out.kept (Kept.of_below HB2.out F)) (by unfold maxLen; omega) (by omega) hsz ?_; intro v' w2 ho hg)
          go_roundw
          case rel => exact ⟨1, by omega, by go_num, by simpa [upto, rowOf] using ho, HB2.out.grown hg hsz (fun k hk => (HO2.out.lt k hk).1)⟩
          case measure => simp [intOf]
        · simp only [upto, rowOf, if_true, show ¬ (1 : Nat) = 0 from by omega, if_false] at HO2
          go_wp2_with (at_builtin; refine wpList_append_flat _ rfl _ _ 39 rfl w.heap.size 33 i0 _ 10 96 Try.underlying39 hi hz0 hz1 hz2 rfl (by decide) _ n xs rfl HO2.out F A2 m c2 ys rfl (H2.out.kept (Kept.of_below HB2.out F)) (by unfold maxLen; omega) (by omega) hsz ?_; intro v' w2 ho hg)
          go_roundw
          case rel => exact ⟨2, by omega, by go_num, by simpa [upto, rowOf] using ho, HB2.out.grown hg hsz (fun k hk => (HO2.out.lt k hk).1)⟩
          case measure => simp [intOf]
        · go_wp2
          go_ret
          exact ⟨_, rfl, by simpa [upto, rowOf] using HO2.out, HB2.out⟩
end Go.Proofs.Ytehcaigkohkbnaa
