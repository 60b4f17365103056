/- slices.Clone at integers. -/
import Derived.Test.YtaimnhlpdkpobaaClone
namespace Go.Proofs.Ytaimnhlpdkpobaa
open Go.RowKit

theorem Try.infoInt : (Try.prog.info? 3).map (fun i => (i.zero, i.size, i.bytes)) = some (some (.int .i64 0), 1, 8) := by kernel_rfl

set_option maxHeartbeats 1000000 in
set_option maxRecDepth 100000 in
theorem clone_ints (F : Nat → Prop) (v : Value) (n : Nat) (xs : List Value) (w : World) (h : FlatAt F w 1 v n xs) (hn : n ≤ 1000000) :
    Calls Try.prog 57 #[v] w (Cloned 3 1 n xs w) := by
  obtain ⟨i0, hi, hz0, hz1, hz2⟩ := info_parts Try.infoInt
  obtain ⟨A, c, rfl, h1, h2, h3⟩ := h.shape
  have H := hide h
  rcases A with _ | a
  · have hc := h3 rfl
    subst hc
    obtain rfl : n = 0 := by omega
    have hxs : xs = [] := List.eq_nil_of_length_eq_zero (by have := h.len; simpa using this)
    subst hxs
    have hq := fun w => Lib.run_eql_slice_nil (P := Try.prog) w 40 _ none 0 0 0 0 Try.underlying40
    clear h h3
    go_enter Try.func57, Try.ntmps57
    go_wp2
    go_ret
    exact ⟨_, rfl, World.ownsRow_nil _ _ _ _, Below.refl _ _⟩
  · have hq := fun w => Lib.run_eql_slice_nil (P := Try.prog) w 40 _ (some a) n c 0 0 Try.underlying40
    clear h h3
    go_enter Try.func57, Try.ntmps57
    go_wp2_with (at_builtin; refine wpList_append_flat _ rfl _ _ 40 rfl w.heap.size 3 i0 _ 1 8 Try.underlying40 hi hz0 hz1 hz2 rfl (by decide) _ 0 [] rfl (ownsRow_lit w _ 1) F _ n c xs rfl (H.out.kept (Kept.of_below ((Below.refl _ _).alloc (Nat.le_refl _) _) F)) (by unfold maxLen; omega) (by omega) (by simp) ?_; intro v' w1 ho hg)
    go_ret
    exact ⟨_, rfl, by simpa using ho, ((Below.refl _ _).alloc (Nat.le_refl _) _).trans (later_own (ownsRow_lit w _ 1) (by simp) hg)⟩
end Go.Proofs.Ytaimnhlpdkpobaa
