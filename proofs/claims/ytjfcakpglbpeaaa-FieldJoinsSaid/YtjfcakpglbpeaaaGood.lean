/- The walk over field.Good. -/
import Derived.Test.YtjfcakpglbpeaaaRec
import Derived.Test.YtjfcakpglbpeaaaRows
import Derived.WalkLawsBesides
namespace Go.Proofs.Ytjfcakpglbpeaaa
open Go.RowKit

set_option maxHeartbeats 400000 in
theorem good_any (f : Fd) (w : World) :
    Calls Try.prog 19 #[.agg #[.int .i64 f.num, .bool f.text, .int .u64 f.v, .slice f.a f.n f.c]] w fun e w' => e = .returned (.bool f.good) ∧ Below w.heap.size w w' := by
  obtain ⟨num, text, v, a, n, c, b⟩ := f
  go_enter Try.func19, Try.ntmps19
  go_wp2
  · go_ret
    exact ⟨ret_bool (Fd.good_not (by simp only; omega)), (Below.refl _ _).alloc (Nat.le_refl _) _⟩
  · go_ret
    exact ⟨ret_bool (Fd.good_text (f := ⟨num, text, v, a, n, c, b⟩) (by simp only; omega) (by simp only; omega) (by assumption)), (Below.refl _ _).alloc (Nat.le_refl _) _⟩
  · go_ret
    exact ⟨ret_bool (Fd.good_num (f := ⟨num, text, v, a, n, c, b⟩) (by simp only; omega) (by simp only; omega) (by assumption)), (Below.refl _ _).alloc (Nat.le_refl _) _⟩
  · go_ret
    exact ⟨ret_bool (Fd.good_not (by simp only; omega)), (Below.refl _ _).alloc (Nat.le_refl _) _⟩
theorem good_is (f : Fd) (b : Bool) (h : f.good = b) (w : World) :
    Calls Try.prog 19 #[.agg #[.int .i64 f.num, .bool f.text, .int .u64 f.v, .slice f.a f.n f.c]] w fun e w' => e = .returned (.bool b) ∧ Below w.heap.size w w' :=
  (good_any f w).mono fun _ _ ⟨he, hb⟩ => ⟨by rw [he, h], hb⟩
end Go.Proofs.Ytjfcakpglbpeaaa
