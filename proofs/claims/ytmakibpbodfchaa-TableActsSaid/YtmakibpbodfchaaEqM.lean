/- What == and != give at replies and at what is remembered of a client. -/
import Derived.Test.YtmakibpbodfchaaTabs
import Derived.Laws.StructEq
namespace Go.Proofs.Ytmakibpbodfchaa
open Go.RowKit

theorem rep_iff (x y : Rep) : x = y ↔ x.err = y.err ∧ x.saga = y.saga ∧ x.st = y.st ∧ x.step = y.step := by
  obtain ⟨a, b, c, d⟩ := x
  obtain ⟨a', b', c', d'⟩ := y
  simp
theorem mry_iff (x y : Mry) : x = y ↔ x.last = y.last ∧ x.done = y.done ∧ x.rep.err = y.rep.err ∧ x.rep.saga = y.rep.saga ∧ x.rep.st = y.rep.st ∧ x.rep.step = y.rep.step := by
  obtain ⟨a, b, ⟨c, d, e, f⟩⟩ := x
  obtain ⟨a', b', ⟨c', d', e', f'⟩⟩ := y
  simp

theorem eql_rep (x y : Rep) (w : World) : (binOp .eql 29 x.val y.val).run Try.prog w = .ok (.bool (decide (x = y))) w := by
  have u3 := Try.underlying3
  have u34 := Try.underlying27
  have hS : Try.prog.underlying 29 = some (.struct (Try.prog.fieldsOf 29)) := by kernel_rfl
  have hp : Try.prog.stoodInHeld 29 = false := by kernel_rfl
  unfold Rep.val Rep.cells
  rw [run_eql_struct, show (10000 : Nat) = 9999 + 1 from rfl, run_equalIn_struct w 9999 29 _ _ hS hp]
  simp only [Program.fieldsOf, Try.underlying29]
  go_simp
  have hi := rep_iff x y
  by_cases h0 : x.err = y.err <;> by_cases h1 : x.saga = y.saga <;> by_cases h2 : x.st = y.st <;> by_cases h3 : x.step = y.step <;> simp [hi, h0, h1, h2, h3]

theorem neq_rep (x y : Rep) (w : World) : (binOp .neq 29 x.val y.val).run Try.prog w = .ok (.bool (!decide (x = y))) w := by
  have u3 := Try.underlying3
  have u34 := Try.underlying27
  have hS : Try.prog.underlying 29 = some (.struct (Try.prog.fieldsOf 29)) := by kernel_rfl
  have hp : Try.prog.stoodInHeld 29 = false := by kernel_rfl
  unfold Rep.val Rep.cells
  rw [run_neq_struct, show (10000 : Nat) = 9999 + 1 from rfl, run_equalIn_struct w 9999 29 _ _ hS hp]
  simp only [Program.fieldsOf, Try.underlying29]
  go_simp
  have hi := rep_iff x y
  by_cases h0 : x.err = y.err <;> by_cases h1 : x.saga = y.saga <;> by_cases h2 : x.st = y.st <;> by_cases h3 : x.step = y.step <;> simp [hi, h0, h1, h2, h3]

theorem eql_mry (x y : Mry) (w : World) : (binOp .eql 49 x.val y.val).run Try.prog w = .ok (.bool (decide (x = y))) w := by
  have u3 := Try.underlying3
  have u34 := Try.underlying27
  have hS : Try.prog.underlying 49 = some (.struct (Try.prog.fieldsOf 49)) := by kernel_rfl
  have hp : Try.prog.stoodInHeld 49 = false := by kernel_rfl
  unfold Mry.val Mry.cells
  rw [run_eql_struct, show (10000 : Nat) = 9999 + 1 from rfl, run_equalIn_struct w 9999 49 _ _ hS hp]
  simp only [Program.fieldsOf, Try.underlying49]
  go_simp
  have hi := mry_iff x y
  by_cases h0 : x.last = y.last <;> by_cases h1 : x.done = y.done <;> by_cases h2 : x.rep.err = y.rep.err <;> by_cases h3 : x.rep.saga = y.rep.saga <;> by_cases h4 : x.rep.st = y.rep.st <;> by_cases h5 : x.rep.step = y.rep.step <;> simp [hi, h0, h1, h2, h3, h4, h5]

theorem neq_mry (x y : Mry) (w : World) : (binOp .neq 49 x.val y.val).run Try.prog w = .ok (.bool (!decide (x = y))) w := by
  have u3 := Try.underlying3
  have u34 := Try.underlying27
  have hS : Try.prog.underlying 49 = some (.struct (Try.prog.fieldsOf 49)) := by kernel_rfl
  have hp : Try.prog.stoodInHeld 49 = false := by kernel_rfl
  unfold Mry.val Mry.cells
  rw [run_neq_struct, show (10000 : Nat) = 9999 + 1 from rfl, run_equalIn_struct w 9999 49 _ _ hS hp]
  simp only [Program.fieldsOf, Try.underlying49]
  go_simp
  have hi := mry_iff x y
  by_cases h0 : x.last = y.last <;> by_cases h1 : x.done = y.done <;> by_cases h2 : x.rep.err = y.rep.err <;> by_cases h3 : x.rep.saga = y.rep.saga <;> by_cases h4 : x.rep.st = y.rep.st <;> by_cases h5 : x.rep.step = y.rep.step <;> simp [hi, h0, h1, h2, h3, h4, h5]
end Go.Proofs.Ytmakibpbodfchaa
