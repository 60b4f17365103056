/- What == and != give at steps. -/
import Derived.Test.YtaimnhlpdkpobaaMsgs
import Derived.Test.YtaimnhlpdkpobaaRows
import Derived.Laws.StructEq
namespace Go.Proofs.Ytaimnhlpdkpobaa
open Go.RowKit

theorem toList_inj {a b : ByteArray} : a.toList = b.toList ↔ a = b := by
  rw [ByteArray.toList_eq, ByteArray.toList_eq]
  obtain ⟨⟨x⟩⟩ := a
  obtain ⟨⟨y⟩⟩ := b
  simp
theorem str_eq (a b : ByteArray) : (a.toList == b.toList) = decide (a = b) := by
  rw [Bool.eq_iff_iff, beq_iff_eq, decide_eq_true_eq, toList_inj]
theorem step_iff (s t : StepD) : s = t ↔ s.name.toList = t.name.toList ∧ s.stub = t.stub ∧ s.retry = t.retry ∧ s.wait = t.wait ∧ s.undo = t.undo ∧ s.pivot = t.pivot := by
  rw [toList_inj]
  obtain ⟨a, b, c, d, e, f⟩ := s
  obtain ⟨a', b', c', d', e', f'⟩ := t
  simp

theorem eql_step (s t : StepD) (w : World) : (binOp .eql 93 (.agg (s.cells).toArray) (.agg (t.cells).toArray)).run Try.prog w = .ok (.bool (decide (s = t))) w := by
  have u3 := Try.underlying3
  have u4 := Try.underlying4
  have u9 := Try.underlying9
  have hS : Try.prog.underlying 93 = some (.struct (Try.prog.fieldsOf 93)) := by kernel_rfl
  have hp : Try.prog.stoodInHeld 93 = false := by kernel_rfl
  simp only [StepD.cells]
  rw [run_eql_struct, show (10000 : Nat) = 9999 + 1 from rfl, run_equalIn_struct w 9999 93 _ _ hS hp]
  simp only [Program.fieldsOf, Try.underlying93]
  go_simp
  have hi := step_iff s t
  by_cases h0 : s.name.toList = t.name.toList <;> by_cases h1 : s.stub = t.stub <;> by_cases h2 : s.retry = t.retry <;> by_cases h3 : s.wait = t.wait <;> by_cases h4 : s.undo = t.undo <;> by_cases h5 : s.pivot = t.pivot <;> simp [hi, h0, h1, h2, h3, h4, h5]

theorem neq_step (s t : StepD) (w : World) : (binOp .neq 93 (.agg (s.cells).toArray) (.agg (t.cells).toArray)).run Try.prog w = .ok (.bool (!decide (s = t))) w := by
  have u3 := Try.underlying3
  have u4 := Try.underlying4
  have u9 := Try.underlying9
  have hS : Try.prog.underlying 93 = some (.struct (Try.prog.fieldsOf 93)) := by kernel_rfl
  have hp : Try.prog.stoodInHeld 93 = false := by kernel_rfl
  simp only [StepD.cells]
  rw [run_neq_struct, show (10000 : Nat) = 9999 + 1 from rfl, run_equalIn_struct w 9999 93 _ _ hS hp]
  simp only [Program.fieldsOf, Try.underlying93]
  go_simp
  have hi := step_iff s t
  by_cases h0 : s.name.toList = t.name.toList <;> by_cases h1 : s.stub = t.stub <;> by_cases h2 : s.retry = t.retry <;> by_cases h3 : s.wait = t.wait <;> by_cases h4 : s.undo = t.undo <;> by_cases h5 : s.pivot = t.pivot <;> simp [hi, h0, h1, h2, h3, h4, h5]

end Go.Proofs.Ytaimnhlpdkpobaa
