/- A slice of one struct, made by a literal. -/
import Derived.Test.YtaimnhlpdkpobaaBox
namespace Go.Proofs.Ytaimnhlpdkpobaa
open Go.RowKit

theorem fold_put : ∀ (vs : List Value) (n : Nat) (Z : Array Value), (vs.zipIdx n).foldl (fun cs (x : Value × Nat) => cs.setIfInBounds x.2 x.1) Z = putAt Z n vs
  | [], _, _ => rfl
  | v :: r, n, Z => by rw [List.zipIdx_cons, List.foldl_cons, fold_put r (n + 1), putAt]
theorem put_whole (cells Z : Array Value) (h : Z.size = cells.size) : putAt Z 0 cells.toList = cells := by
  apply Array.ext'
  rw [putAt_toList _ _ _ (by simp; omega)]
  simp [h]

section
variable {P : Program} {w : World}
theorem run_buildSlice_one (t e : TypeId) (i : TypeInfo) (z : Value) (k : Nat) (ht : P.underlying t = some (.slice e)) (hi : P.info? e = some i) (hz : i.zero = some z) (hs : i.size = k) (hk : 0 < k) (hk2 : k ≤ 16777216)
    (cells : Array Value) (hc : cells.size = k) :
    (Instr.buildSlice t 1 #[(0, .agg cells)]).run P w = .ok (.slice (some ⟨w.heap.size, 0, none⟩) 1 1) (w.alloc (.cells cells e (0, 0))) := by
  subst hs
  have hne : ¬ (i.size = 0) := by omega
  have hbig : ¬ (16777216 < i.size) := by omega
  have hfold : ∀ Z : Array Value, Z.size = i.size → Array.foldl (fun cs (x : Value × Nat) => cs.setIfInBounds x.2 x.1) Z cells.zipIdx 0 i.size = cells := fun Z hZ => by
    have h1 := fold_put cells.toList 0 Z
    rw [put_whole cells Z (by omega)] at h1
    rw [show i.size = cells.zipIdx.size from by simp [hc], ← Array.foldl_toList]
    simpa using h1
  simp [Instr.buildSlice, run_underlying ht, sizeOf, typeInfo, hi, hne, hbig, zeroValue, hz, Instr.fill, Value.cells, hc, newRow]
  rw [hfold _ (by simp)]

theorem wpList_buildSlice_one {ops : Array Oper} {rest : List Oper} {op : Oper} {a : Act} {Q : Exit → Act → World → Prop} (hgd : op.guard = none) (t e : TypeId) (x : Operand) (ho : op.op = .buildSlice t 1 #[(0, x)]) (i : TypeInfo) (z : Value) (k : Nat) (ht : P.underlying t = some (.slice e)) (hi : P.info? e = some i) (hz : i.zero = some z) (hs : i.size = k) (hk : 0 < k) (hk2 : k ≤ 16777216)
    (cells : Array Value) (hx : a.eval x = .agg cells) (hc : cells.size = k)
    (h : wpList P ops Q rest (a.put op.dst (.slice (some ⟨w.heap.size, 0, none⟩) 1 1)) (w.alloc (.cells cells e (0, 0)))) : wpList P ops Q (op :: rest) a w := by
  refine wpList_plain hgd fun K hK => ?_
  have hr := run_buildSlice_one (P := P) (w := w) t e i z k ht hi hz hs hk hk2 cells hc
  unfold Oper.wp
  simp [execOp, ho, hx, hr, Result.andThen]
  exact hK _ _ h
end
end Go.Proofs.Ytaimnhlpdkpobaa
