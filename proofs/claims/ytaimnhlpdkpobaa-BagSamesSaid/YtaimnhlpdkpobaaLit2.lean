/- A slice of two structs, made by a literal. -/
import Derived.Test.YtaimnhlpdkpobaaLit
namespace Go.Proofs.Ytaimnhlpdkpobaa
open Go.RowKit
theorem fold_put_at (m : Nat) : ∀ (vs : List Value) (n : Nat) (Z : Array Value), (vs.zipIdx n).foldl (fun cs (x : Value × Nat) => cs.setIfInBounds (m + x.2) x.1) Z = putAt Z (m + n) vs
  | [], _, _ => rfl
  | v :: r, n, Z => by rw [List.zipIdx_cons, List.foldl_cons, fold_put_at m r (n + 1), putAt]; rfl

section
variable {P : Program} {w : World}
theorem run_buildSlice_two (t e : TypeId) (i : TypeInfo) (z : Value) (k : Nat) (ht : P.underlying t = some (.slice e)) (hi : P.info? e = some i) (hz : i.zero = some z) (hs : i.size = k) (hk : 0 < k) (hk2 : 2 * k ≤ 16777216)
    (cells cells2 : Array Value) (hc : cells.size = k) (hc2 : cells2.size = k) :
    (Instr.buildSlice t 2 #[(0, .agg cells), (1, .agg cells2)]).run P w = .ok (.slice (some ⟨w.heap.size, 0, none⟩) 2 2) (w.alloc (.cells (cells ++ cells2) e (0, 0))) := by
  subst hs
  have hbig : ¬ (16777216 < 2 * i.size) := by omega
  have h0 : ¬ (2 * i.size = 0) := by omega
  have h1 : ¬ (2 * i.size < i.size) := by omega
  have hf1 : ∀ Z : Array Value, Array.foldl (fun cs (x : Value × Nat) => cs.setIfInBounds x.2 x.1) Z cells.zipIdx 0 i.size = putAt Z 0 cells.toList := fun Z => by
    have h1 := fold_put cells.toList 0 Z
    rw [show i.size = cells.zipIdx.size from by simp [hc], ← Array.foldl_toList]
    simpa using h1
  have hf2 : ∀ Z : Array Value, Array.foldl (fun cs (x : Value × Nat) => cs.setIfInBounds (i.size + x.2) x.1) Z cells2.zipIdx 0 i.size = putAt Z i.size cells2.toList := fun Z => by
    have h1 := fold_put_at i.size cells2.toList 0 Z
    conv => lhs; rw [show (0 : Nat) = 0 from rfl]
    have h2 : Array.foldl (fun cs (x : Value × Nat) => cs.setIfInBounds (i.size + x.2) x.1) Z cells2.zipIdx 0 cells2.zipIdx.size = putAt Z i.size cells2.toList := by
      rw [← Array.foldl_toList]
      simpa using h1
    simpa [hc2] using h2
  have hsz : ∀ Z : Array Value, Z.size = 2 * i.size → (putAt Z 0 cells.toList).size = 2 * i.size := fun Z hZ => by rw [putAt_size, hZ]
  have hall : ∀ Z : Array Value, Z.size = 2 * i.size → putAt (putAt Z 0 cells.toList) i.size cells2.toList = cells ++ cells2 := fun Z hZ => by
    apply Array.ext'
    rw [putAt_toList _ _ _ (by rw [hsz Z hZ]; simp; omega), putAt_toList _ _ _ (by rw [hZ]; simp; omega)]
    have e1 : cells.toList.length = i.size := by simp [hc]
    have e2 : Z.toList.length = 2 * i.size := by simp [hZ]
    have e3 : cells2.toList.length = i.size := by simp [hc2]
    simp only [List.take_zero, List.nil_append, Array.toList_append]
    rw [List.take_left' e1, List.drop_eq_nil_of_le (by simp; omega), List.append_nil]
  simp [Instr.buildSlice, run_underlying ht, sizeOf, typeInfo, hi, hbig, hz, zeroValue, Instr.fill, Value.cells, hc, hc2, newRow, h0, h1, hf1, hf2]
  rw [if_neg (by rw [hsz _ (by simp)]; omega), hall _ (by simp)]
  rfl

theorem wpList_buildSlice_two {ops : Array Oper} {rest : List Oper} {op : Oper} {a : Act} {Q : Exit → Act → World → Prop} (hgd : op.guard = none) (t e : TypeId) (x y : Operand) (ho : op.op = .buildSlice t 2 #[(0, x), (1, y)]) (i : TypeInfo) (z : Value) (k : Nat) (ht : P.underlying t = some (.slice e)) (hi : P.info? e = some i) (hz : i.zero = some z) (hs : i.size = k) (hk : 0 < k) (hk2 : 2 * k ≤ 16777216)
    (cells cells2 : Array Value) (hx : a.eval x = .agg cells) (hy : a.eval y = .agg cells2) (hc : cells.size = k) (hc2 : cells2.size = k)
    (h : wpList P ops Q rest (a.put op.dst (.slice (some ⟨w.heap.size, 0, none⟩) 2 2)) (w.alloc (.cells (cells ++ cells2) e (0, 0)))) : wpList P ops Q (op :: rest) a w := by
  refine wpList_plain hgd fun K hK => ?_
  have hr := run_buildSlice_two (P := P) (w := w) t e i z k ht hi hz hs hk hk2 cells cells2 hc hc2
  unfold Oper.wp
  simp [execOp, ho, hx, hy, hr, Result.andThen]
  exact hK _ _ h
end
end Go.Proofs.Ytaimnhlpdkpobaa
