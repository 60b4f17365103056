/- Acts: what is done to a clock; as they come in, by value and in slices. -/
import Derived.Test.YthimdmgimlhbaaaOpenG
namespace Go.Proofs.Ythimdmgimlhbaaa
open Go.RowKit

/-- An act. -/
structure ActC where
  kind : Int
  name : Int
  after : Int
def ActC.cells (a : ActC) : List Value := [.int .i64 a.kind, .int .i64 a.name, .int .i64 a.after]
def ActC.wf (a : ActC) : Prop := I64 a.kind ∧ I64 a.name ∧ I64 a.after
theorem ActC.len (a : ActC) : a.cells.length = 3 := rfl
instance : Inhabited ActC := ⟨⟨0, 0, 0⟩⟩
/-- The slice v holds these acts. -/
def ActsAt (F : Nat → Prop) (w : World) (v : Value) (l : List ActC) : Prop := FlatAt F w 3 v l.length (l.flatMap ActC.cells)
theorem ActsAt.kept {F : Nat → Prop} {w w' : World} {v : Value} {l : List ActC} (h : ActsAt F w v l) (hk : Kept F w w') : ActsAt F w' v l := FlatAt.kept h hk
theorem ActsAt.at_ {F : Nat → Prop} {w : World} {v : Value} {l : List ActC} (h : ActsAt F w v l) {i : Nat} (hi : i < l.length) : ∃ a b off c, l[i]? = some a ∧ v = .slice (some ⟨b, off, none⟩) l.length c ∧ l.length ≤ c ∧ F b ∧ b < w.heap.size ∧ w.rangeAt b (off + i * 3) a.cells := by
  obtain ⟨b, off, c, hv, hc, hf, hb, hr⟩ := FlatAt.elem h hi
  have hs : l[i]? = some l[i] := List.getElem?_eq_getElem hi
  refine ⟨l[i], b, off, c, hs, hv, hc, hf, hb, ?_⟩
  rwa [flat_get ActC.cells 3 l i _ (fun y _ => y.len) hs] at hr
section
variable {H : Type} {enc : TypeId × Value → H} {W : World}
theorem open_act {n : Nat} {cs : List Value} {x : DataW H × List MemPlace} (h : Rd enc W n 31 cs x) (hs : Sm 31 x.1) : ∃ a : ActC, cs = a.cells ∧ a.wf := by
  obtain ⟨m, hl, hf⟩ := open_fields Try.underlying31 h hs
  have hl : cs.length = 3 := hl
  rcases cs with _ | ⟨c0, cs⟩
  · simp at hl
  rcases cs with _ | ⟨c1, cs⟩
  · simp at hl
  rcases cs with _ | ⟨c2, cs⟩
  · simp at hl
  obtain rfl : cs = [] := List.eq_nil_of_length_eq_zero (by simp only [List.length_cons] at hl; omega)
  obtain ⟨y0, g0, s0⟩ := hf 0 _ rfl
  have g0 : Rd enc W m 3 [c0] y0 := (congrArg (fun q => DataW.trod enc Try.prog W 0 (fun _ => true) true m 3 q) (show ([c0, c1, c2].drop 0).take (Try.prog.cellsOf 3) = [c0] from by rw [show Try.prog.cellsOf 3 = 1 from by kernel_rfl]; rfl)).symm.trans g0
  obtain ⟨a0, e0, w0⟩ := open_int1 Try.underlying3 g0
  obtain ⟨y1, g1, s1⟩ := hf 1 _ rfl
  have g1 : Rd enc W m 3 [c1] y1 := (congrArg (fun q => DataW.trod enc Try.prog W 0 (fun _ => true) true m 3 q) (show ([c0, c1, c2].drop 1).take (Try.prog.cellsOf 3) = [c1] from by rw [show Try.prog.cellsOf 3 = 1 from by kernel_rfl]; rfl)).symm.trans g1
  obtain ⟨a1, e1, w1⟩ := open_int1 Try.underlying3 g1
  obtain ⟨y2, g2, s2⟩ := hf 2 _ rfl
  have g2 : Rd enc W m 3 [c2] y2 := (congrArg (fun q => DataW.trod enc Try.prog W 0 (fun _ => true) true m 3 q) (show ([c0, c1, c2].drop 2).take (Try.prog.cellsOf 3) = [c2] from by rw [show Try.prog.cellsOf 3 = 1 from by kernel_rfl]; rfl)).symm.trans g2
  obtain ⟨a2, e2, w2⟩ := open_int1 Try.underlying3 g2
  subst e0 e1 e2
  exact ⟨⟨a0, a1, a2⟩, rfl, w0, w1, w2⟩
theorem arg_act {cs : Array Value} {d : DataW H} {p : List MemPlace} (h : DataW.Trod enc Try.prog W 0 (fun _ => true) true 31 (.agg cs) d p) (hs : Sm 31 d) : ∃ a : ActC, cs = a.cells.toArray ∧ a.wf := by
  obtain ⟨fuel, hf⟩ := h
  obtain ⟨a, e, wf⟩ := open_act (n := fuel) (x := (d, p)) hf hs
  refine ⟨a, ?_, wf⟩
  have e2 : cs.toList = a.cells := e
  rw [← e2]
theorem arg_acts {A : Option Addr} {len cap : Nat} {d : DataW H} {p : List MemPlace} (h : DataW.Trod enc Try.prog W 0 (fun _ => true) true 22 (.slice A len cap) d p) (hs : Sm 22 d) : ∃ l : List ActC, ActsAt (· < W.heap.size) W (.slice A len cap) l ∧ ∀ a ∈ l, a.wf := by
  obtain ⟨fuel, hf⟩ := h
  obtain ⟨ys, h1, h2⟩ := open_elems ActC.cells ActC.wf 3 (by decide) ActC.len Try.underlying22 (by kernel_rfl) (fun n cs x h hs => open_act h hs) (fun y _ u hu => by
    simp only [ActC.cells, List.mem_cons, List.not_mem_nil, or_false] at hu
    rcases hu with rfl | rfl | rfl <;> rfl) (n := fuel) (x := (d, p)) hf hs
  exact ⟨ys, h1, h2⟩
/-- The slice v holds these unsigned numbers. -/
def UintsAt (F : Nat → Prop) (w : World) (v : Value) (l : List Int) : Prop := FlatAt F w 1 v l.length (l.map fun x => .int .u64 x)
theorem arg_uints {A : Option Addr} {len cap : Nat} {d : DataW H} {p : List MemPlace} (h : DataW.Trod enc Try.prog W 0 (fun _ => true) true 52 (.slice A len cap) d p) (hs : Sm 52 d) : ∃ l, UintsAt (· < W.heap.size) W (.slice A len cap) l ∧ ∀ a ∈ l, 0 ≤ a ∧ a < 18446744073709551616 := by
  obtain ⟨fuel, hf⟩ := h
  obtain ⟨ys, h1, h2⟩ := open_elems (fun a : Int => [.int .u64 a]) (fun a => 0 ≤ a ∧ a < 18446744073709551616) 1 (by decide) (fun _ => rfl) Try.underlying52 (by kernel_rfl) (fun n cs x h hs => by
    obtain ⟨a, h0, _, w0⟩ := DataW.trod_int Try.underlying43 h
    have b0 := bounds_u64 w0
    exact ⟨a, h0, by omega⟩) (fun y _ u hu => by obtain rfl : u = .int .u64 y := by simpa using hu
                                                 rfl) (n := fuel) (x := (d, p)) hf hs
  refine ⟨ys, ?_, h2⟩
  unfold UintsAt
  rw [List.map_eq_flatMap]
  exact h1
theorem UintsAt.kept {F : Nat → Prop} {w w' : World} {v : Value} {l : List Int} (h : UintsAt F w v l) (hk : Kept F w w') : UintsAt F w' v l := FlatAt.kept h hk
theorem UintsAt.at_ {F : Nat → Prop} {w : World} {v : Value} {l : List Int} (h : UintsAt F w v l) {i : Nat} (hi : i < l.length) : ∃ b off c, v = .slice (some ⟨b, off, none⟩) l.length c ∧ l.length ≤ c ∧ F b ∧ b < w.heap.size ∧ w.cell? ⟨b, off + i, none⟩ = some (.int .u64 (l.getD i 0)) := by
  obtain ⟨b, off, c, hv, hc, hf, hb, hr⟩ := FlatAt.elem h hi
  refine ⟨b, off, c, hv, hc, hf, hb, ?_⟩
  have := hr 0 (.int .u64 (l.getD i 0)) (by simp [List.getElem?_drop, List.getD_eq_getElem?_getD, hi])
  simpa using this
end
end Go.Proofs.Ythimdmgimlhbaaa
