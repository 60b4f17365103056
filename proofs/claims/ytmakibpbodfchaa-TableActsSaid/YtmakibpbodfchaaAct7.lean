/- Acts of the laws of package table: as they come in, by value and in slices; replies. -/
import Derived.Test.YtmakibpbodfchaaOpenG
import Derived.Test.YtmakibpbodfchaaTabs
namespace Go.Proofs.Ytmakibpbodfchaa
open Go.RowKit

def Rep.wf (r : Rep) : Prop := I64 r.err ∧ I64 r.saga ∧ I64 r.st ∧ I64 r.step
/-- An act. -/
structure ActC where
  kind : Int
  client : Int
  request : Int
  rep : Rep
def ActC.cells (a : ActC) : List Value := [.int .i64 a.kind, .int .i64 a.client, .int .i64 a.request, .int .i64 a.rep.err, .int .i64 a.rep.saga, .int .i64 a.rep.st, .int .i64 a.rep.step]
def ActC.wf (a : ActC) : Prop := I64 a.kind ∧ I64 a.client ∧ I64 a.request ∧ a.rep.wf
theorem ActC.len (a : ActC) : a.cells.length = 7 := rfl
theorem ActC.one (a : ActC) : ∀ u ∈ a.cells, u.oneCell' = true := by
  intro u hu
  simp only [ActC.cells, List.mem_cons, List.not_mem_nil, or_false] at hu
  rcases hu with rfl | rfl | rfl | rfl | rfl | rfl | rfl <;> rfl
instance : Inhabited ActC := ⟨⟨0, 0, 0, .zero⟩⟩
/-- The slice v holds these acts. -/
def ActsAt (F : Nat → Prop) (w : World) (v : Value) (l : List ActC) : Prop := FlatAt F w 7 v l.length (l.flatMap ActC.cells)
theorem ActsAt.kept {F : Nat → Prop} {w w' : World} {v : Value} {l : List ActC} (h : ActsAt F w v l) (hk : Kept F w w') : ActsAt F w' v l := FlatAt.kept h hk
theorem ActsAt.at_ {F : Nat → Prop} {w : World} {v : Value} {l : List ActC} (h : ActsAt F w v l) {i : Nat} (hi : i < l.length) : ∃ a b off c, l[i]? = some a ∧ v = .slice (some ⟨b, off, none⟩) l.length c ∧ l.length ≤ c ∧ F b ∧ b < w.heap.size ∧ w.rangeAt b (off + i * 7) a.cells := by
  obtain ⟨b, off, c, hv, hc, hf, hb, hr⟩ := FlatAt.elem h hi
  have hs : l[i]? = some l[i] := List.getElem?_eq_getElem hi
  refine ⟨l[i], b, off, c, hs, hv, hc, hf, hb, ?_⟩
  rwa [flat_get ActC.cells 7 l i _ (fun y _ => y.len) hs] at hr
section
variable {H : Type} {enc : TypeId × Value → H} {W : World}
theorem open_rep {n : Nat} {cs : List Value} {x : DataW H × List MemPlace} (h : Rd enc W n 29 cs x) (hs : Sm 29 x.1) : ∃ a : Rep, cs = a.cells ∧ a.wf := by
  obtain ⟨m, hl, hf⟩ := open_fields Try.underlying29 h hs
  have hl : cs.length = 4 := hl
  match cs, hl with
  | [c0, c1, c2, c3], _ =>
    obtain ⟨y0, g0, s0⟩ := hf 0 _ rfl
    have g0 : Rd enc W m 27 [c0] y0 := (congrArg (fun q => DataW.trod enc Try.prog W 0 (fun _ => true) true m 27 q) (show ([c0, c1, c2, c3].drop 0).take (Try.prog.cellsOf 27) = [c0] from by rw [show Try.prog.cellsOf 27 = 1 from by kernel_rfl]; rfl)).symm.trans g0
    obtain ⟨a0, e0, w0⟩ := open_int1 Try.underlying27 g0
    obtain ⟨y1, g1, s1⟩ := hf 1 _ rfl
    have g1 : Rd enc W m 3 [c1] y1 := (congrArg (fun q => DataW.trod enc Try.prog W 0 (fun _ => true) true m 3 q) (show ([c0, c1, c2, c3].drop 1).take (Try.prog.cellsOf 3) = [c1] from by rw [show Try.prog.cellsOf 3 = 1 from by kernel_rfl]; rfl)).symm.trans g1
    obtain ⟨a1, e1, w1⟩ := open_int1 Try.underlying3 g1
    obtain ⟨y2, g2, s2⟩ := hf 2 _ rfl
    have g2 : Rd enc W m 3 [c2] y2 := (congrArg (fun q => DataW.trod enc Try.prog W 0 (fun _ => true) true m 3 q) (show ([c0, c1, c2, c3].drop 2).take (Try.prog.cellsOf 3) = [c2] from by rw [show Try.prog.cellsOf 3 = 1 from by kernel_rfl]; rfl)).symm.trans g2
    obtain ⟨a2, e2, w2⟩ := open_int1 Try.underlying3 g2
    obtain ⟨y3, g3, s3⟩ := hf 3 _ rfl
    have g3 : Rd enc W m 3 [c3] y3 := (congrArg (fun q => DataW.trod enc Try.prog W 0 (fun _ => true) true m 3 q) (show ([c0, c1, c2, c3].drop 3).take (Try.prog.cellsOf 3) = [c3] from by rw [show Try.prog.cellsOf 3 = 1 from by kernel_rfl]; rfl)).symm.trans g3
    obtain ⟨a3, e3, w3⟩ := open_int1 Try.underlying3 g3
    subst e0
    subst e1
    subst e2
    subst e3
    exact ⟨⟨a0, a1, a2, a3⟩, rfl, w0, w1, w2, w3⟩
theorem open_act {n : Nat} {cs : List Value} {x : DataW H × List MemPlace} (h : Rd enc W n 36 cs x) (hs : Sm 36 x.1) : ∃ a : ActC, cs = a.cells ∧ a.wf := by
  obtain ⟨m, hl, hf⟩ := open_fields Try.underlying36 h hs
  have hl : cs.length = 7 := hl
  match cs, hl with
  | [c0, c1, c2, c3, c4, c5, c6], _ =>
    obtain ⟨y0, g0, s0⟩ := hf 0 _ rfl
    have g0 : Rd enc W m 3 [c0] y0 := (congrArg (fun q => DataW.trod enc Try.prog W 0 (fun _ => true) true m 3 q) (show ([c0, c1, c2, c3, c4, c5, c6].drop 0).take (Try.prog.cellsOf 3) = [c0] from by rw [show Try.prog.cellsOf 3 = 1 from by kernel_rfl]; rfl)).symm.trans g0
    obtain ⟨a0, e0, w0⟩ := open_int1 Try.underlying3 g0
    obtain ⟨y1, g1, s1⟩ := hf 1 _ rfl
    have g1 : Rd enc W m 3 [c1] y1 := (congrArg (fun q => DataW.trod enc Try.prog W 0 (fun _ => true) true m 3 q) (show ([c0, c1, c2, c3, c4, c5, c6].drop 1).take (Try.prog.cellsOf 3) = [c1] from by rw [show Try.prog.cellsOf 3 = 1 from by kernel_rfl]; rfl)).symm.trans g1
    obtain ⟨a1, e1, w1⟩ := open_int1 Try.underlying3 g1
    obtain ⟨y2, g2, s2⟩ := hf 2 _ rfl
    have g2 : Rd enc W m 3 [c2] y2 := (congrArg (fun q => DataW.trod enc Try.prog W 0 (fun _ => true) true m 3 q) (show ([c0, c1, c2, c3, c4, c5, c6].drop 2).take (Try.prog.cellsOf 3) = [c2] from by rw [show Try.prog.cellsOf 3 = 1 from by kernel_rfl]; rfl)).symm.trans g2
    obtain ⟨a2, e2, w2⟩ := open_int1 Try.underlying3 g2
    obtain ⟨y3, g3, s3⟩ := hf 3 _ rfl
    have g3 : Rd enc W m 29 [c3, c4, c5, c6] y3 := (congrArg (fun q => DataW.trod enc Try.prog W 0 (fun _ => true) true m 29 q) (show ([c0, c1, c2, c3, c4, c5, c6].drop 3).take (Try.prog.cellsOf 29) = [c3, c4, c5, c6] from by rw [show Try.prog.cellsOf 29 = 4 from by kernel_rfl]; rfl)).symm.trans g3
    obtain ⟨a3, e3, w3⟩ := open_rep g3 s3
    subst e0
    subst e1
    subst e2
    simp only [Rep.cells, List.cons.injEq, and_true] at e3
    obtain ⟨rfl, rfl, rfl, rfl⟩ := e3
    exact ⟨⟨a0, a1, a2, a3⟩, rfl, w0, w1, w2, w3⟩
theorem arg_act {cs : Array Value} {d : DataW H} {p : List MemPlace} (h : DataW.Trod enc Try.prog W 0 (fun _ => true) true 36 (.agg cs) d p) (hs : Sm 36 d) : ∃ a : ActC, cs = a.cells.toArray ∧ a.wf := by
  obtain ⟨fuel, hf⟩ := h
  obtain ⟨a, e, wf⟩ := open_act (n := fuel) (x := (d, p)) hf hs
  refine ⟨a, ?_, wf⟩
  have e2 : cs.toList = a.cells := e
  rw [← e2]
theorem arg_rep {cs : Array Value} {d : DataW H} {p : List MemPlace} (h : DataW.Trod enc Try.prog W 0 (fun _ => true) true 29 (.agg cs) d p) (hs : Sm 29 d) : ∃ a : Rep, cs = a.cells.toArray ∧ a.wf := by
  obtain ⟨fuel, hf⟩ := h
  obtain ⟨a, e, wf⟩ := open_rep (n := fuel) (x := (d, p)) hf hs
  refine ⟨a, ?_, wf⟩
  have e2 : cs.toList = a.cells := e
  rw [← e2]
theorem arg_acts {A : Option Addr} {len cap : Nat} {d : DataW H} {p : List MemPlace} (h : DataW.Trod enc Try.prog W 0 (fun _ => true) true 22 (.slice A len cap) d p) (hs : Sm 22 d) : ∃ l : List ActC, ActsAt (· < W.heap.size) W (.slice A len cap) l ∧ ∀ a ∈ l, a.wf := by
  obtain ⟨fuel, hf⟩ := h
  obtain ⟨ys, h1, h2⟩ := open_elems ActC.cells ActC.wf 7 (by decide) ActC.len Try.underlying22 (by kernel_rfl) (fun n cs x h hs => open_act h hs) (fun y _ u hu => ActC.one y u hu) (n := fuel) (x := (d, p)) hf hs
  exact ⟨ys, h1, h2⟩
end
end Go.Proofs.Ytmakibpbodfchaa
