/- Acts of the laws of package oplog; from what a row says of them, and of operations, that came in to what the walks are told. -/
import Derived.Test.YtehcaigkohkbnaaOpenM
namespace Go.Proofs.Ytehcaigkohkbnaa
open Go.RowKit

/-- An act. -/
structure ActD where
  kind : Int
  n : Int
  op : OpD
  ops : List OpD
/-- Its cells: s its operation's steps, o its operations. -/
def ActD.cells (a : ActD) (s o : Value) : List Value := [.int .i64 a.kind, .int .i64 a.n, .int .i64 a.op.kind, .int .i64 a.op.client, .int .i64 a.op.request, .string a.op.name, s, .int .i64 a.op.saga, .int .i64 a.op.step, .int .i64 a.op.try_, .bool a.op.back, .bool a.op.good, o]
def ActD.wf (a : ActD) : Prop := I64 a.kind ∧ I64 a.n ∧ a.op.wf ∧ ∀ o ∈ a.ops, o.wf
/-- Its lists. -/
def ALists (F : Nat → Prop) (w : World) (a : ActD) (s o : Value) : Prop := StepsAt F w s a.op.steps ∧ OpsAt F w o a.ops
theorem ALists.kept {F : Nat → Prop} {w w' : World} {a : ActD} {s o : Value} (h : ALists F w a s o) (hk : Kept F w w') : ALists F w' a s o := ⟨h.1.kept hk, h.2.kept hk⟩
theorem ALists.mono {F G : Nat → Prop} {w : World} {a : ActD} {s o : Value} (h : ALists F w a s o) (hg : ∀ i, i < w.heap.size → F i → G i) : ALists G w a s o := ⟨h.1.mono hg, h.2.mono hg⟩
theorem ALists.cell {F : Nat → Prop} {w : World} {a : ActD} {s o : Value} (h : ALists F w a s o) : s.oneCell' = true ∧ o.oneCell' = true := by
  obtain ⟨h1, ps, _, h2⟩ := h
  exact ⟨FlatAt.oneCell h1, FlatAt.oneCell h2.1⟩
/-- An act, and its lists. -/
structure ActV where
  a : ActD
  s : Value
  o : Value
def ActV.cells (p : ActV) : List Value := p.a.cells p.s p.o
theorem ActV.len (p : ActV) : p.cells.length = 13 := rfl
theorem act_one (p : ActV) (h1 : p.s.oneCell' = true) (h2 : p.o.oneCell' = true) : ∀ u ∈ p.cells, u.oneCell' = true := by
  simp [ActV.cells, ActD.cells, h1, h2]
  simp [Value.oneCell']
/-- The slice v holds these acts. -/
def ActsIn (F : Nat → Prop) (w : World) (v : Value) (ps : List ActV) : Prop := FlatAt F w 13 v ps.length (ps.flatMap ActV.cells) ∧ ∀ p ∈ ps, ALists F w p.a p.s p.o
theorem ActsIn.kept {F : Nat → Prop} {w w' : World} {v : Value} {ps : List ActV} (h : ActsIn F w v ps) (hk : Kept F w w') : ActsIn F w' v ps := ⟨h.1.kept hk, fun p hp => (h.2 p hp).kept hk⟩
theorem ActsIn.at_ {F : Nat → Prop} {w : World} {v : Value} {ps : List ActV} (h : ActsIn F w v ps) {k : Nat} (hk : k < ps.length) : ∃ p b off c, ps[k]? = some p ∧ v = .slice (some ⟨b, off, none⟩) ps.length c ∧ ps.length ≤ c ∧ F b ∧ b < w.heap.size ∧ w.rangeAt b (off + k * 13) p.cells ∧ ALists F w p.a p.s p.o := by
  obtain ⟨b, off, c, hv, hc, hf, hb, hr⟩ := FlatAt.elem h.1 hk
  have hs : ps[k]? = some ps[k] := List.getElem?_eq_getElem hk
  refine ⟨ps[k], b, off, c, hs, hv, hc, hf, hb, ?_, h.2 _ (List.getElem_mem hk)⟩
  rwa [flat_get ActV.cells 13 ps k _ (fun _ _ => rfl) hs] at hr
instance : Inhabited ActV := ⟨⟨⟨0, 0, .zero, []⟩, .slice none 0 0, .slice none 0 0⟩⟩

section
variable {H : Type} {enc : TypeId × Value → H} {W : World}
set_option maxRecDepth 100000
theorem open_act {n : Nat} {cs : List Value} {x : DataW H × List MemPlace} (h : Rd enc W n 71 cs x) (hs : Sm 71 x.1) :
    ∃ p : ActV, cs = p.cells ∧ ALists (· < W.heap.size) W p.a p.s p.o ∧ p.a.wf := by
  obtain ⟨m, hl, hf⟩ := open_fields Try.underlying71 h hs
  have hl : cs.length = 13 := hl
  match cs, hl with
  | [c0, c1, c2, c3, c4, c5, c6, c7, c8, c9, c10, c11, c12], _ =>
    obtain ⟨y0, g0, s0⟩ := hf 0 _ rfl
    have g0 : Rd enc W m 3 [c0] y0 := (congrArg (fun q => DataW.trod enc Try.prog W 0 (fun _ => true) true m 3 q) (show ([c0, c1, c2, c3, c4, c5, c6, c7, c8, c9, c10, c11, c12].drop 0).take (Try.prog.cellsOf 3) = [c0] from by rw [show Try.prog.cellsOf 3 = 1 from by kernel_rfl]; rfl)).symm.trans g0
    obtain ⟨a0, e0, w0⟩ := open_int1 Try.underlying3 g0
    obtain ⟨y1, g1, s1⟩ := hf 1 _ rfl
    have g1 : Rd enc W m 3 [c1] y1 := (congrArg (fun q => DataW.trod enc Try.prog W 0 (fun _ => true) true m 3 q) (show ([c0, c1, c2, c3, c4, c5, c6, c7, c8, c9, c10, c11, c12].drop 1).take (Try.prog.cellsOf 3) = [c1] from by rw [show Try.prog.cellsOf 3 = 1 from by kernel_rfl]; rfl)).symm.trans g1
    obtain ⟨a1, e1, w1⟩ := open_int1 Try.underlying3 g1
    obtain ⟨y2, g2, s2⟩ := hf 2 _ rfl
    have g2 : Rd enc W m 33 [c2, c3, c4, c5, c6, c7, c8, c9, c10, c11] y2 := (congrArg (fun q => DataW.trod enc Try.prog W 0 (fun _ => true) true m 33 q) (show ([c0, c1, c2, c3, c4, c5, c6, c7, c8, c9, c10, c11, c12].drop 2).take (Try.prog.cellsOf 33) = [c2, c3, c4, c5, c6, c7, c8, c9, c10, c11] from by rw [show Try.prog.cellsOf 33 = 10 from by kernel_rfl]; rfl)).symm.trans g2
    obtain ⟨p, f2, st, wf2⟩ := open_op g2 s2
    obtain ⟨y3, g3, s3⟩ := hf 3 _ rfl
    have g3 : Rd enc W m 39 [c12] y3 := (congrArg (fun q => DataW.trod enc Try.prog W 0 (fun _ => true) true m 39 q) (show ([c0, c1, c2, c3, c4, c5, c6, c7, c8, c9, c10, c11, c12].drop 12).take (Try.prog.cellsOf 39) = [c12] from by rw [show Try.prog.cellsOf 39 = 1 from by kernel_rfl]; rfl)).symm.trans g3
    obtain ⟨l, hl3, wf3⟩ := open_ops g3 s3
    subst e0 e1
    simp only [OpD.cells, List.cons.injEq, and_true] at f2
    obtain ⟨rfl, rfl, rfl, rfl, rfl, rfl, rfl, rfl, rfl, rfl⟩ := f2
    exact ⟨⟨⟨a0, a1, p.1, l⟩, p.2, c12⟩, rfl, ⟨st, hl3⟩, w0, w1, wf2, wf3⟩
theorem open_acts {n : Nat} {v : Value} {x : DataW H × List MemPlace} (h : Rd enc W n 63 [v] x) (hs : Sm 63 x.1) : ∃ ps : List ActV, ActsIn (· < W.heap.size) W v ps ∧ ∀ p ∈ ps, p.a.wf := by
  obtain ⟨ys, h1, h2⟩ := open_elems ActV.cells (fun p => ALists (· < W.heap.size) W p.a p.s p.o ∧ p.a.wf) 13 (by decide) ActV.len Try.underlying63 (by kernel_rfl) (fun n cs x h hs => open_act h hs) (fun y hy => act_one y hy.1.cell.1 hy.1.cell.2) h hs
  exact ⟨ys, ⟨h1, fun p hp => (h2 p hp).1⟩, fun p hp => (h2 p hp).2⟩
/-- Arguments: a struct by value, slices. -/
theorem sm_of {ts : List TypeId} {ds : List (DataW H)} (hsz : (DataW.weightsEach Try.prog ts ds).all (· ≤ reachBytes) = true) {j : Nat} {t : TypeId} {d : DataW H} (ht : ts[j]? = some t) (hd : ds[j]? = some d) : Sm t d := fun n hn => by
  have := List.all_eq_true.1 hsz n (DataW.weights_mem_each ht hd n hn)
  simpa using this
theorem arg_act {cs : Array Value} {d : DataW H} {p : List MemPlace} (h : DataW.Trod enc Try.prog W 0 (fun _ => true) true 71 (.agg cs) d p) (hs : Sm 71 d) : ∃ q : ActV, cs = q.cells.toArray ∧ ALists (· < W.heap.size) W q.a q.s q.o ∧ q.a.wf := by
  obtain ⟨fuel, hf⟩ := h
  obtain ⟨q, e, hl, wf⟩ := open_act (n := fuel) (x := (d, p)) hf hs
  refine ⟨q, ?_, hl, wf⟩
  have e2 : cs.toList = q.cells := e
  rw [← e2]
theorem arg_acts {A : Option Addr} {len cap : Nat} {d : DataW H} {p : List MemPlace} (h : DataW.Trod enc Try.prog W 0 (fun _ => true) true 63 (.slice A len cap) d p) (hs : Sm 63 d) : ∃ ps : List ActV, ActsIn (· < W.heap.size) W (.slice A len cap) ps ∧ ∀ p ∈ ps, p.a.wf := by
  obtain ⟨fuel, hf⟩ := h
  exact open_acts (n := fuel) (x := (d, p)) hf hs
theorem arg_ops {A : Option Addr} {len cap : Nat} {d : DataW H} {p : List MemPlace} (h : DataW.Trod enc Try.prog W 0 (fun _ => true) true 39 (.slice A len cap) d p) (hs : Sm 39 d) : ∃ l : List OpD, OpsAt (· < W.heap.size) W (.slice A len cap) l ∧ ∀ o ∈ l, o.wf := by
  obtain ⟨fuel, hf⟩ := h
  exact open_ops (n := fuel) (x := (d, p)) hf hs
end
end Go.Proofs.Ytehcaigkohkbnaa
