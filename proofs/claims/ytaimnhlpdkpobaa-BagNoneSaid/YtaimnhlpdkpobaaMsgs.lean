/- Steps, operations and messages: what they say, and how they lie in memory. -/
import Derived.Test.YtaimnhlpdkpobaaFlat
namespace Go.Proofs.Ytaimnhlpdkpobaa
open Go.RowKit

/-- A step. -/
structure StepD where
  name : ByteArray
  stub : Int
  retry : Int
  wait : Int
  undo : Bool
  pivot : Bool
  deriving DecidableEq
namespace StepD
def cells (s : StepD) : List Value := [.string s.name, .int .i64 s.stub, .int .i64 s.retry, .int .i64 s.wait, .bool s.undo, .bool s.pivot]
theorem len (s : StepD) : s.cells.length = 6 := rfl
theorem one (s : StepD) : ∀ u ∈ s.cells, u.oneCell' = true := by simp [cells, Value.oneCell']
end StepD

def I64 (x : Int) : Prop := -9223372036854775808 ≤ x ∧ x < 9223372036854775808
def StepD.wf (s : StepD) : Prop := s.name.size ≤ 140737488355328 ∧ I64 s.stub ∧ I64 s.retry ∧ I64 s.wait

/-- An operation. -/
structure OpD where
  kind : Int
  client : Int
  request : Int
  name : ByteArray
  steps : List StepD
  saga : Int
  step : Int
  try_ : Int
  back : Bool
  good : Bool
  deriving DecidableEq
namespace OpD
/-- Its cells, its steps' slice being s. -/
def cells (o : OpD) (s : Value) : List Value := [.int .i64 o.kind, .int .i64 o.client, .int .i64 o.request, .string o.name, s, .int .i64 o.saga, .int .i64 o.step, .int .i64 o.try_, .bool o.back, .bool o.good]
theorem len (o : OpD) (s : Value) : (o.cells s).length = 10 := rfl
def wf (o : OpD) : Prop := I64 o.kind ∧ I64 o.client ∧ I64 o.request ∧ o.name.size ≤ 140737488355328 ∧ (∀ s ∈ o.steps, s.wf) ∧ I64 o.saga ∧ I64 o.step ∧ I64 o.try_
def zero : OpD := ⟨0, 0, 0, ⟨#[]⟩, [], 0, 0, 0, false, false⟩
end OpD

/-- The slice v holds these steps. -/
def StepsAt (F : Nat → Prop) (w : World) (v : Value) (l : List StepD) : Prop := FlatAt F w 6 v l.length (l.flatMap StepD.cells)
/-- The value v is this operation. -/
def OpAt (F : Nat → Prop) (w : World) (v : Value) (o : OpD) : Prop := ∃ s, v = .agg (o.cells s).toArray ∧ StepsAt F w s o.steps ∧ s.oneCell' = true
/-- The slice v holds these operations, their steps' slices beside them. -/
def OpsIn (F : Nat → Prop) (w : World) (v : Value) (ps : List (OpD × Value)) : Prop :=
  FlatAt F w 10 v ps.length (ps.flatMap fun p => p.1.cells p.2) ∧ ∀ p ∈ ps, StepsAt F w p.2 p.1.steps
def OpsAt (F : Nat → Prop) (w : World) (v : Value) (l : List OpD) : Prop := ∃ ps, ps.map (·.1) = l ∧ OpsIn F w v ps
/-- The slice v holds these integers. -/
def IncsAt (F : Nat → Prop) (w : World) (v : Value) (l : List Int) : Prop := FlatAt F w 1 v l.length (l.map fun x => .int .i64 x)

section
variable {F G : Nat → Prop} {w w' : World} {v : Value}
theorem StepsAt.kept {l : List StepD} (h : StepsAt F w v l) (hk : Kept F w w') : StepsAt F w' v l := FlatAt.kept h hk
theorem StepsAt.mono {l : List StepD} (h : StepsAt F w v l) (hg : ∀ i, i < w.heap.size → F i → G i) : StepsAt G w v l := FlatAt.mono h hg
theorem IncsAt.kept {l : List Int} (h : IncsAt F w v l) (hk : Kept F w w') : IncsAt F w' v l := FlatAt.kept h hk
theorem IncsAt.mono {l : List Int} (h : IncsAt F w v l) (hg : ∀ i, i < w.heap.size → F i → G i) : IncsAt G w v l := FlatAt.mono h hg
theorem OpsIn.kept {ps : List (OpD × Value)} (h : OpsIn F w v ps) (hk : Kept F w w') : OpsIn F w' v ps := ⟨h.1.kept hk, fun p hp => (h.2 p hp).kept hk⟩
theorem OpsIn.mono {ps : List (OpD × Value)} (h : OpsIn F w v ps) (hg : ∀ i, i < w.heap.size → F i → G i) : OpsIn G w v ps := ⟨h.1.mono hg, fun p hp => (h.2 p hp).mono hg⟩
theorem OpsAt.kept {l : List OpD} (h : OpsAt F w v l) (hk : Kept F w w') : OpsAt F w' v l := let ⟨ps, e, h'⟩ := h; ⟨ps, e, h'.kept hk⟩
theorem OpsAt.mono {l : List OpD} (h : OpsAt F w v l) (hg : ∀ i, i < w.heap.size → F i → G i) : OpsAt G w v l := let ⟨ps, e, h'⟩ := h; ⟨ps, e, h'.mono hg⟩
theorem OpAt.kept {o : OpD} (h : OpAt F w v o) (hk : Kept F w w') : OpAt F w' v o := let ⟨s, e, h', h1⟩ := h; ⟨s, e, h'.kept hk, h1⟩
theorem OpAt.mono {o : OpD} (h : OpAt F w v o) (hg : ∀ i, i < w.heap.size → F i → G i) : OpAt G w v o := let ⟨s, e, h', h1⟩ := h; ⟨s, e, h'.mono hg, h1⟩
theorem FlatAt.oneCell {k n : Nat} {xs : List Value} (h : FlatAt F w k v n xs) : v.oneCell' = true := by
  obtain ⟨_, _, _, _, rfl, _⟩ := h
  rfl
theorem StepsAt.nil_ (F : Nat → Prop) (w : World) : StepsAt F w (.slice none 0 0) [] := FlatAt.nil_ F w 6
theorem IncsAt.nil_ (F : Nat → Prop) (w : World) : IncsAt F w (.slice none 0 0) [] := FlatAt.nil_ F w 1
theorem OpsAt.nil_ (F : Nat → Prop) (w : World) : OpsAt F w (.slice none 0 0) [] := ⟨[], rfl, FlatAt.nil_ F w 10, by simp⟩
theorem OpsIn.one {ps : List (OpD × Value)} (h : OpsIn F w v ps) : ∀ u ∈ ps.flatMap (fun p => p.1.cells p.2), u.oneCell' = true := h.1.2.1

/-- The step at i, and its cells. -/
theorem StepsAt.at_ {l : List StepD} (h : StepsAt F w v l) {i : Nat} (hi : i < l.length) : ∃ s b off c, l[i]? = some s ∧ v = .slice (some ⟨b, off, none⟩) l.length c ∧ l.length ≤ c ∧ F b ∧ b < w.heap.size ∧ w.rangeAt b (off + i * 6) s.cells := by
  obtain ⟨b, off, c, hv, hc, hf, hb, hr⟩ := FlatAt.elem h hi
  have hs : l[i]? = some l[i] := List.getElem?_eq_getElem hi
  refine ⟨l[i], b, off, c, hs, hv, hc, hf, hb, ?_⟩
  rwa [flat_get StepD.cells 6 l i _ (fun y _ => y.len) hs] at hr
theorem OpsIn.at_ {ps : List (OpD × Value)} (h : OpsIn F w v ps) {i : Nat} (hi : i < ps.length) : ∃ o s b off c, ps[i]? = some (o, s) ∧ v = .slice (some ⟨b, off, none⟩) ps.length c ∧ ps.length ≤ c ∧ F b ∧ b < w.heap.size ∧ w.rangeAt b (off + i * 10) (o.cells s) ∧ StepsAt F w s o.steps := by
  obtain ⟨b, off, c, hv, hc, hf, hb, hr⟩ := FlatAt.elem h.1 hi
  have hs : ps[i]? = some ps[i] := List.getElem?_eq_getElem hi
  refine ⟨ps[i].1, ps[i].2, b, off, c, hs, hv, hc, hf, hb, ?_, h.2 _ (List.getElem_mem hi)⟩
  rwa [flat_get (fun p : OpD × Value => p.1.cells p.2) 10 ps i _ (fun y _ => y.1.len y.2) hs] at hr
theorem IncsAt.at_ {l : List Int} (h : IncsAt F w v l) {i : Nat} (hi : i < l.length) : ∃ x b off c, l[i]? = some x ∧ v = .slice (some ⟨b, off, none⟩) l.length c ∧ l.length ≤ c ∧ F b ∧ b < w.heap.size ∧ w.cell? ⟨b, off + i, none⟩ = some (.int .i64 x) := by
  obtain ⟨b, off, c, hv, hc, hf, hb, hr⟩ := FlatAt.elem h hi
  have hs : l[i]? = some l[i] := List.getElem?_eq_getElem hi
  refine ⟨l[i], b, off, c, hs, hv, hc, hf, hb, ?_⟩
  have := hr 0 (.int .i64 l[i]) (by simp [List.getElem?_drop, hs])
  simpa using this
end

/-- A message. -/
structure MsgD where
  kind : Int
  src : Int
  dst : Int
  view : Int
  last : Int
  num : Int
  commit : Int
  nonce : Int
  request : Int
  lead : Bool
  good : Bool
  fenced : Bool
  op : OpD
  rerr : Int
  rsaga : Int
  rstate : Int
  rstep : Int
  cview : Int
  cstub : Int
  csaga : Int
  cstep : Int
  ctry : Int
  cback : Bool
  ops : List OpD
  incs : List Int
  deriving DecidableEq
namespace MsgD
/-- Its cells ahead of its operation, and behind it. -/
def front (m : MsgD) : List Value := [.int .i64 m.kind, .int .i64 m.src, .int .i64 m.dst, .int .i64 m.view, .int .i64 m.last, .int .i64 m.num, .int .i64 m.commit, .int .i64 m.nonce, .int .i64 m.request, .bool m.lead, .bool m.good, .bool m.fenced]
def middle (m : MsgD) : List Value := [.int .i64 m.rerr, .int .i64 m.rsaga, .int .i64 m.rstate, .int .i64 m.rstep, .int .i64 m.cview, .int .i64 m.cstub, .int .i64 m.csaga, .int .i64 m.cstep, .int .i64 m.ctry, .bool m.cback]
/-- Its cells: s its operation's steps, o its operations, i its incarnations. -/
def cells (m : MsgD) (s o i : Value) : List Value :=
  [.int .i64 m.kind, .int .i64 m.src, .int .i64 m.dst, .int .i64 m.view, .int .i64 m.last, .int .i64 m.num, .int .i64 m.commit, .int .i64 m.nonce, .int .i64 m.request, .bool m.lead, .bool m.good, .bool m.fenced,
   .int .i64 m.op.kind, .int .i64 m.op.client, .int .i64 m.op.request, .string m.op.name, s, .int .i64 m.op.saga, .int .i64 m.op.step, .int .i64 m.op.try_, .bool m.op.back, .bool m.op.good,
   .int .i64 m.rerr, .int .i64 m.rsaga, .int .i64 m.rstate, .int .i64 m.rstep, .int .i64 m.cview, .int .i64 m.cstub, .int .i64 m.csaga, .int .i64 m.cstep, .int .i64 m.ctry, .bool m.cback, o, i]
theorem len (m : MsgD) (s o i : Value) : (m.cells s o i).length = 34 := rfl
def wf (m : MsgD) : Prop :=
  I64 m.kind ∧ I64 m.src ∧ I64 m.dst ∧ I64 m.view ∧ I64 m.last ∧ I64 m.num ∧ I64 m.commit ∧ I64 m.nonce ∧ I64 m.request ∧ m.op.wf ∧ I64 m.rerr ∧ I64 m.rsaga ∧ I64 m.rstate ∧ I64 m.rstep ∧
  I64 m.cview ∧ I64 m.cstub ∧ I64 m.csaga ∧ I64 m.cstep ∧ I64 m.ctry ∧ (∀ o ∈ m.ops, o.wf) ∧ (∀ x ∈ m.incs, I64 x)
def zero : MsgD := ⟨0, 0, 0, 0, 0, 0, 0, 0, 0, false, false, false, .zero, 0, 0, 0, 0, 0, 0, 0, 0, 0, false, [], []⟩
end MsgD

/-- The lists of a message's value: its operation's steps, its operations, its incarnations. -/
def Lists (F : Nat → Prop) (w : World) (m : MsgD) (s o i : Value) : Prop := StepsAt F w s m.op.steps ∧ OpsAt F w o m.ops ∧ IncsAt F w i m.incs
/-- The value v is this message. -/
def MsgAt (F : Nat → Prop) (w : World) (v : Value) (m : MsgD) : Prop := ∃ s o i, v = .agg (m.cells s o i).toArray ∧ Lists F w m s o i
section
variable {F G : Nat → Prop} {w w' : World} {v s o i : Value} {m : MsgD}
theorem Lists.kept (h : Lists F w m s o i) (hk : Kept F w w') : Lists F w' m s o i := ⟨h.1.kept hk, h.2.1.kept hk, h.2.2.kept hk⟩
theorem Lists.mono (h : Lists F w m s o i) (hg : ∀ i, i < w.heap.size → F i → G i) : Lists G w m s o i := ⟨h.1.mono hg, h.2.1.mono hg, h.2.2.mono hg⟩
theorem MsgAt.kept (h : MsgAt F w v m) (hk : Kept F w w') : MsgAt F w' v m := let ⟨s, o, i, e, h'⟩ := h; ⟨s, o, i, e, h'.kept hk⟩
theorem MsgAt.mono (h : MsgAt F w v m) (hg : ∀ i, i < w.heap.size → F i → G i) : MsgAt G w v m := let ⟨s, o, i, e, h'⟩ := h; ⟨s, o, i, e, h'.mono hg⟩
theorem Lists.cell (h : Lists F w m s o i) : s.oneCell' = true ∧ o.oneCell' = true ∧ i.oneCell' = true := by
  obtain ⟨h1, ⟨ps, _, h2⟩, h3⟩ := h
  exact ⟨FlatAt.oneCell h1, FlatAt.oneCell h2.1, FlatAt.oneCell h3⟩
theorem MsgD.one (m : MsgD) (h1 : s.oneCell' = true) (h2 : o.oneCell' = true) (h3 : i.oneCell' = true) : ∀ u ∈ m.cells s o i, u.oneCell' = true := by
  simp [MsgD.cells, h1, h2, h3]
  simp [Value.oneCell']
theorem OpD.one (x : OpD) (h1 : s.oneCell' = true) : ∀ u ∈ x.cells s, u.oneCell' = true := by
  simp [OpD.cells, h1]
  simp [Value.oneCell']
theorem MsgAt.zero (F : Nat → Prop) (w : World) : MsgAt F w (.agg (MsgD.zero.cells (.slice none 0 0) (.slice none 0 0) (.slice none 0 0)).toArray) .zero :=
  ⟨_, _, _, rfl, StepsAt.nil_ F w, OpsAt.nil_ F w, IncsAt.nil_ F w⟩
end

/-- The cells of a block that is known whole. -/
theorem box10 {w : World} {g t : Nat} {c0 c1 c2 c3 c4 c5 c6 c7 c8 c9 : Value} (h : w.heap[g]? = some (.cells #[c0, c1, c2, c3, c4, c5, c6, c7, c8, c9] t (0, 0))) :
    w.cell? ⟨g, 0, none⟩ = some c0 ∧ w.cell? ⟨g, 1, none⟩ = some c1 ∧ w.cell? ⟨g, 2, none⟩ = some c2 ∧ w.cell? ⟨g, 3, none⟩ = some c3 ∧ w.cell? ⟨g, 4, none⟩ = some c4 ∧ w.cell? ⟨g, 5, none⟩ = some c5 ∧ w.cell? ⟨g, 6, none⟩ = some c6 ∧ w.cell? ⟨g, 7, none⟩ = some c7 ∧ w.cell? ⟨g, 8, none⟩ = some c8 ∧ w.cell? ⟨g, 9, none⟩ = some c9 :=
  ⟨cell_of_row w g 0 _ t (0, 0) h, cell_of_row w g 1 _ t (0, 0) h, cell_of_row w g 2 _ t (0, 0) h, cell_of_row w g 3 _ t (0, 0) h, cell_of_row w g 4 _ t (0, 0) h, cell_of_row w g 5 _ t (0, 0) h, cell_of_row w g 6 _ t (0, 0) h, cell_of_row w g 7 _ t (0, 0) h, cell_of_row w g 8 _ t (0, 0) h, cell_of_row w g 9 _ t (0, 0) h⟩
theorem box34 {w : World} {g t : Nat} {c0 c1 c2 c3 c4 c5 c6 c7 c8 c9 c10 c11 c12 c13 c14 c15 c16 c17 c18 c19 c20 c21 c22 c23 c24 c25 c26 c27 c28 c29 c30 c31 c32 c33 : Value} (h : w.heap[g]? = some (.cells #[c0, c1, c2, c3, c4, c5, c6, c7, c8, c9, c10, c11, c12, c13, c14, c15, c16, c17, c18, c19, c20, c21, c22, c23, c24, c25, c26, c27, c28, c29, c30, c31, c32, c33] t (0, 0))) :
    w.cell? ⟨g, 0, none⟩ = some c0 ∧ w.cell? ⟨g, 1, none⟩ = some c1 ∧ w.cell? ⟨g, 2, none⟩ = some c2 ∧ w.cell? ⟨g, 3, none⟩ = some c3 ∧ w.cell? ⟨g, 4, none⟩ = some c4 ∧ w.cell? ⟨g, 5, none⟩ = some c5 ∧ w.cell? ⟨g, 6, none⟩ = some c6 ∧ w.cell? ⟨g, 7, none⟩ = some c7 ∧ w.cell? ⟨g, 8, none⟩ = some c8 ∧ w.cell? ⟨g, 9, none⟩ = some c9 ∧ w.cell? ⟨g, 10, none⟩ = some c10 ∧ w.cell? ⟨g, 11, none⟩ = some c11 ∧ w.cell? ⟨g, 12, none⟩ = some c12 ∧ w.cell? ⟨g, 13, none⟩ = some c13 ∧ w.cell? ⟨g, 14, none⟩ = some c14 ∧ w.cell? ⟨g, 15, none⟩ = some c15 ∧ w.cell? ⟨g, 16, none⟩ = some c16 ∧ w.cell? ⟨g, 17, none⟩ = some c17 ∧ w.cell? ⟨g, 18, none⟩ = some c18 ∧ w.cell? ⟨g, 19, none⟩ = some c19 ∧ w.cell? ⟨g, 20, none⟩ = some c20 ∧ w.cell? ⟨g, 21, none⟩ = some c21 ∧ w.cell? ⟨g, 22, none⟩ = some c22 ∧ w.cell? ⟨g, 23, none⟩ = some c23 ∧ w.cell? ⟨g, 24, none⟩ = some c24 ∧ w.cell? ⟨g, 25, none⟩ = some c25 ∧ w.cell? ⟨g, 26, none⟩ = some c26 ∧ w.cell? ⟨g, 27, none⟩ = some c27 ∧ w.cell? ⟨g, 28, none⟩ = some c28 ∧ w.cell? ⟨g, 29, none⟩ = some c29 ∧ w.cell? ⟨g, 30, none⟩ = some c30 ∧ w.cell? ⟨g, 31, none⟩ = some c31 ∧ w.cell? ⟨g, 32, none⟩ = some c32 ∧ w.cell? ⟨g, 33, none⟩ = some c33 :=
  ⟨cell_of_row w g 0 _ t (0, 0) h, cell_of_row w g 1 _ t (0, 0) h, cell_of_row w g 2 _ t (0, 0) h, cell_of_row w g 3 _ t (0, 0) h, cell_of_row w g 4 _ t (0, 0) h, cell_of_row w g 5 _ t (0, 0) h, cell_of_row w g 6 _ t (0, 0) h, cell_of_row w g 7 _ t (0, 0) h, cell_of_row w g 8 _ t (0, 0) h, cell_of_row w g 9 _ t (0, 0) h, cell_of_row w g 10 _ t (0, 0) h, cell_of_row w g 11 _ t (0, 0) h, cell_of_row w g 12 _ t (0, 0) h, cell_of_row w g 13 _ t (0, 0) h, cell_of_row w g 14 _ t (0, 0) h, cell_of_row w g 15 _ t (0, 0) h, cell_of_row w g 16 _ t (0, 0) h, cell_of_row w g 17 _ t (0, 0) h, cell_of_row w g 18 _ t (0, 0) h, cell_of_row w g 19 _ t (0, 0) h, cell_of_row w g 20 _ t (0, 0) h, cell_of_row w g 21 _ t (0, 0) h, cell_of_row w g 22 _ t (0, 0) h, cell_of_row w g 23 _ t (0, 0) h, cell_of_row w g 24 _ t (0, 0) h, cell_of_row w g 25 _ t (0, 0) h, cell_of_row w g 26 _ t (0, 0) h, cell_of_row w g 27 _ t (0, 0) h, cell_of_row w g 28 _ t (0, 0) h, cell_of_row w g 29 _ t (0, 0) h, cell_of_row w g 30 _ t (0, 0) h, cell_of_row w g 31 _ t (0, 0) h, cell_of_row w g 32 _ t (0, 0) h, cell_of_row w g 33 _ t (0, 0) h⟩
theorem box_free {w : World} {g t : Nat} {cs : Array Value} (h : w.heap[g]? = some (.cells cs t (0, 0))) (j : Nat) : w.frozen? ⟨g, j, none⟩ = false := frozen_of_row w g j cs t h
/-- The cells of a range, one by one. -/
theorem range_step {w : World} {b o : Nat} {s : StepD} (h : w.rangeAt b o s.cells) :
    w.cell? ⟨b, o, none⟩ = some (.string s.name) ∧ w.cell? ⟨b, o + 1, none⟩ = some (.int .i64 s.stub) ∧ w.cell? ⟨b, o + 2, none⟩ = some (.int .i64 s.retry) ∧ w.cell? ⟨b, o + 3, none⟩ = some (.int .i64 s.wait) ∧
    w.cell? ⟨b, o + 4, none⟩ = some (.bool s.undo) ∧ w.cell? ⟨b, o + 5, none⟩ = some (.bool s.pivot) :=
  ⟨h 0 _ rfl, h 1 _ rfl, h 2 _ rfl, h 3 _ rfl, h 4 _ rfl, h 5 _ rfl⟩
theorem range_op {w : World} {b p : Nat} {o : OpD} {s : Value} (h : w.rangeAt b p (o.cells s)) :
    w.cell? ⟨b, p, none⟩ = some (.int .i64 o.kind) ∧ w.cell? ⟨b, p + 1, none⟩ = some (.int .i64 o.client) ∧ w.cell? ⟨b, p + 2, none⟩ = some (.int .i64 o.request) ∧ w.cell? ⟨b, p + 3, none⟩ = some (.string o.name) ∧
    w.cell? ⟨b, p + 4, none⟩ = some s ∧ w.cell? ⟨b, p + 5, none⟩ = some (.int .i64 o.saga) ∧ w.cell? ⟨b, p + 6, none⟩ = some (.int .i64 o.step) ∧ w.cell? ⟨b, p + 7, none⟩ = some (.int .i64 o.try_) ∧
    w.cell? ⟨b, p + 8, none⟩ = some (.bool o.back) ∧ w.cell? ⟨b, p + 9, none⟩ = some (.bool o.good) :=
  ⟨h 0 _ rfl, h 1 _ rfl, h 2 _ rfl, h 3 _ rfl, h 4 _ rfl, h 5 _ rfl, h 6 _ rfl, h 7 _ rfl, h 8 _ rfl, h 9 _ rfl⟩
end Go.Proofs.Ytaimnhlpdkpobaa
