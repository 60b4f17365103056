/- From what a row says of acts and lists of messages that came in to what the walks are told of them. -/
import Derived.Test.YtaimnhlpdkpobaaOpenM
import Derived.Test.YtaimnhlpdkpobaaLight
namespace Go.Proofs.Ytaimnhlpdkpobaa
open Go.RowKit

instance : Inhabited ActV := ⟨⟨⟨0, 0, .zero⟩, .slice none 0 0, .slice none 0 0, .slice none 0 0⟩⟩
/-- A message, and its lists. -/
structure MsgV where
  m : MsgD
  s : Value
  o : Value
  i : Value
def MsgV.cells (p : MsgV) : List Value := p.m.cells p.s p.o p.i
theorem MsgV.len (p : MsgV) : p.cells.length = 34 := rfl
instance : Inhabited MsgV := ⟨⟨.zero, .slice none 0 0, .slice none 0 0, .slice none 0 0⟩⟩
/-- The slice v holds these messages. -/
def MsgsIn (F : Nat → Prop) (w : World) (v : Value) (ps : List MsgV) : Prop := FlatAt F w 34 v ps.length (ps.flatMap MsgV.cells) ∧ ∀ p ∈ ps, Lists F w p.m p.s p.o p.i
theorem MsgsIn.kept {F : Nat → Prop} {w w' : World} {v : Value} {ps : List MsgV} (h : MsgsIn F w v ps) (hk : Kept F w w') : MsgsIn F w' v ps := ⟨h.1.kept hk, fun p hp => (h.2 p hp).kept hk⟩
section
variable {H : Type} {enc : TypeId × Value → H} {W : World}
set_option maxRecDepth 100000

theorem open_act {n : Nat} {cs : List Value} {x : DataW H × List MemPlace} (h : Rd enc W n 44 cs x) (hs : Sm 44 x.1) :
    ∃ p : ActV, cs = p.cells ∧ Lists (· < W.heap.size) W p.a.m p.s p.o p.i ∧ p.a.wf := by
  obtain ⟨m, hl, hf⟩ := open_fields Try.underlying44 h hs
  have hl : cs.length = 36 := hl
  rcases cs with _ | ⟨c0, cs⟩
  · simp at hl
  rcases cs with _ | ⟨c1, cs⟩
  · simp at hl
  rcases cs with _ | ⟨c2, cs⟩
  · simp at hl
  rcases cs with _ | ⟨c3, cs⟩
  · simp at hl
  rcases cs with _ | ⟨c4, cs⟩
  · simp at hl
  rcases cs with _ | ⟨c5, cs⟩
  · simp at hl
  rcases cs with _ | ⟨c6, cs⟩
  · simp at hl
  rcases cs with _ | ⟨c7, cs⟩
  · simp at hl
  rcases cs with _ | ⟨c8, cs⟩
  · simp at hl
  rcases cs with _ | ⟨c9, cs⟩
  · simp at hl
  rcases cs with _ | ⟨c10, cs⟩
  · simp at hl
  rcases cs with _ | ⟨c11, cs⟩
  · simp at hl
  rcases cs with _ | ⟨c12, cs⟩
  · simp at hl
  rcases cs with _ | ⟨c13, cs⟩
  · simp at hl
  rcases cs with _ | ⟨c14, cs⟩
  · simp at hl
  rcases cs with _ | ⟨c15, cs⟩
  · simp at hl
  rcases cs with _ | ⟨c16, cs⟩
  · simp at hl
  rcases cs with _ | ⟨c17, cs⟩
  · simp at hl
  rcases cs with _ | ⟨c18, cs⟩
  · simp at hl
  rcases cs with _ | ⟨c19, cs⟩
  · simp at hl
  rcases cs with _ | ⟨c20, cs⟩
  · simp at hl
  rcases cs with _ | ⟨c21, cs⟩
  · simp at hl
  rcases cs with _ | ⟨c22, cs⟩
  · simp at hl
  rcases cs with _ | ⟨c23, cs⟩
  · simp at hl
  rcases cs with _ | ⟨c24, cs⟩
  · simp at hl
  rcases cs with _ | ⟨c25, cs⟩
  · simp at hl
  rcases cs with _ | ⟨c26, cs⟩
  · simp at hl
  rcases cs with _ | ⟨c27, cs⟩
  · simp at hl
  rcases cs with _ | ⟨c28, cs⟩
  · simp at hl
  rcases cs with _ | ⟨c29, cs⟩
  · simp at hl
  rcases cs with _ | ⟨c30, cs⟩
  · simp at hl
  rcases cs with _ | ⟨c31, cs⟩
  · simp at hl
  rcases cs with _ | ⟨c32, cs⟩
  · simp at hl
  rcases cs with _ | ⟨c33, cs⟩
  · simp at hl
  rcases cs with _ | ⟨c34, cs⟩
  · simp at hl
  rcases cs with _ | ⟨c35, cs⟩
  · simp at hl
  obtain rfl : cs = [] := List.eq_nil_of_length_eq_zero (by simp only [List.length_cons] at hl; omega)
  · skip
    obtain ⟨y0, g0, s0⟩ := hf 0 _ rfl
    have g0 : Rd enc W m 3 [c0] y0 := (congrArg (fun q => DataW.trod enc Try.prog W 0 (fun _ => true) true m 3 q) (show ([c0, c1, c2, c3, c4, c5, c6, c7, c8, c9, c10, c11, c12, c13, c14, c15, c16, c17, c18, c19, c20, c21, c22, c23, c24, c25, c26, c27, c28, c29, c30, c31, c32, c33, c34, c35].drop 0).take (Try.prog.cellsOf 3) = [c0] from by rw [show Try.prog.cellsOf 3 = 1 from by kernel_rfl]; rfl)).symm.trans g0
    obtain ⟨a0, e0, w0⟩ := open_int1 Try.underlying3 g0
    obtain ⟨y1, g1, s1⟩ := hf 1 _ rfl
    have g1 : Rd enc W m 3 [c1] y1 := (congrArg (fun q => DataW.trod enc Try.prog W 0 (fun _ => true) true m 3 q) (show ([c0, c1, c2, c3, c4, c5, c6, c7, c8, c9, c10, c11, c12, c13, c14, c15, c16, c17, c18, c19, c20, c21, c22, c23, c24, c25, c26, c27, c28, c29, c30, c31, c32, c33, c34, c35].drop 1).take (Try.prog.cellsOf 3) = [c1] from by rw [show Try.prog.cellsOf 3 = 1 from by kernel_rfl]; rfl)).symm.trans g1
    obtain ⟨a1, e1, w1⟩ := open_int1 Try.underlying3 g1
    obtain ⟨y2, g2, s2⟩ := hf 2 _ rfl
    have g2 : Rd enc W m 42 [c2, c3, c4, c5, c6, c7, c8, c9, c10, c11, c12, c13, c14, c15, c16, c17, c18, c19, c20, c21, c22, c23, c24, c25, c26, c27, c28, c29, c30, c31, c32, c33, c34, c35] y2 := (congrArg (fun q => DataW.trod enc Try.prog W 0 (fun _ => true) true m 42 q) (show ([c0, c1, c2, c3, c4, c5, c6, c7, c8, c9, c10, c11, c12, c13, c14, c15, c16, c17, c18, c19, c20, c21, c22, c23, c24, c25, c26, c27, c28, c29, c30, c31, c32, c33, c34, c35].drop 2).take (Try.prog.cellsOf 42) = [c2, c3, c4, c5, c6, c7, c8, c9, c10, c11, c12, c13, c14, c15, c16, c17, c18, c19, c20, c21, c22, c23, c24, c25, c26, c27, c28, c29, c30, c31, c32, c33, c34, c35] from by rw [show Try.prog.cellsOf 42 = 34 from by kernel_rfl]; rfl)).symm.trans g2
    obtain ⟨m, s, o, i, f2, hl2, wf2⟩ := open_msg g2 s2
    subst e0 e1
    rw [f2]
    exact ⟨⟨⟨a0, a1, m⟩, s, o, i⟩, rfl, hl2, w0, w1, wf2⟩

theorem msg_one (p : MsgV) (h1 : p.s.oneCell' = true) (h2 : p.o.oneCell' = true) (h3 : p.i.oneCell' = true) : ∀ u ∈ p.cells, u.oneCell' = true := p.m.one h1 h2 h3
theorem open_acts {n : Nat} {v : Value} {x : DataW H × List MemPlace} (h : Rd enc W n 22 [v] x) (hs : Sm 22 x.1) : ∃ ps : List ActV, ActsIn (· < W.heap.size) W v ps ∧ ∀ p ∈ ps, p.a.wf := by
  obtain ⟨ys, h1, h2⟩ := open_elems ActV.cells (fun p => Lists (· < W.heap.size) W p.a.m p.s p.o p.i ∧ p.a.wf) 36 (by decide) ActV.len Try.underlying22 (by kernel_rfl) (fun n cs x h hs => open_act h hs) (fun y hy => act_one y hy.1.cell.1 hy.1.cell.2.1 hy.1.cell.2.2) h hs
  exact ⟨ys, ⟨h1, fun p hp => (h2 p hp).1⟩, fun p hp => (h2 p hp).2⟩
theorem open_msgs {n : Nat} {v : Value} {x : DataW H × List MemPlace} (h : Rd enc W n 66 [v] x) (hs : Sm 66 x.1) : ∃ ps : List MsgV, MsgsIn (· < W.heap.size) W v ps ∧ ∀ p ∈ ps, p.m.wf := by
  obtain ⟨ys, h1, h2⟩ := open_elems MsgV.cells (fun p => Lists (· < W.heap.size) W p.m p.s p.o p.i ∧ p.m.wf) 34 (by decide) MsgV.len Try.underlying66 (by kernel_rfl) (fun n cs x h hs => by
    obtain ⟨m, s, o, i, e, hl, wf⟩ := open_msg h hs
    exact ⟨⟨m, s, o, i⟩, e, hl, wf⟩) (fun y hy => msg_one y hy.1.cell.1 hy.1.cell.2.1 hy.1.cell.2.2) h hs
  exact ⟨ys, ⟨h1, fun p hp => (h2 p hp).1⟩, fun p hp => (h2 p hp).2⟩

/-- Arguments: a struct by value, a slice. -/
theorem sm_of {ts : List TypeId} {ds : List (DataW H)} (hsz : (DataW.weightsEach Try.prog ts ds).all (· ≤ reachBytes) = true) {j : Nat} {t : TypeId} {d : DataW H} (ht : ts[j]? = some t) (hd : ds[j]? = some d) : Sm t d := fun n hn => by
  have := List.all_eq_true.1 hsz n (DataW.weights_mem_each ht hd n hn)
  simpa using this
theorem arg_msg {cs : Array Value} {d : DataW H} {p : List MemPlace} (h : DataW.Trod enc Try.prog W 0 (fun _ => true) true 42 (.agg cs) d p) (hs : Sm 42 d) : ∃ (m : MsgD) (s o i : Value), cs = (m.cells s o i).toArray ∧ Lists (· < W.heap.size) W m s o i ∧ m.wf := by
  obtain ⟨fuel, hf⟩ := h
  obtain ⟨m, s, o, i, e, hl, wf⟩ := open_msg (n := fuel) (x := (d, p)) hf hs
  refine ⟨m, s, o, i, ?_, hl, wf⟩
  have e2 : cs.toList = m.cells s o i := e
  rw [← e2]
theorem arg_act {cs : Array Value} {d : DataW H} {p : List MemPlace} (h : DataW.Trod enc Try.prog W 0 (fun _ => true) true 44 (.agg cs) d p) (hs : Sm 44 d) : ∃ q : ActV, cs = q.cells.toArray ∧ Lists (· < W.heap.size) W q.a.m q.s q.o q.i ∧ q.a.wf := by
  obtain ⟨fuel, hf⟩ := h
  obtain ⟨q, e, hl, wf⟩ := open_act (n := fuel) (x := (d, p)) hf hs
  refine ⟨q, ?_, hl, wf⟩
  have e2 : cs.toList = q.cells := e
  rw [← e2]
theorem arg_acts {A : Option Addr} {len cap : Nat} {d : DataW H} {p : List MemPlace} (h : DataW.Trod enc Try.prog W 0 (fun _ => true) true 22 (.slice A len cap) d p) (hs : Sm 22 d) : ∃ ps : List ActV, ActsIn (· < W.heap.size) W (.slice A len cap) ps ∧ ∀ p ∈ ps, p.a.wf := by
  obtain ⟨fuel, hf⟩ := h
  exact open_acts (n := fuel) (x := (d, p)) hf hs
theorem arg_msgs {A : Option Addr} {len cap : Nat} {d : DataW H} {p : List MemPlace} (h : DataW.Trod enc Try.prog W 0 (fun _ => true) true 66 (.slice A len cap) d p) (hs : Sm 66 d) : ∃ ps : List MsgV, MsgsIn (· < W.heap.size) W (.slice A len cap) ps ∧ ∀ p ∈ ps, p.m.wf := by
  obtain ⟨fuel, hf⟩ := h
  exact open_msgs (n := fuel) (x := (d, p)) hf hs
end
end Go.Proofs.Ytaimnhlpdkpobaa
