/- From what a row says of lists of messages that came in to what the walks are told of them. -/
import Derived.Test.YtflphpjfmbkeiaaOpenM
import Derived.Test.YtflphpjfmbkeiaaBox
namespace Go.Proofs.Ytflphpjfmbkeiaa
open Go.RowKit

/-- A message, and its lists. -/
structure MsgV where
  m : MsgD
  s : Value
  o : Value
  i : Value
def MsgV.cells (p : MsgV) : List Value := p.m.cells p.s p.o p.i
theorem MsgV.len (p : MsgV) : p.cells.length = 34 := rfl
instance : Inhabited MsgV := ⟨⟨.zero, .slice none 0 0, .slice none 0 0, .slice none 0 0⟩⟩
/-- The slice v holds these messages. -/
def MsgsIn (F : Nat → Prop) (w : World) (v : Value) (ps : List MsgV) : Prop := FlatAt F w 34 v ps.length (ps.flatMap MsgV.cells) ∧ ∀ p ∈ ps, Lists F w p.m p.s p.o p.i
theorem MsgsIn.kept {F : Nat → Prop} {w w' : World} {v : Value} {ps : List MsgV} (h : MsgsIn F w v ps) (hk : Kept F w w') : MsgsIn F w' v ps := ⟨h.1.kept hk, fun p hp => (h.2 p hp).kept hk⟩
section
variable {H : Type} {enc : TypeId × Value → H} {W : World}
theorem msg_one (p : MsgV) (h1 : p.s.oneCell' = true) (h2 : p.o.oneCell' = true) (h3 : p.i.oneCell' = true) : ∀ u ∈ p.cells, u.oneCell' = true := p.m.one h1 h2 h3
theorem open_msgs {n : Nat} {v : Value} {x : DataW H × List MemPlace} (h : Rd enc W n 23 [v] x) (hs : Sm 23 x.1) : ∃ ps : List MsgV, MsgsIn (· < W.heap.size) W v ps ∧ ∀ p ∈ ps, p.m.wf := by
  obtain ⟨ys, h1, h2⟩ := open_elems MsgV.cells (fun p => Lists (· < W.heap.size) W p.m p.s p.o p.i ∧ p.m.wf) 34 (by decide) MsgV.len Try.underlying23 (by kernel_rfl) (fun n cs x h hs => by
    obtain ⟨m, s, o, i, e, hl, wf⟩ := open_msg h hs
    exact ⟨⟨m, s, o, i⟩, e, hl, wf⟩) (fun y hy => msg_one y hy.1.cell.1 hy.1.cell.2.1 hy.1.cell.2.2) h hs
  exact ⟨ys, ⟨h1, fun p hp => (h2 p hp).1⟩, fun p hp => (h2 p hp).2⟩

/-- Arguments: a struct by value, a slice. -/
theorem sm_of {ts : List TypeId} {ds : List (DataW H)} (hsz : (DataW.weightsEach Try.prog ts ds).all (· ≤ reachBytes) = true) {j : Nat} {t : TypeId} {d : DataW H} (ht : ts[j]? = some t) (hd : ds[j]? = some d) : Sm t d := fun n hn => by
  have := List.all_eq_true.1 hsz n (DataW.weights_mem_each ht hd n hn)
  simpa using this
theorem arg_msg {cs : Array Value} {d : DataW H} {p : List MemPlace} (h : DataW.Trod enc Try.prog W 0 (fun _ => true) true 40 (.agg cs) d p) (hs : Sm 40 d) : ∃ (m : MsgD) (s o i : Value), cs = (m.cells s o i).toArray ∧ Lists (· < W.heap.size) W m s o i ∧ m.wf := by
  obtain ⟨fuel, hf⟩ := h
  obtain ⟨m, s, o, i, e, hl, wf⟩ := open_msg (n := fuel) (x := (d, p)) hf hs
  refine ⟨m, s, o, i, ?_, hl, wf⟩
  have e2 : cs.toList = m.cells s o i := e
  rw [← e2]
theorem arg_msgs {A : Option Addr} {len cap : Nat} {d : DataW H} {p : List MemPlace} (h : DataW.Trod enc Try.prog W 0 (fun _ => true) true 23 (.slice A len cap) d p) (hs : Sm 23 d) : ∃ ps : List MsgV, MsgsIn (· < W.heap.size) W (.slice A len cap) ps ∧ ∀ p ∈ ps, p.m.wf := by
  obtain ⟨fuel, hf⟩ := h
  exact open_msgs (n := fuel) (x := (d, p)) hf hs
end
theorem MsgsIn.at_ {F : Nat → Prop} {w : World} {v : Value} {ps : List MsgV} (h : MsgsIn F w v ps) {k : Nat} (hk : k < ps.length) : ∃ p b off c, ps[k]? = some p ∧ v = .slice (some ⟨b, off, none⟩) ps.length c ∧ ps.length ≤ c ∧ F b ∧ b < w.heap.size ∧ w.rangeAt b (off + k * 34) p.cells ∧ Lists F w p.m p.s p.o p.i := by
  obtain ⟨b, off, c, hv, hc, hf, hb, hr⟩ := FlatAt.elem h.1 hk
  have hs : ps[k]? = some ps[k] := List.getElem?_eq_getElem hk
  refine ⟨ps[k], b, off, c, hs, hv, hc, hf, hb, ?_, h.2 _ (List.getElem_mem hk)⟩
  rwa [flat_get MsgV.cells 34 ps k _ (fun y _ => y.len) hs] at hr

def zcells : Array Value := (MsgD.zero.cells (.slice none 0 0) (.slice none 0 0) (.slice none 0 0)).toArray
theorem put_zmsg (m : MsgD) (s o i : Value) : putAt zcells 0 (m.cells s o i) = (m.cells s o i).toArray := by simp [zcells, putAt, MsgD.cells]
/-- What Choose looks at: the kind, the last number, how many operations. -/
theorem MsgsIn.look {F : Nat → Prop} {w : World} {A : Option Addr} {len cap : Nat} {ps : List MsgV} (h : MsgsIn F w (.slice A len cap) ps) {k : Nat} (hk : k < ps.length) :
    ∃ p b off o2 c2, ps[k]? = some p ∧ A = some ⟨b, off, none⟩ ∧ len = ps.length ∧ F b ∧ b < w.heap.size ∧ w.cell? ⟨b, off + k * 34, none⟩ = some (.int .i64 p.m.kind) ∧ w.cell? ⟨b, off + k * 34 + 4, none⟩ = some (.int .i64 p.m.last) ∧
      w.cell? ⟨b, off + k * 34 + 32, none⟩ = some (.slice o2 p.m.ops.length c2) ∧ p.m.ops.length ≤ maxLen := by
  obtain ⟨p, b, off, c, hx, hv, _, hf, hb, hr, hl⟩ := h.at_ hk
  obtain ⟨rfl, rfl⟩ : A = some ⟨b, off, none⟩ ∧ len = ps.length := by injection hv with e1 e2 _; exact ⟨e1, e2⟩
  obtain ⟨qs, hq, ho⟩ := hl.2.1
  obtain ⟨o2, c2, he, h1, h2, _⟩ := FlatAt.shape ho.1
  have hlen : qs.length = p.m.ops.length := by rw [← hq, List.length_map]
  rw [hlen] at he h1
  have r0 := hr 0 (.int .i64 p.m.kind) (by rfl)
  have r4 := hr 4 (.int .i64 p.m.last) (by rfl)
  have r32 := hr 32 p.o (by rfl)
  rw [Nat.add_zero] at r0
  rw [he] at r32
  exact ⟨p, b, off, o2, c2, hx, rfl, rfl, hf, hb, r0, r4, r32, by omega⟩
end Go.Proofs.Ytflphpjfmbkeiaa
