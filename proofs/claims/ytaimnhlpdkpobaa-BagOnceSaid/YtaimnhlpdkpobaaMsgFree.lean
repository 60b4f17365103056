/- A message whose lists may be written; what a copy of one is. -/
import Derived.Test.YtaimnhlpdkpobaaCopies
namespace Go.Proofs.Ytaimnhlpdkpobaa
open Go.RowKit

theorem put_op (m : MsgD) (s o i s' : Value) : putAt (m.cells s o i).toArray 12 (m.op.cells s') = (m.cells s' o i).toArray := by simp [putAt, MsgD.cells, OpD.cells]
theorem put_ops (m : MsgD) (s o i v : Value) : (m.cells s o i).toArray.setIfInBounds 32 v = (m.cells s v i).toArray := by rfl
theorem put_incs (m : MsgD) (s o i v : Value) : (m.cells s o i).toArray.setIfInBounds 33 v = (m.cells s o v).toArray := by rfl
theorem put_all (m : MsgD) (s o i s0 o0 i0 : Value) (z : MsgD) : putAt (z.cells s0 o0 i0).toArray 0 (m.cells s o i) = (m.cells s o i).toArray := by simp [putAt, MsgD.cells]

/-- What Copy hands back: the same message, its lists in new memory. -/
def Copied (m : MsgD) (w : World) (e : Ending) (w' : World) : Prop :=
  ∃ v, e = .returned v ∧ MsgAt (w.heap.size ≤ ·) w' v m ∧ Below w.heap.size w w'
/-- The lists of a message, that may be written. -/
def MsgFree (F : Nat → Prop) (w : World) (m : MsgD) (s o i : Value) (ps : List (OpD × Value)) : Prop :=
  StepsAt F w s m.op.steps ∧ OpsIn F w o ps ∧ ps.map (·.1) = m.ops ∧ IncsAt F w i m.incs ∧ Free F w s ∧ Free F w o ∧ Free F w i ∧ ∀ p ∈ ps, Free F w p.2
section
variable {F G : Nat → Prop} {w w' : World} {m : MsgD} {s o i : Value} {ps : List (OpD × Value)}
theorem MsgFree.kept (h : MsgFree F w m s o i ps) (hk : Kept F w w') : MsgFree F w' m s o i ps :=
  ⟨h.1.kept hk, h.2.1.kept hk, h.2.2.1, h.2.2.2.1.kept hk, h.2.2.2.2.1.kept hk, h.2.2.2.2.2.1.kept hk, h.2.2.2.2.2.2.1.kept hk, fun p hp => (h.2.2.2.2.2.2.2 p hp).kept hk⟩
theorem MsgFree.mono (h : MsgFree F w m s o i ps) (hg : ∀ i, i < w.heap.size → F i → G i) : MsgFree G w m s o i ps :=
  ⟨h.1.mono hg, h.2.1.mono hg, h.2.2.1, h.2.2.2.1.mono hg, h.2.2.2.2.1.mono hg, h.2.2.2.2.2.1.mono hg, h.2.2.2.2.2.2.1.mono hg, fun p hp => (h.2.2.2.2.2.2.2 p hp).mono hg⟩
theorem MsgFree.at_ (h : MsgFree F w m s o i ps) : MsgAt F w (.agg (m.cells s o i).toArray) m := ⟨s, o, i, rfl, h.1, ⟨ps, h.2.2.1, h.2.1⟩, h.2.2.2.1⟩
end
/-- What a copy is that may be written. -/
def Owned (m : MsgD) (w : World) (e : Ending) (w' : World) : Prop :=
  ∃ s o i ps, e = .returned (.agg (m.cells s o i).toArray) ∧ MsgFree (w.heap.size ≤ ·) w' m s o i ps ∧ Below w.heap.size w w'
theorem Owned.copied {m : MsgD} {w w' : World} {e : Ending} : Owned m w e w' → Copied m w e w' := fun ⟨_, _, _, _, he, h, hb⟩ => ⟨_, he, h.at_, hb⟩

end Go.Proofs.Ytaimnhlpdkpobaa
