/- Worlds of which all but one block is as it was; objects of the call's own that are written again and again. -/
import Derived.Test.YtaimnhlpdkpobaaMem
import Derived.OneCell
namespace Go.Proofs.Ytaimnhlpdkpobaa
open Go.RowKit

theorem grown_set (w : World) (g o : Nat) (v : Value) : w.grownBy (w.setCell ⟨g, o, none⟩ v) (some g) :=
  ⟨rfl, rfl, rfl, by simp [World.setCell], fun i hi hne => Below.heap_setCell _ _ _ _ (fun e => hne (by rw [e]))⟩
theorem grown_trans {a b c : World} {r : Option Nat} (h : a.grownBy b r) (k : b.grownBy c r) : a.grownBy c r :=
  ⟨k.os.trans h.os, k.tape.trans h.tape, k.output.trans h.output, Nat.le_trans h.size k.size, fun i hi hne => (k.block i (Nat.lt_of_lt_of_le hi h.size) hne).trans (h.block i hi hne)⟩
theorem grown_later {a b : World} (h : Below a.heap.size a b) (r : Option Nat) : a.grownBy b r := ⟨h.os, h.tape, h.output, h.size, fun i hi _ => h.block i hi⟩
theorem grown_drewN (w : World) (r : Option Nat) (n : Nat) : w.grownBy (w.drewN n) r := ⟨rfl, rfl, rfl, Nat.le_refl _, fun _ _ _ => rfl⟩
theorem below_grown {a b : World} {B g : Nat} (h : a.grownBy b (some g)) (hB : B ≤ g) (hs : B ≤ a.heap.size) : Below B a b := (Below.refl _ _).grown h hs (fun k hk => by
  have := Option.some.inj hk
  omega)
theorem below_drewN (B : Nat) (w : World) (n : Nat) : Below B w (w.drewN n) := ⟨rfl, rfl, rfl, Nat.le_refl _, fun _ _ => rfl⟩
/-- What lies in new blocks may be written: to who stands before, only block r has turned. -/
theorem grown_new {a b c : World} {r : Option Nat} {q : Nat} (h : a.grownBy b r) (k : b.grownBy c (some q)) (hq : a.heap.size ≤ q) : a.grownBy c r :=
  ⟨k.os.trans h.os, k.tape.trans h.tape, k.output.trans h.output, Nat.le_trans h.size k.size, fun i hi hne => (k.block i (Nat.lt_of_lt_of_le hi h.size) (fun e => by
    have := Option.some.inj e
    omega)).trans (h.block i hi hne)⟩

/-- The block g holds the cells cs, none of them frozen. -/
def BlockAt (T : TypeId) (w : World) (g : Nat) (cs : List Value) : Prop := w.heap[g]? = some (.cells cs.toArray T (0, 0))
section
variable {T : TypeId} {w w' : World} {g : Nat} {cs : List Value}
theorem BlockAt.lt (h : BlockAt T w g cs) : g < w.heap.size := lt_of_block h
theorem BlockAt.cell (h : BlockAt T w g cs) {i : Nat} {v : Value} (hi : cs[i]? = some v) : w.cell? ⟨g, i, none⟩ = some v := by
  have h' : w.heap[g]? = some (.cells cs.toArray T (0, 0)) := h
  simp [World.cell?, h', hi]
theorem BlockAt.free (h : BlockAt T w g cs) (i : Nat) : w.frozen? ⟨g, i, none⟩ = false := by
  have h' : w.heap[g]? = some (.cells cs.toArray T (0, 0)) := h
  simp [World.frozen?, h']
theorem BlockAt.set (h : BlockAt T w g cs) (i : Nat) (v : Value) : BlockAt T (w.setCell ⟨g, i, none⟩ v) g (cs.set i v) := by
  have hlt := h.lt
  have h' : w.heap[g] = .cells cs.toArray T (0, 0) := by
    have h2 : w.heap[g]? = some (.cells cs.toArray T (0, 0)) := h
    simpa [Array.getElem?_eq_getElem hlt] using h2
  show (w.heap.modify g _)[g]? = _
  rw [Array.getElem?_eq_getElem (by simpa using hlt), Array.getElem_modify_self, h']
  simp
theorem BlockAt.kept (h : BlockAt T w g cs) (hk : w'.heap[g]? = w.heap[g]?) : BlockAt T w' g cs := by
  show w'.heap[g]? = _
  rw [hk]
  exact h
theorem BlockAt.below {B : Nat} (h : BlockAt T w g cs) (hb : Below B w w') (hg : g < B) : BlockAt T w' g cs := h.kept (hb.block g hg)
theorem BlockAt.other {r : Option Nat} (h : BlockAt T w g cs) (hg : w.grownBy w' r) (hr : some g ≠ r) : BlockAt T w' g cs := h.kept (hg.block g h.lt hr)
theorem BlockAt.made (w : World) (cs : List Value) (T : TypeId) : BlockAt T (w.alloc (.cells cs.toArray T (0, 0))) w.heap.size cs := heap_alloc_new _ _
end
end Go.Proofs.Ytaimnhlpdkpobaa
