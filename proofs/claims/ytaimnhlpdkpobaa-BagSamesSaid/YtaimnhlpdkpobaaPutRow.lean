/- A row of the call's own whose first cells the library has written anew. -/
import Derived.Test.YtaimnhlpdkpobaaMem
import Derived.Shelf.SlicesE.DeleteFunc
namespace Go.Proofs.Ytaimnhlpdkpobaa
open Go.RowKit Go.Sort

theorem grown_sortWorld {α : Type} [Inhabited α] (enc : α → Value) (w : World) (blk off m : Nat) (dk : Array α) (os : Array Obj) : w.grownBy (sortWorld enc w blk off m dk os) (some blk) := by
  unfold sortWorld
  refine ⟨rfl, rfl, rfl, by simp [putRow, mapBlock, Sort.ahead, grow], fun k hk hne => ?_⟩
  rw [heap_grow_old _ _ (by simpa [putRow, mapBlock, Sort.ahead] using hk)]
  have : blk ≠ k := fun e => hne (by rw [e])
  simp [putRow, mapBlock, Sort.ahead, Array.getElem?_modify, this]
theorem grown_putRow {α : Type} [Inhabited α] (enc : α → Value) (w : World) (blk off m : Nat) (dk : Array α) : w.grownBy (putRow enc (Sort.ahead w m) blk off dk) (some blk) := by
  have := grown_sortWorld enc w blk off m dk #[]
  unfold sortWorld at this
  rwa [grow_empty] at this

theorem take_putCells {α : Type} [Inhabited α] (enc : α → Value) (D : Array α) (cur : Array Value) (k : Nat) (h1 : k ≤ D.size) (h2 : D.size ≤ cur.size) : (putCells enc 0 D cur).toList.take k = (D.toList.take k).map enc := by
  apply List.ext_getElem?
  intro j
  by_cases hj : j < k
  · have hjD : j < D.size := by omega
    have hjc : j < cur.size := by omega
    rw [List.getElem?_take_of_lt hj, Array.getElem?_toList, List.getElem?_map, List.getElem?_take_of_lt hj, Array.getElem?_toList]
    simp [putCells, hjD, hjc]
  · rw [List.getElem?_eq_none (by simp; omega), List.getElem?_eq_none (by simp; omega)]

/-- The row's first k cells hold what was written. -/
theorem own_putRow {α : Type} [Inhabited α] (enc : α → Value) {w : World} {base e blk n cap : Nat} {xs : List Value} (h : w.ownsRow base e 1 (.slice (some ⟨blk, 0, none⟩) n cap) n xs) (D : Array α) (hD : D.size = n) (k q : Nat) (hk : k ≤ n) :
    (putRow enc (Sort.ahead w q) blk 0 D).ownsRow base e 1 (.slice (some ⟨blk, 0, none⟩) k cap) k ((D.toList.take k).map enc) := by
  rcases h.2 with ⟨h0, _⟩ | ⟨g, c, cur, hv, hb, hg, hnc, hm, hsz, _⟩
  · cases h0
  · have e1 : blk = g := by injection hv with e _ _; injection e with e; injection e
    have e2 : cap = c := by injection hv
    subst e1 e2
    refine ⟨by simp; omega, .inr ⟨blk, cap, putCells enc 0 D cur, rfl, hb, ?_, by omega, hm, by simp [putCells]; omega, ?_⟩⟩
    · simp [putRow, mapBlock, Sort.ahead, Array.getElem?_modify, hg, onCells]
    · rw [Nat.mul_one]
      exact take_putCells enc D cur k (by omega) (by omega)
end Go.Proofs.Ytaimnhlpdkpobaa
