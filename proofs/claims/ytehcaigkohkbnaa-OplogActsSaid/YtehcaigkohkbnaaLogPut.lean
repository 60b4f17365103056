/- A log that was written: what is asked of the new state of its parts. -/
import Derived.Test.YtehcaigkohkbnaaLog
namespace Go.Proofs.Ytehcaigkohkbnaa
open Go.RowKit

/-- The blocks of a log behind a call: those from before, and new ones. -/
def Grows (S : Nat → Prop) (w w' : World) (i : Nat) : Prop := S i ∨ w.heap.size ≤ i ∧ i < w'.heap.size
section
variable {S : Nat → Prop} {w w' : World} {l k base base' c c' : Nat} {v v' : Value} {ps qs : List (OpD × Value)}
theorem opcells_append (a b : List (OpD × Value)) : opcells (a ++ b) = opcells a ++ opcells b := by simp [opcells]
theorem opcells_one (o : OpD) (s : Value) : opcells [(o, s)] = o.cells s := by simp [opcells]
theorem PartsAt.put (h : PartsAt S w k base v ps c) (hk : w'.heap[k]? = some (.cells #[v', .int .i64 (c' : Int)] 104 (0, 0)))
    (ho : w'.ownsRow base' 33 10 v' qs.length (opcells qs)) (hs : ∀ q ∈ qs, StepsAt (fun i => Grows S w w' i ∧ i ≠ k ∧ some i ≠ v'.ownBlock) w' q.2 q.1.steps)
    (hv : ∀ q, v'.ownBlock = some q → v.ownBlock = some q ∨ w.heap.size ≤ q) (hc : c' ≤ qs.length) (hl : qs.length ≤ 2000) (hsm : ∀ p ∈ qs, p.1.steps.length ≤ 1000000) (hb : base' ≤ w'.heap.size) :
    PartsAt (Grows S w w') w' k base' v' qs c' :=
  ⟨hk, ho, hs, ⟨.inl h.inn.1, fun q e => (hv q e).elim (fun e' => .inl (h.inn.2 q e')) fun e' => .inr ⟨e', own_in ho q e⟩⟩, hc, hl, hsm, hb⟩
/-- The steps of what was there. -/
theorem PartsAt.old_steps (h : PartsAt S w k base v ps c) (ht : ∀ i, i < w.heap.size → i ≠ k → some i ≠ v.ownBlock → w'.heap[i]? = w.heap[i]?) (hsz : w.heap.size ≤ w'.heap.size)
    (hv : ∀ q, v'.ownBlock = some q → v.ownBlock = some q ∨ w.heap.size ≤ q) : ∀ p ∈ ps, StepsAt (fun i => Grows S w w' i ∧ i ≠ k ∧ some i ≠ v'.ownBlock) w' p.2 p.1.steps := by
  intro p hp
  have h1 := (h.steps p hp).mono (G := fun i => (S i ∧ i ≠ k ∧ some i ≠ v'.ownBlock) ∧ some i ≠ v.ownBlock) (fun i hi hf => ⟨⟨hf.1, hf.2.1, fun e => by
    rcases hv i e.symm with e2 | e2
    · exact hf.2.2 e2.symm
    · omega⟩, hf.2.2⟩)
  exact (h1.kept ⟨hsz, fun i hi hf => ht i hi hf.1.2.1 hf.2⟩).mono fun i _ hf => ⟨.inl hf.1.1, hf.1.2⟩
theorem LogAt.put (h : LogAt S w l k base v ps c) (hl : w'.heap[l]? = w.heap[l]?) (hp : PartsAt (Grows S w w') w' k base' v' qs c') : LogAt (Grows S w w') w' l k base' v' qs c' :=
  ⟨hl.trans h.cell, hp, .inl h.inn⟩
/-- Only what is committed has turned. -/
theorem LogAt.commits (h : LogAt S w l k base v ps c) (hc : c' ≤ ps.length) : LogAt S (w.setCell ⟨k, 1, none⟩ (.int .i64 (c' : Int))) l k base v ps c' := by
  have hg := grown_set w k 1 (.int .i64 (c' : Int))
  have hk : ∀ i, i < w.heap.size → i ≠ k → (w.setCell ⟨k, 1, none⟩ (.int .i64 (c' : Int))).heap[i]? = w.heap[i]? := fun i hi e => hg.block i hi (fun e2 => e (Option.some.inj e2))
  refine ⟨(hk l (lt_of_block h.cell) h.ne).trans h.cell, ⟨heap_setCell_same w k 1 _ _ _ h.parts.kept, own_kept h.parts.own fun q hq => hk q (own_in h.parts.own q hq) fun e => h.parts.k_ne (by rw [hq, e]), fun p hp => (h.parts.steps p hp).kept ⟨hg.size, fun i hi hf => hk i hi hf.2.1⟩, h.parts.inn, hc, h.parts.len, h.parts.small, Nat.le_trans h.parts.base hg.size⟩, h.inn⟩
end
end Go.Proofs.Ytehcaigkohkbnaa
