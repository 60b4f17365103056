/- Copy of package bag: a message, its lists in new memory. -/
import Derived.Test.YthfbbmebfjgnmaaCopyOp
import Derived.Test.YthfbbmebfjgnmaaOrderR
namespace Go.Proofs.Ythfbbmebfjgnmaa
open Go.RowKit

theorem ops_one {ps : List (OpD × Value)} (h : ∀ p ∈ ps, p.2.oneCell' = true) : ∀ u ∈ ps.flatMap (fun p => p.1.cells p.2), u.oneCell' = true := by
  intro u hu
  obtain ⟨p, hp, h1⟩ := List.mem_flatMap.1 hu
  exact p.1.one (h p hp) u h1
theorem ints_one (l : List Int) : ∀ u ∈ l.map (fun x => Value.int .i64 x), u.oneCell' = true := by
  intro u hu
  obtain ⟨x, _, rfl⟩ := List.mem_map.1 hu
  rfl

/-- Where the loop over the operations stands: the first k have their steps in new memory. -/
structure CopyRel (w wr : World) (B g1 g2 : Nat) (c1 c2 : Array Value) (vo : Value) (ps : List (OpD × Value)) (s : Value) (st : List StepD) (k : Nat) (qs : List (OpD × Value)) : Prop where
  len : qs.length = ps.length
  same : qs.map (·.1) = ps.map (·.1)
  own : wr.ownsRow B 33 10 vo ps.length (qs.flatMap fun p => p.1.cells p.2)
  one : ∀ p ∈ qs, p.2.oneCell' = true
  new : ∀ (j : Nat) (p : OpD × Value), j < k → qs[j]? = some p → StepsAt (fun b => w.heap.size + 2 ≤ b ∧ some b ≠ vo.ownBlock) wr p.2 p.1.steps
  old : ∀ j, k ≤ j → qs[j]? = ps[j]?
  b1 : wr.heap[g1]? = some (.cells c1 42 (0, 0))
  b2 : wr.heap[g2]? = some (.cells c2 42 (0, 0))
  steps : StepsAt (fun b => w.heap.size + 2 ≤ b ∧ b < B) wr s st
  below : Below w.heap.size w wr
  size : B ≤ wr.heap.size

/-- One round: the block of the row holds the k-th operation with other steps, all else is as it was. -/
theorem CopyRel.step {w wr w1 w2 : World} {B g1 g2 : Nat} {c1 c2 : Array Value} {q n c : Nat} {ps qs : List (OpD × Value)} {s s2 xs : Value} {st : List StepD} {k : Nat} {x : OpD} {cur : Array Value}
    (h : CopyRel w wr B g1 g2 c1 c2 (.slice (some ⟨q, 0, none⟩) n c) ps s st k qs) (hx : ps[k]? = some (x, xs)) (hg1 : g1 < B) (hg2 : g2 < B) (hB : w.heap.size + 2 ≤ B) (hq : B ≤ q)
    (hb : Below wr.heap.size wr w1) (hst : StepsAt (wr.heap.size ≤ ·) w1 s2 x.steps) (hc : wr.heap[q]? = some (.cells cur 33 (0, 0)))
    (hw : w2.heap[q]? = some (.cells (putAt cur (k * 10) (x.cells s2)) 33 (0, 0))) (hg : w1.grownBy w2 (some q)) :
    CopyRel w w2 B g1 g2 c1 c2 (.slice (some ⟨q, 0, none⟩) n c) ps s st (k + 1) (qs.set k (x, s2)) := by
  have hkl : k < ps.length := (List.getElem?_eq_some_iff.1 hx).1
  have hkq : k < qs.length := by rw [h.len]; exact hkl
  have hqk : qs[k]? = some (x, xs) := by rw [h.old k (Nat.le_refl _)]; exact hx
  have hqlt : q < wr.heap.size := lt_of_block hc
  have K1 : ∀ F : Nat → Prop, Kept F wr w1 := fun F => Kept.of_below hb F
  have K2 : Kept (fun b => b ≠ q) w1 w2 := Kept.of_grown hg (fun g e hf => hf (Option.some.inj e).symm)
  have hs1 : s2.oneCell' = true := FlatAt.oneCell hst
  have hn : ps.length = n := by
    rcases h.own.2 with ⟨e, _⟩ | ⟨_, _, _, e, _⟩
    · cases e
    · injection e with _ e2 _; exact e2.symm
  refine ⟨by simpa using h.len, ?_, ?_, ?_, ?_, ?_, ?_, ?_, ?_, ?_, ?_⟩
  · rw [← h.same]
    apply List.ext_getElem?
    intro j
    rw [List.getElem?_map, List.getElem?_map]
    by_cases hjk : j = k
    · subst hjk
      rw [List.getElem?_set_self hkq, hqk]
      rfl
    · rw [List.getElem?_set_ne (Ne.symm hjk)]
  · have hown1 : w1.ownsRow B 33 10 (.slice (some ⟨q, 0, none⟩) n c) ps.length (qs.flatMap fun p => p.1.cells p.2) :=
      h.own.kept (row := none) ⟨hb.os, hb.tape, hb.output, hb.size, fun i hi _ => hb.block i hi⟩ (.inr (by simp [Value.ownBlock]))
    have hc1 : w1.heap[q]? = some (.cells cur 33 (0, 0)) := (hb.block q hqlt).trans hc
    rw [hn] at hown1 ⊢
    have := ownsRow_stored hown1 hc1 (i := k) (by omega) (cells := x.cells s2) rfl hw
    rw [flat_set (fun p : OpD × Value => p.1.cells p.2) 10 qs k (x, s2) (fun p _ => p.1.len p.2) rfl hkq]
    exact this
  · intro p hp
    rcases List.mem_or_eq_of_mem_set hp with hp | rfl
    · exact h.one p hp
    · exact hs1
  · intro j p hj hp
    by_cases hjk : j = k
    · subst hjk
      rw [List.getElem?_set_self hkq] at hp
      obtain rfl := Option.some.inj hp
      have a1 : StepsAt (fun i => w.heap.size + 2 ≤ i ∧ i ≠ q) w1 s2 x.steps := StepsAt.mono hst (fun i _ hi => ⟨Nat.le_trans (Nat.le_trans hB h.size) hi, by omega⟩)
      exact (a1.kept (K2.mono fun i _ hi => hi.2)).mono (fun i _ hi => ⟨hi.1, fun e => hi.2 (Option.some.inj e)⟩)
    · rw [List.getElem?_set_ne (Ne.symm hjk)] at hp
      refine ((h.new j p (by omega) hp).kept (K1 _)).kept (K2.mono fun i _ hi e => hi.2 (by rw [e]; rfl))
  · intro j hj
    rw [List.getElem?_set_ne (by omega)]
    exact h.old j (by omega)
  · exact (hg.block g1 (Nat.lt_of_lt_of_le (lt_of_block h.b1) hb.size) (fun e => by have := Option.some.inj e; omega)).trans ((hb.block g1 (lt_of_block h.b1)).trans h.b1)
  · exact (hg.block g2 (Nat.lt_of_lt_of_le (lt_of_block h.b2) hb.size) (fun e => by have := Option.some.inj e; omega)).trans ((hb.block g2 (lt_of_block h.b2)).trans h.b2)
  · exact (h.steps.kept (K1 _)).kept (K2.mono fun i _ hi e => by have := hi.2; omega)
  · exact (h.below.trans (hb.mono h.below.size)).grown hg (Nat.le_trans h.below.size hb.size) (fun k hk => by have := Option.some.inj hk; omega)
  · exact Nat.le_trans h.size (Nat.le_trans hb.size hg.size)
end Go.Proofs.Ythfbbmebfjgnmaa
