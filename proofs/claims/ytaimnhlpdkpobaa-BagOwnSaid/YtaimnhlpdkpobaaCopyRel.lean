/- Copies of package op: where its loop stands. -/
import Derived.Test.YtaimnhlpdkpobaaCopyOp
import Derived.Test.YtaimnhlpdkpobaaOrderR
namespace Go.Proofs.Ytaimnhlpdkpobaa
open Go.RowKit

theorem box_cell {w : World} {g t : Nat} {cs : Array Value} (h : w.heap[g]? = some (.cells cs t (0, 0))) (j : Nat) (v : Value) (hj : cs[j]? = some v) : w.cell? ⟨g, j, none⟩ = some v := by
  rw [cell_of_row w g j cs t (0, 0) h, hj]
/-- The cells of operations, one behind the other. -/
def opcells (ps : List (OpD × Value)) : List Value := ps.flatMap fun p => p.1.cells p.2
theorem ops_one {ps : List (OpD × Value)} (h : ∀ p ∈ ps, p.2.oneCell' = true) : ∀ u ∈ ps.flatMap (fun p => p.1.cells p.2), u.oneCell' = true := by
  intro u hu
  obtain ⟨p, hp, h1⟩ := List.mem_flatMap.1 hu
  exact p.1.one (h p hp) u h1
theorem ints_one (l : List Int) : ∀ u ∈ l.map (fun x => Value.int .i64 x), u.oneCell' = true := by
  intro u hu
  obtain ⟨x, _, rfl⟩ := List.mem_map.1 hu
  rfl

/-- Where the loop over the operations stands: the first k have their steps in new memory. -/
structure CopiesRel (w wr : World) (vo : Value) (ps : List (OpD × Value)) (k : Nat) (qs : List (OpD × Value)) : Prop where
  len : qs.length = ps.length
  same : qs.map (·.1) = ps.map (·.1)
  own : wr.ownsRow w.heap.size 33 10 vo ps.length (qs.flatMap fun p => p.1.cells p.2)
  one : ∀ p ∈ qs, p.2.oneCell' = true
  new : ∀ (j : Nat) (p : OpD × Value), j < k → qs[j]? = some p → StepsAt (fun b => w.heap.size ≤ b ∧ some b ≠ vo.ownBlock) wr p.2 p.1.steps ∧ Free (fun b => w.heap.size ≤ b ∧ some b ≠ vo.ownBlock) wr p.2
  old : ∀ j, k ≤ j → qs[j]? = ps[j]?
  below : Below w.heap.size w wr

/-- One round: the block of the row holds the k-th operation with other steps, all else is as it was. -/
theorem CopiesRel.step {w wr w1 w2 : World} {q n c : Nat} {ps qs : List (OpD × Value)} {s2 xs : Value} {k : Nat} {x : OpD} {cur : Array Value}
    (h : CopiesRel w wr (.slice (some ⟨q, 0, none⟩) n c) ps k qs) (hx : ps[k]? = some (x, xs)) (hq : w.heap.size ≤ q)
    (hb : Below wr.heap.size wr w1) (hst : StepsAt (wr.heap.size ≤ ·) w1 s2 x.steps ∧ Free (wr.heap.size ≤ ·) w1 s2) (hc : wr.heap[q]? = some (.cells cur 33 (0, 0)))
    (hw : w2.heap[q]? = some (.cells (putAt cur (k * 10) (x.cells s2)) 33 (0, 0))) (hg : w1.grownBy w2 (some q)) :
    CopiesRel w w2 (.slice (some ⟨q, 0, none⟩) n c) ps (k + 1) (qs.set k (x, s2)) := by
  have hkl : k < ps.length := (List.getElem?_eq_some_iff.1 hx).1
  have hkq : k < qs.length := by rw [h.len]; exact hkl
  have hqk : qs[k]? = some (x, xs) := by rw [h.old k (Nat.le_refl _)]; exact hx
  have hqlt : q < wr.heap.size := lt_of_block hc
  have hsz := h.below.size
  have K1 : ∀ F : Nat → Prop, Kept F wr w1 := fun F => Kept.of_below hb F
  have K2 : Kept (fun b => b ≠ q) w1 w2 := Kept.of_grown hg (fun g e hf => hf (Option.some.inj e).symm)
  have hs1 : s2.oneCell' = true := FlatAt.oneCell hst.1
  have hn : ps.length = n := by
    rcases h.own.2 with ⟨e, _⟩ | ⟨_, _, _, e, _⟩
    · cases e
    · injection e with _ e2 _; exact e2.symm
  refine ⟨by simpa using h.len, ?_, ?_, ?_, ?_, ?_, ?_⟩
  · rw [← h.same]
    apply List.ext_getElem?
    intro j
    rw [List.getElem?_map, List.getElem?_map]
    by_cases hjk : j = k
    · subst hjk
      rw [List.getElem?_set_self hkq, hqk]
      rfl
    · rw [List.getElem?_set_ne (Ne.symm hjk)]
  · have hown1 : w1.ownsRow w.heap.size 33 10 (.slice (some ⟨q, 0, none⟩) n c) ps.length (qs.flatMap fun p => p.1.cells p.2) :=
      h.own.kept (row := none) ⟨hb.os, hb.tape, hb.output, hb.size, fun i hi _ => hb.block i hi⟩ (.inr (by simp [Value.ownBlock]))
    have hc1 : w1.heap[q]? = some (.cells cur 33 (0, 0)) := (hb.block q hqlt).trans hc
    rw [hn] at hown1 ⊢
    have := ownsRow_stored hown1 hc1 (i := k) (by omega) (cells := x.cells s2) rfl hw
    rw [flat_set (fun p : OpD × Value => p.1.cells p.2) 10 qs k (x, s2) (fun p _ => p.1.len p.2) rfl hkq]
    exact this
  · intro p hp
    rcases List.mem_or_eq_of_mem_set hp with hp | rfl
    · exact h.one p hp
    · exact hs1
  · intro j p hj hp
    by_cases hjk : j = k
    · subst hjk
      rw [List.getElem?_set_self hkq] at hp
      obtain rfl := Option.some.inj hp
      have a1 : StepsAt (fun i => w.heap.size ≤ i ∧ i ≠ q) w1 s2 x.steps := StepsAt.mono hst.1 (fun i _ hi => ⟨Nat.le_trans hsz hi, by omega⟩)
      have a2 : Free (fun i => w.heap.size ≤ i ∧ i ≠ q) w1 s2 := Free.mono hst.2 (fun i _ hi => ⟨Nat.le_trans hsz hi, by omega⟩)
      exact ⟨(a1.kept (K2.mono fun i _ hi => hi.2)).mono (fun i _ hi => ⟨hi.1, fun e => hi.2 (Option.some.inj e)⟩), (a2.kept (K2.mono fun i _ hi => hi.2)).mono (fun i _ hi => ⟨hi.1, fun e => hi.2 (Option.some.inj e)⟩)⟩
    · rw [List.getElem?_set_ne (Ne.symm hjk)] at hp
      exact ⟨((h.new j p (by omega) hp).1.kept (K1 _)).kept (K2.mono fun i _ hi e => hi.2 (by rw [e]; rfl)), ((h.new j p (by omega) hp).2.kept (K1 _)).kept (K2.mono fun i _ hi e => hi.2 (by rw [e]; rfl))⟩
  · intro j hj
    rw [List.getElem?_set_ne (by omega)]
    exact h.old j (by omega)
  · exact (h.below.trans (hb.mono hsz)).grown hg (Nat.le_trans hsz hb.size) (fun k hk => by have := Option.some.inj hk; omega)

/-- The slice v holds the operations ps, all of it lies in blocks of which F holds, and may be written; the steps lie elsewhere than the operations. -/
structure OpsFree (F : Nat → Prop) (w : World) (v : Value) (ps : List (OpD × Value)) : Prop where
  ops : OpsIn F w v ps
  row : Free F w v
  steps : ∀ p ∈ ps, Free F w p.2
  apart : ∀ p ∈ ps, StepsAt (fun b => some b ≠ v.ownBlock) w p.2 p.1.steps
section
variable {F G : Nat → Prop} {w w' : World} {v : Value} {ps : List (OpD × Value)}
theorem OpsFree.kept (h : OpsFree F w v ps) (hk : Kept F w w') : OpsFree F w' v ps :=
  ⟨h.ops.kept hk, h.row.kept hk, fun p hp => (h.steps p hp).kept hk, fun p hp => by
    obtain ⟨x1, x2, A, c, e, x3, x4, x5, x6⟩ := h.apart p hp
    obtain ⟨_, _, A', c', e', _, _, _, y6⟩ := h.ops.2 p hp
    obtain ⟨rfl, rfl⟩ : A = A' ∧ c = c' := by rw [e] at e'; injection e' with e1 _ e3; exact ⟨e1, e3⟩
    refine ⟨x1, x2, A, c, e, x3, x4, x5, fun hn => ?_⟩
    obtain ⟨b, off, hA, hf, hb, hr⟩ := x6 hn
    obtain ⟨b', off', hA', hf', _, _⟩ := y6 hn
    obtain ⟨rfl, rfl⟩ : b = b' ∧ off = off' := by rw [hA] at hA'; injection hA' with h1; injection h1 with h1 h2 _; exact ⟨h1, h2⟩
    exact ⟨b, off, hA, hf, Nat.lt_of_lt_of_le hb hk.1, fun j u hj => (hk.cell hb hf').trans (hr j u hj)⟩⟩
theorem OpsFree.mono (h : OpsFree F w v ps) (hg : ∀ i, i < w.heap.size → F i → G i) : OpsFree G w v ps :=
  ⟨h.ops.mono hg, h.row.mono hg, fun p hp => (h.steps p hp).mono hg, h.apart⟩
end
/-- What Copies hands back: the same operations, all of it in new memory. -/
def OpsCopied (ps : List (OpD × Value)) (w : World) (e : Ending) (w' : World) : Prop :=
  ∃ v qs, e = .returned v ∧ qs.map (·.1) = ps.map (·.1) ∧ OpsFree (w.heap.size ≤ ·) w' v qs ∧ w'.ownsRow w.heap.size 33 10 v qs.length (qs.flatMap fun p => p.1.cells p.2) ∧ Below w.heap.size w w'
end Go.Proofs.Ytaimnhlpdkpobaa
