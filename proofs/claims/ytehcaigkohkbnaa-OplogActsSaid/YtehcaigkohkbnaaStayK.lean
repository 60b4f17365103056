/- What the law OplogStays keeps from round to round. -/
import Derived.Test.YtehcaigkohkbnaaLight6
import Derived.Test.YtehcaigkohkbnaaAppendG
namespace Go.Proofs.Ytehcaigkohkbnaa
open Go.RowKit

/-- What was told as committed so far: a row of the law's own, away from the log. -/
structure Done (B : Nat) (S : Nat → Prop) (w : World) (d : Value) (qs : List (OpD × Value)) : Prop where
  own : w.ownsRow B 33 10 d qs.length (opcells qs)
  off : ∀ q, d.ownBlock = some q → ¬ S q
  steps : ∀ p ∈ qs, StepsAt (fun i => ¬ S i ∧ some i ≠ d.ownBlock) w p.2 p.1.steps
section
variable {B : Nat} {S S' : Nat → Prop} {w w' : World} {d d' : Value} {qs rs : List (OpD × Value)} {l : Nat} {L : List OpD} {c : Nat}
theorem Done.start (B : Nat) (S : Nat → Prop) (w : World) : Done B S w (.slice none 0 0) [] := ⟨World.ownsRow_nil _ _ _ _, fun _ e => by simp [Value.ownBlock] at e, by simp⟩
theorem Done.moved (h : Done B S w d qs) (hT : ∀ i, S' i → S i ∨ w.heap.size ≤ i) (ht : Turned S w w') : Done B S' w' d qs := by
  refine ⟨own_kept h.own fun q hq => ht.block q (own_in h.own q hq) (h.off q hq), fun q hq hs => ?_, fun p hp => ?_⟩
  · rcases hT q hs with h1 | h1
    · exact h.off q hq h1
    · have := own_in h.own q hq
      omega
  · have h1 := (h.steps p hp).mono (G := fun i => (¬ S' i ∧ some i ≠ d.ownBlock) ∧ ¬ S i) fun i hi hf => ⟨⟨fun hs => by
      rcases hT i hs with h1 | h1
      · exact hf.1 h1
      · omega, hf.2⟩, hf.1⟩
    exact (h1.kept (ht.kept fun i hi => hi.2)).mono fun i _ hi => hi.1
theorem Done.later (h : Done B S w d qs) (hb : Below w.heap.size w w') : Done B S w' d qs := h.moved (fun _ hi => .inl hi) (Turned.of_below hb _)
theorem Done.more (h : Done B S w d qs) (hS : ∀ i, S i → i < w.heap.size) (hr : ∀ p ∈ rs, StepsAt (fun i => ¬ S i ∧ some i ≠ d.ownBlock) w p.2 p.1.steps)
    (ho : w'.ownsRow B 33 10 d' (qs.length + rs.length) (opcells qs ++ opcells rs)) (hg : w.grownBy w' d.ownBlock) (hv : d'.ownBlock = d.ownBlock ∨ d'.ownBlock = some w.heap.size) : Done B S w' d' (qs ++ rs) := by
  refine ⟨by rw [List.length_append, opcells_append]; exact ho, fun q hq hs => ?_, fun p hp => ?_⟩
  · rcases hv with e | e
    · exact h.off q (e.symm.trans hq) hs
    · rw [hq] at e
      have := Option.some.inj e
      have := hS q hs
      omega
  · have h0 : StepsAt (fun i => ¬ S i ∧ some i ≠ d.ownBlock) w p.2 p.1.steps := by
      rcases List.mem_append.1 hp with hp | hp
      · exact h.steps p hp
      · exact hr p hp
    have h1 := h0.mono (G := fun i => (¬ S i ∧ some i ≠ d'.ownBlock) ∧ some i ≠ d.ownBlock) fun i hi hf => ⟨⟨hf.1, fun e => by
      rcases hv with e2 | e2
      · exact hf.2 (e.trans e2)
      · rw [← e] at e2
        have := Option.some.inj e2
        omega⟩, hf.2⟩
    exact (h1.kept (Kept.of_grown hg fun g e hf => hf.2 e.symm)).mono fun i _ hi => hi.1
theorem Lg.past (h : Lg B S w l L c) (hd : Done B S w d qs) (hg : w.grownBy w' d.ownBlock) : Lg B S w' l L c := h.later (Kept.of_grown hg fun g e hf => hd.off g e hf)
theorem Done.ops (h : Done B S w d qs) : OpsIn (fun _ => True) w d qs :=
  ⟨(FlatAt.of_own h.own (ops_one fun p hp => FlatAt.oneCell (h.steps p hp))).mono fun _ _ _ => trivial, fun p hp => (h.steps p hp).mono fun _ _ _ => trivial⟩
theorem Done.shape (h : Done B S w d qs) : ∃ A cp, d = .slice A qs.length cp ∧ qs.length ≤ cp := by
  obtain ⟨A, cp, e, h1⟩ := own_slice h.own
  exact ⟨A, cp, e, h1⟩
theorem Done.over (h : Done B S w d qs) (hB : B ≤ w.heap.size) (hg : w.grownBy w' d.ownBlock) : Below B w w' := (Below.refl _ _).grown hg hB fun k hk => (h.own.lt k hk).1
end
theorem ActsIn.mono {F G : Nat → Prop} {w : World} {v : Value} {ps : List ActV} (h : ActsIn F w v ps) (hg : ∀ i, i < w.heap.size → F i → G i) : ActsIn G w v ps := ⟨h.1.mono hg, fun p hp => (h.2 p hp).mono hg⟩
/-- The last ones of a part of a slice. -/
theorem OpsIn.part {F : Nat → Prop} {w : World} {A : Option Addr} {n c : Nat} {ps : List (OpD × Value)} (h : OpsIn F w (.slice A n c) ps) {lo hi : Nat} (h1 : lo ≤ hi) (h2 : hi ≤ ps.length) : OpsIn F w (sliced A lo hi c 10) ((ps.take hi).drop lo) := by
  have := h.first h2
  exact this.tail (by simp; omega)
theorem exec_part {op : Oper} {a : Act} {w : World} (x y z : Operand) (ho : op.op = .slice 39 x (some y) (some z) none) (A : Option Addr) (n c lo hi : Nat) (hx : a.eval x = .slice A n c) (hy : a.eval y = .int .i64 (lo : Int)) (hz : a.eval z = .int .i64 (hi : Int)) (h1 : lo ≤ hi) (h2 : hi ≤ c) :
    (execOp a.eval op).run Try.prog w = .ok (.value (sliced A lo hi c 10)) w := by
  have ht : Try.prog.underlying 39 = some (.slice (Try.prog.elem 39)) := by kernel_rfl
  obtain ⟨i0, hi0, hz0, hz1, hz2⟩ := info_parts (show (Try.prog.info? (Try.prog.elem 39)).map (fun i => (i.zero, i.size, i.bytes)) = some (some (.agg #[.int .i64 0, .int .i64 0, .int .i64 0, .string ⟨#[]⟩, .slice none 0 0, .int .i64 0, .int .i64 0, .int .i64 0, .bool false, .bool false]), 10, 96) from by kernel_rfl)
  have hr := run_slice_lh (P := Try.prog) w 39 A n c ht .i64 .i64 (lo : Int) (hi : Int) (by omega) (by omega) (by omega)
  have hs : (sizeOf (Try.prog.elem 39)).run Try.prog w = .ok 10 w := by simp [sizeOf, typeInfo, hi0, hz1]
  rw [hs] at hr
  simp only [Result.andThen, Int.toNat_natCast] at hr
  unfold execOp
  simp only [ho, hx, hy, hz, Option.map_some, Option.map_none, Sem.run_bind, Sem.run_pure]
  rw [run_sliceAt_slice _ _ _ _ _ _ ht, hr]
  rfl

theorem pre_take : ∀ (L : List OpD) (c : Nat), c ≤ L.length → pre L (L.take c) = c
  | _, 0, _ => by cases ‹List OpD› <;> simp [pre]
  | [], c + 1, h => by simp at h
  | x :: L, c + 1, h => by
    simp only [List.take_succ_cons, pre, if_true]
    rw [pre_take L c (by simp at h; omega)]
theorem take_join {α : Type} (L : List α) {c c' : Nat} (h : c ≤ c') : L.take c ++ (L.take c').drop c = L.take c' := by
  have := List.take_append_drop c (L.take c')
  rwa [List.take_take, Nat.min_eq_left h] at this
theorem addR_take (L : List OpD) (o : OpD) {c : Nat} (h : c ≤ L.length) : (addR L o).1.take c = L.take c := by
  unfold addR
  split
  · exact List.take_append_of_le_length h
  · rfl
theorem cutR_take (L : List OpD) (c : Nat) (n : Int) : (cutR L c n).1.take c = L.take c := by
  unfold cutR
  split
  · rfl
  · rw [List.take_take, Nat.min_eq_left (by omega)]
theorem joinR_take (L : List OpD) (c : Nat) (n : Int) (M : List OpD) : (joinR L c n M).1.take c = L.take c := by
  unfold joinR
  split
  · rfl
  · split
    · rfl
    · rename_i h1 h2
      rw [List.take_append_of_le_length (by simp; omega), List.take_take, Nat.min_eq_left (by omega)]
theorem replR_ok {L : List OpD} {c : Nat} {M : List OpD} {n : Int} (h : (replR L c M n).2.2 = 0) : replR L c M n = (M, n.toNat, 0) ∧ c ≤ n.toNat ∧ n.toNat ≤ M.length ∧ M.take c = L.take c ∧ M.length ≤ 2000 ∧ (n.toNat : Int) = n := by
  unfold replR at h ⊢
  split at h
  · simp at h
  · split at h
    · simp at h
    · rename_i h1 h2
      rw [if_neg h1, if_neg h2]
      have h3 : ¬ (n < c ∨ (M.length : Int) < n) := fun e => h2 (.inl e)
      have h4 : M.take c = L.take c := Classical.byContradiction fun e => h2 (.inr e)
      exact ⟨rfl, by omega, by omega, h4, by omega, by omega⟩
theorem replR_no {L : List OpD} {c : Nat} {M : List OpD} {n : Int} (h : (replR L c M n).2.2 ≠ 0) : (replR L c M n).1 = L ∧ (replR L c M n).2.1 = c := by
  unfold replR at h ⊢
  split at h
  · rename_i h1
    rw [if_pos h1]
    exact ⟨rfl, rfl⟩
  · rename_i h1
    split at h
    · rename_i h2
      rw [if_neg h1, if_pos h2]
      exact ⟨rfl, rfl⟩
    · simp at h
end Go.Proofs.Ytehcaigkohkbnaa
