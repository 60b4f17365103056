/- A log by what it says: its operations, and how many are committed; what each call tells and leaves, as functions. -/
import Derived.Test.YtehcaigkohkbnaaReplace
import Derived.Test.YtehcaigkohkbnaaAt
import Derived.Test.YtehcaigkohkbnaaAdd
namespace Go.Proofs.Ytehcaigkohkbnaa
open Go.RowKit

/-- The block l holds a log of the operations L, the first c committed; all of it lies in S, above B. -/
def Lg (B : Nat) (S : Nat → Prop) (w : World) (l : Nat) (L : List OpD) (c : Nat) : Prop :=
  (∀ i, S i → B ≤ i ∧ i < w.heap.size) ∧ ∃ k base v ps, ps.map (·.1) = L ∧ LogAt S w l k base v ps c
/-- The same behind a call that wrote to it. -/
def LgNew (B : Nat) (S : Nat → Prop) (w w' : World) (l : Nat) (L : List OpD) (c : Nat) : Prop :=
  ∃ S' : Nat → Prop, Lg B S' w' l L c ∧ (∀ i, S' i → S i ∨ w.heap.size ≤ i) ∧ Turned S w w'
/-- All steps are not too many. -/
def Mild (L : List OpD) : Prop := ∀ o ∈ L, o.steps.length ≤ 1000000

/-- What the calls leave and tell. -/
def addR (L : List OpD) (o : OpD) : List OpD × Int × Int := if L.length < 2000 then (L ++ [o], (L.length + 1 : Nat), 0) else (L, 0, 7)
def cutR (L : List OpD) (c : Nat) (n : Int) : List OpD × Int := if n < c then (L, 2) else (L.take n.toNat, 0)
def joinR (L : List OpD) (c : Nat) (n : Int) (M : List OpD) : List OpD × Int := if n < c ∨ (L.length : Int) < n then (L, 2) else if 2000 < n.toNat + M.length then (L, 7) else (L.take n.toNat ++ M, 0)
def replR (L : List OpD) (c : Nat) (M : List OpD) (n : Int) : List OpD × Nat × Int := if 2000 < M.length then (L, c, 7) else if (n < c ∨ (M.length : Int) < n) ∨ M.take c ≠ L.take c then (L, c, 2) else (M, n.toNat, 0)
def atR (L : List OpD) (n : Int) : Option OpD := if n < 1 then none else L[n.toNat - 1]?

section
variable {B : Nat} {S F : Nat → Prop} {w w' : World} {l : Nat} {L : List OpD} {c : Nat}
theorem Lg.later (h : Lg B S w l L c) (hk : Kept S w w') : Lg B S w' l L c := by
  obtain ⟨h1, k, base, v, ps, e, h2⟩ := h
  exact ⟨fun i hi => ⟨(h1 i hi).1, Nat.lt_of_lt_of_le (h1 i hi).2 hk.1⟩, k, base, v, ps, e, h2.keep hk⟩
theorem Lg.below (h : Lg B S w l L c) (hb : Below w.heap.size w w') : Lg B S w' l L c := h.later (Kept.of_below hb _)
theorem Lg.len (h : Lg B S w l L c) : L.length ≤ 2000 := by
  obtain ⟨_, k, base, v, ps, rfl, h2⟩ := h
  simpa using h2.parts.len
theorem Lg.com (h : Lg B S w l L c) : c ≤ L.length := by
  obtain ⟨_, k, base, v, ps, rfl, h2⟩ := h
  simpa using h2.parts.com
theorem Lg.mild (h : Lg B S w l L c) : Mild L := by
  obtain ⟨_, k, base, v, ps, rfl, h2⟩ := h
  intro o ho
  obtain ⟨p, hp, rfl⟩ := List.mem_map.1 ho
  exact h2.parts.small p hp
theorem Lg.base (h : Lg B S w l L c) : B ≤ w.heap.size := by
  obtain ⟨h1, k, base, v, ps, rfl, h2⟩ := h
  have := h1 l h2.inn
  omega
theorem LgNew.refl (h : Lg B S w l L c) : LgNew B S w w l L c := ⟨S, h, fun _ hi => .inl hi, Turned.refl _ _⟩
theorem LgNew.of_below (h : Lg B S w l L c) (hb : Below w.heap.size w w') : LgNew B S w w' l L c := ⟨S, h.below hb, fun _ hi => .inl hi, Turned.of_below hb _⟩
/-- The grown set lies above B, and in the world. -/
theorem grows_ok (h : ∀ i, S i → B ≤ i ∧ i < w.heap.size) (hB : B ≤ w.heap.size) (hs : w.heap.size ≤ w'.heap.size) : ∀ i, Grows S w w' i → B ≤ i ∧ i < w'.heap.size := by
  intro i hi
  rcases hi with hi | hi
  · have := h i hi
    exact ⟨this.1, by omega⟩
  · exact ⟨by omega, hi.2⟩
theorem grows_in : ∀ i, Grows S w w' i → S i ∨ w.heap.size ≤ i := fun _ hi => hi.imp id fun h => h.1

theorem lg_new (w : World) : Calls Try.prog 27 #[] w fun e w' => ∃ l S, e = .returned (.pointer (some ⟨l, 0, none⟩)) ∧ Lg w.heap.size S w' l [] 0 ∧ Below w.heap.size w w' :=
  (new_any w).mono fun _ _ ⟨l, k, he, hb, hl⟩ => ⟨l, _, he, ⟨fun _ hi => hi, k, _, _, _, rfl, hl⟩, hb⟩
theorem lg_last (h : Lg B S w l L c) : Calls Try.prog 42 #[.pointer (some ⟨l, 0, none⟩)] w fun e w' => e = .returned (.int .i64 (L.length : Int)) ∧ w = w' := by
  obtain ⟨_, k, base, v, ps, rfl, h2⟩ := h
  rw [List.length_map]
  exact last_yes w h2
theorem lg_committed (h : Lg B S w l L c) : Calls Try.prog 43 #[.pointer (some ⟨l, 0, none⟩)] w fun e w' => e = .returned (.int .i64 (c : Int)) ∧ w = w' := by
  obtain ⟨_, k, base, v, ps, rfl, h2⟩ := h
  exact committed_yes w h2
theorem lg_add (o : OpD) (s : Value) (h : Lg B S w l L c) (hs : StepsAt F w s o.steps) (ho : o.steps.length ≤ 1000000) :
    Calls Try.prog 28 #[.pointer (some ⟨l, 0, none⟩), .agg (o.cells s).toArray] w fun e w' => e = .returned (.tuple #[.int .i64 (addR L o).2.1, .int .i64 (addR L o).2.2]) ∧ LgNew B S w w' l (addR L o).1 c := by
  have hB := h.base
  have hl := h.len
  have h0 := h
  obtain ⟨h1, k, base, v, ps, rfl, h2⟩ := h
  unfold addR
  by_cases hlt : (ps.map (·.1)).length < 2000
  · rw [if_pos hlt]
    refine (add_yes o s w h2 hs ho (by simpa using hlt)).mono fun e w' ⟨v', s', he, hl', ht⟩ => ⟨by simpa using he, _, ⟨grows_ok h1 hB ht.size, k, _, _, _, by simp, hl'⟩, grows_in, ht⟩
  · rw [if_neg hlt]
    exact (add_full o s w h2 (by simp at hl hlt; omega)).mono fun e w' ⟨he, hb⟩ => ⟨he, LgNew.of_below h0 hb⟩
/-- Operations told: all in new memory. -/
def Tells (w : World) (M : List OpD) (e : Ending) (w' : World) : Prop := ∃ v rs, e = .returned v ∧ rs.map (·.1) = M ∧ OpsFree (w.heap.size ≤ ·) w' v rs ∧ w'.ownsRow w.heap.size 33 10 v rs.length (opcells rs)
theorem lg_commit (n : Int) (h : Lg B S w l L c) :
    Calls Try.prog 31 #[.pointer (some ⟨l, 0, none⟩), .int .i64 n] w fun e w' => Tells w ((L.take (comTo c L.length n)).drop c) e w' ∧ Lg B S w' l L (comTo c L.length n) ∧ Turned S w w' := by
  obtain ⟨h1, k, base, v, ps, rfl, h2⟩ := h
  refine (commit_yes n w h2).mono fun e w' ⟨v', rs, he, hs, hf, ho, hl, ht⟩ => ?_
  rw [List.length_map]
  exact ⟨⟨v', rs, he, by rw [hs, List.map_drop, List.map_take], hf, ho⟩, ⟨fun i hi => ⟨(h1 i hi).1, Nat.lt_of_lt_of_le (h1 i hi).2 ht.size⟩, k, base, v, ps, rfl, hl⟩, ht.mono fun i e => by rw [e]; exact h2.parts.inn.1⟩
theorem turned_none {a b : World} (h : Turned (fun _ => False) a b) : Below a.heap.size a b := ⟨h.os, h.tape, h.output, h.size, fun i hi => h.block i hi id⟩
theorem lg_sinceB (n : Int) (h : Lg B S w l L c) :
    Calls Try.prog 44 #[.pointer (some ⟨l, 0, none⟩), .int .i64 n] w fun e w' => Tells w (L.drop (fromOf L.length n)) e w' ∧ Below w.heap.size w w' := by
  obtain ⟨h1, k, base, v, ps, rfl, h2⟩ := h
  refine (since_yes n w h2).mono fun e w' ⟨v', rs, he, hs, hf, ho, hl, ht⟩ => ?_
  rw [List.length_map]
  exact ⟨⟨v', rs, he, by rw [hs, List.map_drop], hf, ho⟩, turned_none ht⟩
theorem lg_since (n : Int) (h : Lg B S w l L c) :
    Calls Try.prog 44 #[.pointer (some ⟨l, 0, none⟩), .int .i64 n] w fun e w' => Tells w (L.drop (fromOf L.length n)) e w' ∧ Lg B S w' l L c ∧ Turned S w w' :=
  (lg_sinceB n h).mono fun _ _ ⟨ht, hb⟩ => ⟨ht, h.below hb, Turned.of_below hb _⟩
/-- What At tells. -/
def AtTells (w : World) : Option OpD → Ending → World → Prop
  | none, e, _ => NoOp e
  | some o, e, w' => OneOp w o e w'
theorem lg_at (n : Int) (h : Lg B S w l L c) :
    Calls Try.prog 39 #[.pointer (some ⟨l, 0, none⟩), .int .i64 n] w fun e w' => AtTells w (atR L n) e w' ∧ Below w.heap.size w w' := by
  obtain ⟨h1, k, base, v, ps, rfl, h2⟩ := h
  unfold atR
  by_cases hn : n < 1
  · rw [if_pos hn]
    exact (at_out n w h2 (.inl hn)).mono fun e w' ⟨a, _, d⟩ => ⟨a, turned_none d⟩
  · rw [if_neg hn]
    cases ho : (ps.map (·.1))[n.toNat - 1]? with
    | none =>
      have hlen : ps.length ≤ n.toNat - 1 := by simpa using List.getElem?_eq_none_iff.1 ho
      exact (at_out n w h2 (.inr (by omega))).mono fun e w' ⟨a, _, d⟩ => ⟨a, turned_none d⟩
    | some o => exact (at_yes (n.toNat - 1) n o w h2 (by omega) ho).mono fun e w' ⟨a, _, d⟩ => ⟨a, turned_none d⟩
theorem lg_cut (n : Int) (h : Lg B S w l L c) :
    Calls Try.prog 33 #[.pointer (some ⟨l, 0, none⟩), .int .i64 n] w fun e w' => e = .returned (.int .i64 (cutR L c n).2) ∧ LgNew B S w w' l (cutR L c n).1 c := by
  have hB := h.base
  have h0 := h
  obtain ⟨h1, k, base, v, ps, rfl, h2⟩ := h
  unfold cutR
  by_cases hn : n < c
  · rw [if_pos hn]
    exact (cut_arg n w h2 hn).mono fun e w' ⟨he, hw⟩ => ⟨he, by rw [← hw]; exact LgNew.refl h0⟩
  · rw [if_neg hn]
    obtain ⟨m, rfl⟩ : ∃ m : Nat, n = (m : Int) := ⟨n.toNat, by omega⟩
    by_cases hm : m < ps.length
    · refine (cut_yes m w h2 (by omega) hm).mono fun e w' ⟨k', base', v', qs, he, hq, hl, ht⟩ => ⟨he, _, ⟨grows_ok h1 hB ht.size, k', base', v', qs, by rw [hq]; simp, hl⟩, grows_in, ht⟩
    · refine (cut_all m w h2 (by omega)).mono fun e w' ⟨he, hw⟩ => ⟨he, ?_⟩
      rw [← hw]
      simp only [Int.toNat_natCast]
      rw [List.take_of_length_le (by simp; omega)]
      exact LgNew.refl h0
theorem lg_join (n : Int) (v2 : Value) (M : List OpD) (h : Lg B S w l L c) (hM : OpsAt F w v2 M) (hm : Mild M) :
    Calls Try.prog 35 #[.pointer (some ⟨l, 0, none⟩), .int .i64 n, v2] w fun e w' => e = .returned (.int .i64 (joinR L c n M).2) ∧ LgNew B S w w' l (joinR L c n M).1 c := by
  have hB := h.base
  have h0 := h
  have hcom := h.com
  obtain ⟨h1, k, base, v, ps, rfl, h2⟩ := h
  obtain ⟨qs, rfl, hq⟩ := hM
  unfold joinR
  obtain ⟨A2, c2, rfl, _, _, _⟩ := hq.1.shape
  by_cases hn : n < c ∨ ((ps.map (·.1)).length : Int) < n
  · rw [if_pos hn]
    exact (join_arg n A2 qs.length c2 w h2 (by simpa using hn)).mono fun e w' ⟨he, hw⟩ => ⟨he, by rw [← hw]; exact LgNew.refl h0⟩
  · rw [if_neg hn]
    rw [List.length_map] at hn
    obtain ⟨m, rfl⟩ : ∃ m : Nat, n = (m : Int) := ⟨n.toNat, by omega⟩
    simp only [Int.toNat_natCast]
    by_cases hf : 2000 < m + (qs.map (·.1)).length
    · rw [if_pos hf]
      exact (join_full m A2 qs.length c2 w h2 (by omega) (by omega) (by simpa using hf)).mono fun e w' ⟨he, hw⟩ => ⟨he, by rw [← hw]; exact LgNew.refl h0⟩
    · rw [if_neg hf]
      refine (join_yes m _ qs w h2 (by omega) (by omega) hq (fun q hq' => hm q.1 (List.mem_map_of_mem hq')) (by simp at hf; omega)).mono fun e w' ⟨k', base', v', rs, he, hr, hl, ht⟩ => ⟨he, _, ⟨grows_ok h1 hB ht.size, k', base', v', rs, hr, hl⟩, grows_in, ht⟩
theorem lg_replace (n : Int) (v2 : Value) (M : List OpD) (h : Lg B S w l L c) (hM : OpsAt F w v2 M) (hm : Mild M) :
    Calls Try.prog 37 #[.pointer (some ⟨l, 0, none⟩), v2, .int .i64 n] w fun e w' => e = .returned (.int .i64 (replR L c M n).2.2) ∧ LgNew B S w w' l (replR L c M n).1 (replR L c M n).2.1 := by
  have hB := h.base
  have h0 := h
  obtain ⟨h1, k, base, v, ps, rfl, h2⟩ := h
  obtain ⟨qs, rfl, hq⟩ := hM
  have hq0 := hq
  obtain ⟨A2, c2, rfl, _, _, _⟩ := hq.1.shape
  unfold replR
  by_cases hf : 2000 < (qs.map (·.1)).length
  · rw [if_pos hf]
    exact (replace_full n A2 qs.length c2 w h2 (by simpa using hf)).mono fun e w' ⟨he, hw⟩ => ⟨he, by rw [← hw]; exact LgNew.refl h0⟩
  · rw [if_neg hf]
    have hf' : qs.length ≤ 2000 := by simp at hf; omega
    by_cases hn : n < c ∨ ((qs.map (·.1)).length : Int) < n
    · rw [if_pos (.inl hn)]
      exact (replace_arg n A2 qs.length c2 w h2 hf' (by simpa using hn)).mono fun e w' ⟨he, hb⟩ => ⟨he, LgNew.of_below h0 hb⟩
    · have hn' : ¬ (n < c ∨ (qs.length : Int) < n) := by simpa using hn
      by_cases hp : (qs.map (·.1)).take c = (ps.map (·.1)).take c
      · rw [if_neg (by intro e; exact e.elim hn fun e => e hp)]
        obtain ⟨m, rfl⟩ : ∃ m : Nat, n = (m : Int) := ⟨n.toNat, by omega⟩
        simp only [Int.toNat_natCast]
        refine (replace_yes m _ qs w h2 hq0 (fun q hq' => hm q.1 (List.mem_map_of_mem hq')) hf' (by omega) (by omega) hp).mono fun e w' ⟨k', base', v', rs, he, hr, hl, ht⟩ => ⟨he, _, ⟨grows_ok h1 hB ht.size, k', base', v', rs, hr, hl⟩, grows_in, ht⟩
      · rw [if_pos (.inr hp)]
        exact (replace_other n _ qs w h2 hq0 hf' (by omega) (by omega) hp).mono fun e w' ⟨he, hb⟩ => ⟨he, LgNew.of_below h0 hb⟩
end
end Go.Proofs.Ytehcaigkohkbnaa
