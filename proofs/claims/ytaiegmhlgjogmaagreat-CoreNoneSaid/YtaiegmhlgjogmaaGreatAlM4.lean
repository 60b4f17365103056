/- Texts merged: Lg, Sl, OpenM, MsgV, Rep, Lead, RepT, RepA, KeptM, Leads, RepF, Order3. -/
import Derived.Test.YtaiegmhlgjogmaaGreatAlM1
import Derived.Test.YtaiegmhlgjogmaaGreatAlM2
import Derived.Test.YtaiegmhlgjogmaaGreatAlM3
import Derived.Test.YtaiegmhlgjogmaaGreatProg
import Derived.Deep.Slices
import Derived.ChangeArms
import Derived.SizedLaws
import Derived.ShutString
import Derived.ProofKit
import Derived.OpenShut
import Derived.RegionTactic
import Derived.BigRegion
/- A log by what it says: its operations, and how many are committed; what each call tells and leaves, as functions. -/
namespace Go.Proofs.YtaiegmhlgjogmaaGreat.Ol
open Go.RowKit

/-- The block l holds a log of the operations L, the first c committed; all of it lies in S, above B. -/
def Lg (B : Nat) (S : Nat → Prop) (w : World) (l : Nat) (L : List OpD) (c : Nat) : Prop :=
  (∀ i, S i → B ≤ i ∧ i < w.heap.size) ∧ ∃ k base v ps, ps.map (·.1) = L ∧ LogAt S w l k base v ps c
/-- The same behind a call that wrote to it. -/
def LgNew (B : Nat) (S : Nat → Prop) (w w' : World) (l : Nat) (L : List OpD) (c : Nat) : Prop :=
  ∃ S' : Nat → Prop, Lg B S' w' l L c ∧ (∀ i, S' i → S i ∨ w.heap.size ≤ i) ∧ Turned S w w'
/-- All steps are not too many. -/
def Mild (L : List OpD) : Prop := ∀ o ∈ L, o.steps.length ≤ 1000000

/-- What the calls leave and tell. -/
def addR (L : List OpD) (o : OpD) : List OpD × Int × Int := if L.length < 2000 then (L ++ [o], (L.length + 1 : Nat), 0) else (L, 0, 7)
def cutR (L : List OpD) (c : Nat) (n : Int) : List OpD × Int := if n < c then (L, 2) else (L.take n.toNat, 0)
def joinR (L : List OpD) (c : Nat) (n : Int) (M : List OpD) : List OpD × Int := if n < c ∨ (L.length : Int) < n then (L, 2) else if 2000 < n.toNat + M.length then (L, 7) else (L.take n.toNat ++ M, 0)
def replR (L : List OpD) (c : Nat) (M : List OpD) (n : Int) : List OpD × Nat × Int := if 2000 < M.length then (L, c, 7) else if (n < c ∨ (M.length : Int) < n) ∨ M.take c ≠ L.take c then (L, c, 2) else (M, n.toNat, 0)
def atR (L : List OpD) (n : Int) : Option OpD := if n < 1 then none else L[n.toNat - 1]?

section
variable {B : Nat} {S F : Nat → Prop} {w w' : World} {l : Nat} {L : List OpD} {c : Nat}
theorem Lg.later (h : Lg B S w l L c) (hk : Kept S w w') : Lg B S w' l L c := by
  obtain ⟨h1, k, base, v, ps, e, h2⟩ := h
  exact ⟨fun i hi => ⟨(h1 i hi).1, Nat.lt_of_lt_of_le (h1 i hi).2 hk.1⟩, k, base, v, ps, e, h2.keep hk⟩
theorem Lg.below (h : Lg B S w l L c) (hb : Below w.heap.size w w') : Lg B S w' l L c := h.later (Kept.of_below hb _)
theorem Lg.len (h : Lg B S w l L c) : L.length ≤ 2000 := by
  obtain ⟨_, k, base, v, ps, rfl, h2⟩ := h
  simpa using h2.parts.len
theorem Lg.com (h : Lg B S w l L c) : c ≤ L.length := by
  obtain ⟨_, k, base, v, ps, rfl, h2⟩ := h
  simpa using h2.parts.com
theorem Lg.mild (h : Lg B S w l L c) : Mild L := by
  obtain ⟨_, k, base, v, ps, rfl, h2⟩ := h
  intro o ho
  obtain ⟨p, hp, rfl⟩ := List.mem_map.1 ho
  exact h2.parts.small p hp
theorem Lg.base (h : Lg B S w l L c) : B ≤ w.heap.size := by
  obtain ⟨h1, k, base, v, ps, rfl, h2⟩ := h
  have := h1 l h2.inn
  omega
theorem LgNew.refl (h : Lg B S w l L c) : LgNew B S w w l L c := ⟨S, h, fun _ hi => .inl hi, Turned.refl _ _⟩
theorem LgNew.of_below (h : Lg B S w l L c) (hb : Below w.heap.size w w') : LgNew B S w w' l L c := ⟨S, h.below hb, fun _ hi => .inl hi, Turned.of_below hb _⟩
/-- The grown set lies above B, and in the world. -/
theorem grows_ok (h : ∀ i, S i → B ≤ i ∧ i < w.heap.size) (hB : B ≤ w.heap.size) (hs : w.heap.size ≤ w'.heap.size) : ∀ i, Grows S w w' i → B ≤ i ∧ i < w'.heap.size := by
  intro i hi
  rcases hi with hi | hi
  · have := h i hi
    exact ⟨this.1, by omega⟩
  · exact ⟨by omega, hi.2⟩
theorem grows_in : ∀ i, Grows S w w' i → S i ∨ w.heap.size ≤ i := fun _ hi => hi.imp id fun h => h.1

theorem lg_new (w : World) : Calls Tryz.prog 82 #[] w fun e w' => ∃ l S, e = .returned (.pointer (some ⟨l, 0, none⟩)) ∧ Lg w.heap.size S w' l [] 0 ∧ Below w.heap.size w w' :=
  (new_any w).mono fun _ _ ⟨l, k, he, hb, hl⟩ => ⟨l, _, he, ⟨fun _ hi => hi, k, _, _, _, rfl, hl⟩, hb⟩
theorem lg_last (h : Lg B S w l L c) : Calls Tryz.prog 121 #[.pointer (some ⟨l, 0, none⟩)] w fun e w' => e = .returned (.int .i64 (L.length : Int)) ∧ w = w' := by
  obtain ⟨_, k, base, v, ps, rfl, h2⟩ := h
  rw [List.length_map]
  exact last_yes w h2
theorem lg_committed (h : Lg B S w l L c) : Calls Tryz.prog 49 #[.pointer (some ⟨l, 0, none⟩)] w fun e w' => e = .returned (.int .i64 (c : Int)) ∧ w = w' := by
  obtain ⟨_, k, base, v, ps, rfl, h2⟩ := h
  exact committed_yes w h2
theorem lg_add (o : OpD) (s : Value) (h : Lg B S w l L c) (hs : StepsAt F w s o.steps) (ho : o.steps.length ≤ 1000000) :
    Calls Tryz.prog 53 #[.pointer (some ⟨l, 0, none⟩), .agg (o.cells s).toArray] w fun e w' => e = .returned (.tuple #[.int .i64 (addR L o).2.1, .int .i64 (addR L o).2.2]) ∧ LgNew B S w w' l (addR L o).1 c := by
  have hB := h.base
  have hl := h.len
  have h0 := h
  obtain ⟨h1, k, base, v, ps, rfl, h2⟩ := h
  unfold addR
  by_cases hlt : (ps.map (·.1)).length < 2000
  · rw [if_pos hlt]
    refine (add_yes o s w h2 hs ho (by simpa using hlt)).mono fun e w' ⟨v', s', he, hl', ht⟩ => ⟨by simpa using he, _, ⟨grows_ok h1 hB ht.size, k, _, _, _, by simp, hl'⟩, grows_in, ht⟩
  · rw [if_neg hlt]
    exact (add_full o s w h2 (by simp at hl hlt; omega)).mono fun e w' ⟨he, hb⟩ => ⟨he, LgNew.of_below h0 hb⟩
/-- Operations told: all in new memory. -/
def Tells (w : World) (M : List OpD) (e : Ending) (w' : World) : Prop := ∃ v rs, e = .returned v ∧ rs.map (·.1) = M ∧ OpsFree (w.heap.size ≤ ·) w' v rs ∧ w'.ownsRow w.heap.size 33 10 v rs.length (opcells rs)
theorem lg_commit (n : Int) (h : Lg B S w l L c) :
    Calls Tryz.prog 145 #[.pointer (some ⟨l, 0, none⟩), .int .i64 n] w fun e w' => Tells w ((L.take (comTo c L.length n)).drop c) e w' ∧ Lg B S w' l L (comTo c L.length n) ∧ Turned S w w' := by
  obtain ⟨h1, k, base, v, ps, rfl, h2⟩ := h
  refine (commit_yes n w h2).mono fun e w' ⟨v', rs, he, hs, hf, ho, hl, ht⟩ => ?_
  rw [List.length_map]
  exact ⟨⟨v', rs, he, by rw [hs, List.map_drop, List.map_take], hf, ho⟩, ⟨fun i hi => ⟨(h1 i hi).1, Nat.lt_of_lt_of_le (h1 i hi).2 ht.size⟩, k, base, v, ps, rfl, hl⟩, ht.mono fun i e => by rw [e]; exact h2.parts.inn.1⟩
theorem turned_none {a b : World} (h : Turned (fun _ => False) a b) : Below a.heap.size a b := ⟨h.os, h.tape, h.output, h.size, fun i hi => h.block i hi id⟩
theorem lg_sinceB (n : Int) (h : Lg B S w l L c) :
    Calls Tryz.prog 48 #[.pointer (some ⟨l, 0, none⟩), .int .i64 n] w fun e w' => Tells w (L.drop (fromOf L.length n)) e w' ∧ Below w.heap.size w w' := by
  obtain ⟨h1, k, base, v, ps, rfl, h2⟩ := h
  refine (since_yes n w h2).mono fun e w' ⟨v', rs, he, hs, hf, ho, hl, ht⟩ => ?_
  rw [List.length_map]
  exact ⟨⟨v', rs, he, by rw [hs, List.map_drop], hf, ho⟩, turned_none ht⟩
theorem lg_since (n : Int) (h : Lg B S w l L c) :
    Calls Tryz.prog 48 #[.pointer (some ⟨l, 0, none⟩), .int .i64 n] w fun e w' => Tells w (L.drop (fromOf L.length n)) e w' ∧ Lg B S w' l L c ∧ Turned S w w' :=
  (lg_sinceB n h).mono fun _ _ ⟨ht, hb⟩ => ⟨ht, h.below hb, Turned.of_below hb _⟩
/-- What At tells. -/
def AtTells (w : World) : Option OpD → Ending → World → Prop
  | none, e, _ => NoOp e
  | some o, e, w' => OneOp w o e w'
theorem lg_at (n : Int) (h : Lg B S w l L c) :
    Calls Tryz.prog 51 #[.pointer (some ⟨l, 0, none⟩), .int .i64 n] w fun e w' => AtTells w (atR L n) e w' ∧ Below w.heap.size w w' := by
  obtain ⟨h1, k, base, v, ps, rfl, h2⟩ := h
  unfold atR
  by_cases hn : n < 1
  · rw [if_pos hn]
    exact (at_out n w h2 (.inl hn)).mono fun e w' ⟨a, _, d⟩ => ⟨a, turned_none d⟩
  · rw [if_neg hn]
    cases ho : (ps.map (·.1))[n.toNat - 1]? with
    | none =>
      have hlen : ps.length ≤ n.toNat - 1 := by simpa using List.getElem?_eq_none_iff.1 ho
      exact (at_out n w h2 (.inr (by omega))).mono fun e w' ⟨a, _, d⟩ => ⟨a, turned_none d⟩
    | some o => exact (at_yes (n.toNat - 1) n o w h2 (by omega) ho).mono fun e w' ⟨a, _, d⟩ => ⟨a, turned_none d⟩
theorem lg_join (n : Int) (v2 : Value) (M : List OpD) (h : Lg B S w l L c) (hM : OpsAt F w v2 M) (hm : Mild M) :
    Calls Tryz.prog 164 #[.pointer (some ⟨l, 0, none⟩), .int .i64 n, v2] w fun e w' => e = .returned (.int .i64 (joinR L c n M).2) ∧ LgNew B S w w' l (joinR L c n M).1 c := by
  have hB := h.base
  have h0 := h
  have hcom := h.com
  obtain ⟨h1, k, base, v, ps, rfl, h2⟩ := h
  obtain ⟨qs, rfl, hq⟩ := hM
  unfold joinR
  obtain ⟨A2, c2, rfl, _, _, _⟩ := hq.1.shape
  by_cases hn : n < c ∨ ((ps.map (·.1)).length : Int) < n
  · rw [if_pos hn]
    exact (join_arg n A2 qs.length c2 w h2 (by simpa using hn)).mono fun e w' ⟨he, hw⟩ => ⟨he, by rw [← hw]; exact LgNew.refl h0⟩
  · rw [if_neg hn]
    rw [List.length_map] at hn
    obtain ⟨m, rfl⟩ : ∃ m : Nat, n = (m : Int) := ⟨n.toNat, by omega⟩
    simp only [Int.toNat_natCast]
    by_cases hf : 2000 < m + (qs.map (·.1)).length
    · rw [if_pos hf]
      exact (join_full m A2 qs.length c2 w h2 (by omega) (by omega) (by simpa using hf)).mono fun e w' ⟨he, hw⟩ => ⟨he, by rw [← hw]; exact LgNew.refl h0⟩
    · rw [if_neg hf]
      refine (join_yes m _ qs w h2 (by omega) (by omega) hq (fun q hq' => hm q.1 (List.mem_map_of_mem hq')) (by simp at hf; omega)).mono fun e w' ⟨k', base', v', rs, he, hr, hl, ht⟩ => ⟨he, _, ⟨grows_ok h1 hB ht.size, k', base', v', rs, hr, hl⟩, grows_in, ht⟩
theorem lg_replace (n : Int) (v2 : Value) (M : List OpD) (h : Lg B S w l L c) (hM : OpsAt F w v2 M) (hm : Mild M) :
    Calls Tryz.prog 181 #[.pointer (some ⟨l, 0, none⟩), v2, .int .i64 n] w fun e w' => e = .returned (.int .i64 (replR L c M n).2.2) ∧ LgNew B S w w' l (replR L c M n).1 (replR L c M n).2.1 := by
  have hB := h.base
  have h0 := h
  obtain ⟨h1, k, base, v, ps, rfl, h2⟩ := h
  obtain ⟨qs, rfl, hq⟩ := hM
  have hq0 := hq
  obtain ⟨A2, c2, rfl, _, _, _⟩ := hq.1.shape
  unfold replR
  by_cases hf : 2000 < (qs.map (·.1)).length
  · rw [if_pos hf]
    exact (replace_full n A2 qs.length c2 w h2 (by simpa using hf)).mono fun e w' ⟨he, hw⟩ => ⟨he, by rw [← hw]; exact LgNew.refl h0⟩
  · rw [if_neg hf]
    have hf' : qs.length ≤ 2000 := by simp at hf; omega
    by_cases hn : n < c ∨ ((qs.map (·.1)).length : Int) < n
    · rw [if_pos (.inl hn)]
      exact (replace_arg n A2 qs.length c2 w h2 hf' (by simpa using hn)).mono fun e w' ⟨he, hb⟩ => ⟨he, LgNew.of_below h0 hb⟩
    · have hn' : ¬ (n < c ∨ (qs.length : Int) < n) := by simpa using hn
      by_cases hp : (qs.map (·.1)).take c = (ps.map (·.1)).take c
      · rw [if_neg (by intro e; exact e.elim hn fun e => e hp)]
        obtain ⟨m, rfl⟩ : ∃ m : Nat, n = (m : Int) := ⟨n.toNat, by omega⟩
        simp only [Int.toNat_natCast]
        refine (replace_yes m _ qs w h2 hq0 (fun q hq' => hm q.1 (List.mem_map_of_mem hq')) hf' (by omega) (by omega) hp).mono fun e w' ⟨k', base', v', rs, he, hr, hl, ht⟩ => ⟨he, _, ⟨grows_ok h1 hB ht.size, k', base', v', rs, hr, hl⟩, grows_in, ht⟩
      · rw [if_pos (.inr hp)]
        exact (replace_other n _ qs w h2 hq0 hf' (by omega) (by omega) hp).mono fun e w' ⟨he, hb⟩ => ⟨he, LgNew.of_below h0 hb⟩
end
end Go.Proofs.YtaiegmhlgjogmaaGreat.Ol
/- Slices of ints that fit: between the two ways in which they are said; literals; rows of the call's own. -/
namespace Go.Proofs.YtaiegmhlgjogmaaGreat
open Go.RowKit

/-- The slice v holds these integers, and they fit. -/
def SlI (F : Nat → Prop) (w : World) (v : Value) (l : List Int) : Prop := IncsAt F w v l ∧ Fit l
section
variable {F G : Nat → Prop} {w w' : World} {v : Value} {l : List Int}
theorem SlI.kept (h : SlI F w v l) (hk : Kept F w w') : SlI F w' v l := ⟨h.1.kept hk, h.2⟩
theorem SlI.mono (h : SlI F w v l) (hg : ∀ i, i < w.heap.size → F i → G i) : SlI G w v l := ⟨h.1.mono hg, h.2⟩
theorem SlI.shape (h : SlI F w v l) : ∃ A c, v = .slice A l.length c ∧ l.length ≤ c ∧ c ≤ maxLen := by
  obtain ⟨A, c, e, h1, h2, _⟩ := FlatAt.shape h.1
  exact ⟨A, c, e, h1, h2⟩
theorem SlI.holds {A : Option Addr} {n c : Nat} (h : SlI F w (.slice A n c) l) : IHolds w w.heap.size A n l := by
  obtain ⟨A', c', e, _⟩ := FlatAt.shape h.1
  obtain ⟨rfl, rfl, rfl⟩ : A = A' ∧ n = l.length ∧ c = c' := by injection e with a b c; exact ⟨a, b, c⟩
  refine ⟨rfl, h.2, fun hn => ?_⟩
  obtain ⟨x, b, off, c2, hx, hv, _, _, hb, _⟩ := IncsAt.at_ h.1 (i := 0) hn
  obtain rfl : A = some ⟨b, off, none⟩ := by injection hv
  refine ⟨b, off, rfl, hb, fun i hi => ?_⟩
  obtain ⟨y, b', off', c3, hy, hv', _, _, _, hc⟩ := IncsAt.at_ h.1 (i := i) hi
  obtain ⟨rfl, rfl⟩ : b = b' ∧ off = off' := by injection hv' with e1; injection e1 with e1; injection e1 with e2 e3; exact ⟨e2, e3⟩
  rw [hc]
  simp [List.getD, hy]
/-- The cell at i. -/
theorem SlI.cell {A : Option Addr} {n c : Nat} (h : SlI F w (.slice A n c) l) {i : Nat} (hi : i < n) : ∃ b off, A = some ⟨b, off, none⟩ ∧ b < w.heap.size ∧ w.cell? ⟨b, off + i, none⟩ = some (.int .i64 (l.getD i 0)) := h.holds.at_ hi
theorem SlI.nil_ (F : Nat → Prop) (w : World) : SlI F w (.slice none 0 0) [] := ⟨IncsAt.nil_ F w, by simp [Fit]⟩
theorem SlI.of_own {base e n : Nat} (h : w.ownsRow base e 1 v n (ivs l)) (hs : Fit l) : SlI (base ≤ ·) w v l := by
  have hl : n = l.length := by have := h.1; rw [ivs_len] at this; omega
  subst hl
  exact ⟨FlatAt.of_own h (ivs_cell l), hs⟩
end
/-- A literal. -/
theorem sli_lit (w : World) (T : TypeId) (l : List Int) (hs : Fit l) (hl : l.length ≤ 1000) (h0 : 0 < l.length) : SlI (w.heap.size ≤ ·) (w.alloc (.cells (ivs l).toArray T (0, 0))) (.slice (some ⟨w.heap.size, 0, none⟩) l.length l.length) l := by
  refine SlI.of_own (e := T) (n := l.length) ?_ hs
  exact own_of_whole (heap_alloc_new w _) (ivs_len l) (Nat.le_refl _) (by unfold maxLen; omega)
theorem Fit.mk1 {a : Int} (h : I64 a) : Fit [a] := by
  intro x hx
  obtain rfl : x = a := by simpa using hx
  exact h
end Go.Proofs.YtaiegmhlgjogmaaGreat
/- From what a row says of steps, operations and messages that came in to what the walks are told of them. -/
namespace Go.Proofs.YtaiegmhlgjogmaaGreat
open Go.RowKit

/-- No string and no slice in the datum is too long. -/
def Sm {H : Type} (t : TypeId) (d : DataW H) : Prop := ∀ n ∈ d.weights Tryz.prog t, n ≤ reachBytes
theorem weights_mem_all {H : Type} {P : Program} {e : TypeId} {d : DataW H} : ∀ {l : List (DataW H)}, d ∈ l → ∀ n ∈ d.weights P e, n ∈ DataW.weightsAll P e l
  | [], h, _, _ => by cases h
  | y :: r, h, n, hn => by
    simp only [DataW.weightsAll, List.mem_append]
    rcases List.mem_cons.1 h with rfl | h
    · exact .inl hn
    · exact .inr (weights_mem_all h n hn)

section
variable {H : Type} {enc : TypeId × Value → H} {W : World}
/-- The reading of an argument. -/
abbrev Rd (enc : TypeId × Value → H) (W : World) (n : Nat) (t : TypeId) (cs : List Value) (x : DataW H × List MemPlace) : Prop := DataW.trod enc Tryz.prog W 0 (fun _ => true) true n t cs = some x

/-- A struct's fields. -/
theorem open_fields {t : TypeId} {fs : Array Field} {n : Nat} {cs : List Value} {x : DataW H × List MemPlace} (ht : Tryz.prog.underlying t = some (.struct fs)) (h : Rd enc W n t cs x) (hs : Sm t x.1) :
    ∃ m, cs.length = Tryz.prog.cellsOf t ∧ ∀ (i : Nat) (f : Field), fs[i]? = some f → ∃ y, Rd enc W m f.type ((cs.drop f.offset).take (Tryz.prog.cellsOf f.type)) y ∧ Sm f.type y.1 := by
  obtain ⟨xs, m, _, hx, hl, hxl, hf⟩ := DataW.trod_struct ht h
  refine ⟨m, hl, fun i f hi => ?_⟩
  have hil : i < xs.length := by rw [hxl]; exact (Array.getElem?_eq_some_iff.1 hi).1
  refine ⟨xs[i], (hf i f hi).trans (List.getElem?_eq_getElem hil), fun k hk => hs k ?_⟩
  rw [hx]
  simp only [DataW.weights, ht]
  exact DataW.weights_mem_each (j := i) (t := f.type) (d := xs[i].1) (by simp [hi]) (by simp [hil]) k hk
theorem open_int1 {t : TypeId} {n : Nat} {c : Value} {x : DataW H × List MemPlace} (ht : Tryz.prog.underlying t = some (.int .i64)) (h : Rd enc W n t [c] x) : ∃ a : Int, c = .int .i64 a ∧ I64 a := by
  obtain ⟨a, h0, _, w0⟩ := DataW.trod_int ht h
  have b0 := bounds_i64 w0
  simp only [List.cons.injEq, and_true] at h0
  exact ⟨a, h0, by unfold I64; omega⟩
theorem open_bool1 {t : TypeId} {n : Nat} {c : Value} {x : DataW H × List MemPlace} (ht : Tryz.prog.underlying t = some .bool) (h : Rd enc W n t [c] x) : ∃ a : Bool, c = .bool a := by
  obtain ⟨a, h0, _⟩ := DataW.trod_bool ht h
  simp only [List.cons.injEq, and_true] at h0
  exact ⟨a, h0⟩
theorem open_str1 {t : TypeId} {n : Nat} {c : Value} {x : DataW H × List MemPlace} (ht : Tryz.prog.underlying t = some .string) (h : Rd enc W n t [c] x) (hs : Sm t x.1) : ∃ s : ByteArray, c = .string s ∧ s.size ≤ 140737488355328 := by
  obtain ⟨s, h0, h1, _⟩ := DataW.trod_string ht h
  simp only [List.cons.injEq, and_true] at h0
  refine ⟨s, h0, ?_⟩
  have := hs s.data.toList.length (by rw [h1]; simp [DataW.weights])
  unfold reachBytes at this
  rw [Array.length_toList] at this
  show s.data.size ≤ _
  omega

/-- The elements of a slice. -/
theorem open_elems {α : Type} [Inhabited α] (cells : α → List Value) (good : α → Prop) {t e : TypeId} (k : Nat) (hk : 0 < k) (hck : ∀ y, (cells y).length = k) (ht : Tryz.prog.underlying t = some (.slice e)) (hc : Tryz.prog.cellsOf e = k)
    (hel : ∀ (n : Nat) (cs : List Value) (x : DataW H × List MemPlace), Rd enc W n e cs x → Sm e x.1 → ∃ y : α, cs = cells y ∧ good y) (hone : ∀ y, good y → ∀ u ∈ cells y, u.oneCell' = true)
    {n : Nat} {v : Value} {x : DataW H × List MemPlace} (h : Rd enc W n t [v] x) (hs : Sm t x.1) :
    ∃ ys : List α, FlatAt (· < W.heap.size) W k v ys.length (ys.flatMap cells) ∧ ∀ y ∈ ys, good y := by
  rcases Go.Deep.open_slice ht h with ⟨hcs, _⟩ | ⟨a, l, c, m, n', D, Pl, hcs, _, hl, hm, hmm, hx, hi⟩
  · obtain rfl : v = .slice none 0 0 := by simpa using hcs
    exact ⟨[], FlatAt.nil_ _ _ _, by simp⟩
  · obtain rfl : v = .slice (some a) l c := by simpa using hcs
    simp only [if_true] at hmm
    rw [hc] at hi
    obtain ⟨F, hF⟩ := Go.Deep.choose_lt (p := fun i (y : α) => (∀ j u, (cells y)[j]? = some u → W.cell? (a.add (i * k + j)) = some u) ∧ good y) fun i (hil : i < l) => by
      obtain ⟨cs', h1, h2⟩ := hi i (by omega)
      have hsm : Sm e (D i) := fun q hq => hs q (by
        rw [hx]
        simp only [DataW.weights, ht]
        exact List.mem_cons_of_mem _ (List.mem_append_left _ (weights_mem_all (List.mem_map.2 ⟨i, List.mem_range.2 hil, rfl⟩) q hq)))
      obtain ⟨y, hy, hg⟩ := hel n' cs' (D i, Pl i) h2 hsm
      obtain ⟨_, hlen, hat⟩ := World.cells?_some h1
      refine ⟨y, fun j u hu => ?_, hg⟩
      have hj : j < k := by rw [← hck y]; exact (List.getElem?_eq_some_iff.1 hu).1
      rw [← Go.Deep.add_add, hat j hj, hy, hu]
    refine ⟨(List.range l).map F, ⟨?_, ?_, some a, c, by simp, by simpa using hl, hm, (fun e => by cases e), fun hn => ?_⟩, fun y hy => ?_⟩
    · exact flat_len cells k _ (fun y _ => hck y)
    · intro u hu
      obtain ⟨y, hy, hu⟩ := List.mem_flatMap.1 hu
      obtain ⟨i, hi, rfl⟩ := List.mem_map.1 hy
      exact hone _ (hF i (List.mem_range.1 hi)).2 u hu
    · have hn' : 0 < l := by simpa using hn
      obtain ⟨b, off, spot⟩ := a
      have hk0 : (cells (F 0))[0]? = some ((cells (F 0))[0]'(by rw [hck]; exact hk)) := List.getElem?_eq_getElem (by rw [hck]; exact hk)
      have h0 := (hF 0 hn').1 0 _ hk0
      have hspot : spot = none := by simpa [Addr.add] using World.cell?_spot h0
      subst hspot
      have hblt : b < W.heap.size := World.block_lt_of_cell? W _ (by simpa [Addr.add] using h0)
      refine ⟨b, off, rfl, hblt, hblt, fun j u hj => ?_⟩
      have hjl : j < l * k := by
        have := (List.getElem?_eq_some_iff.1 hj).1
        rw [flat_len cells k _ (fun y _ => hck y)] at this
        simpa using this
      have hq : j / k < l := Nat.div_lt_of_lt_mul (by rwa [Nat.mul_comm])
      have hr : j % k < k := Nat.mod_lt _ hk
      have hj2 : j = j / k * k + j % k := by rw [Nat.mul_comm]; exact (Nat.div_add_mod j k).symm
      have hge := flat_get cells k ((List.range l).map F) (j / k) (F (j / k)) (fun y _ => hck y) (by simp [hq])
      have hu : (cells (F (j / k)))[j % k]? = some u := by
        rw [← hge, List.getElem?_take_of_lt hr, List.getElem?_drop, ← hj2, hj]
      have := (hF (j / k) hq).1 (j % k) u hu
      rwa [Addr.add_lit, ← hj2] at this
    · obtain ⟨i, hi, rfl⟩ := List.mem_map.1 hy
      exact (hF i (List.mem_range.1 hi)).2
end

instance : Inhabited StepD := ⟨⟨⟨#[]⟩, 0, 0, 0, false, false⟩⟩
instance : Inhabited (OpD × Value) := ⟨⟨.zero, .slice none 0 0⟩⟩
section
variable {H : Type} {enc : TypeId × Value → H} {W : World}
set_option maxRecDepth 100000

theorem open_step {n : Nat} {cs : List Value} {x : DataW H × List MemPlace} (h : Rd enc W n 166 cs x) (hs : Sm 166 x.1) :
    ∃ s : StepD, cs = s.cells ∧ s.wf := by
  obtain ⟨m, hl, hf⟩ := open_fields Tryz.underlying166 h hs
  have hl : cs.length = 6 := hl
  match cs, hl with
  | [c0, c1, c2, c3, c4, c5], _ =>
    obtain ⟨y0, g0, s0⟩ := hf 0 _ rfl
    have g0 : Rd enc W m 9 [c0] y0 := (congrArg (fun q => DataW.trod enc Tryz.prog W 0 (fun _ => true) true m 9 q) (show ([c0, c1, c2, c3, c4, c5].drop 0).take (Tryz.prog.cellsOf 9) = [c0] from by rw [show Tryz.prog.cellsOf 9 = 1 from by kernel_rfl]; rfl)).symm.trans g0
    obtain ⟨a0, e0, w0⟩ := open_str1 Tryz.underlying9 g0 s0
    obtain ⟨y1, g1, s1⟩ := hf 1 _ rfl
    have g1 : Rd enc W m 3 [c1] y1 := (congrArg (fun q => DataW.trod enc Tryz.prog W 0 (fun _ => true) true m 3 q) (show ([c0, c1, c2, c3, c4, c5].drop 1).take (Tryz.prog.cellsOf 3) = [c1] from by rw [show Tryz.prog.cellsOf 3 = 1 from by kernel_rfl]; rfl)).symm.trans g1
    obtain ⟨a1, e1, w1⟩ := open_int1 Tryz.underlying3 g1
    obtain ⟨y2, g2, s2⟩ := hf 2 _ rfl
    have g2 : Rd enc W m 3 [c2] y2 := (congrArg (fun q => DataW.trod enc Tryz.prog W 0 (fun _ => true) true m 3 q) (show ([c0, c1, c2, c3, c4, c5].drop 2).take (Tryz.prog.cellsOf 3) = [c2] from by rw [show Tryz.prog.cellsOf 3 = 1 from by kernel_rfl]; rfl)).symm.trans g2
    obtain ⟨a2, e2, w2⟩ := open_int1 Tryz.underlying3 g2
    obtain ⟨y3, g3, s3⟩ := hf 3 _ rfl
    have g3 : Rd enc W m 3 [c3] y3 := (congrArg (fun q => DataW.trod enc Tryz.prog W 0 (fun _ => true) true m 3 q) (show ([c0, c1, c2, c3, c4, c5].drop 3).take (Tryz.prog.cellsOf 3) = [c3] from by rw [show Tryz.prog.cellsOf 3 = 1 from by kernel_rfl]; rfl)).symm.trans g3
    obtain ⟨a3, e3, w3⟩ := open_int1 Tryz.underlying3 g3
    obtain ⟨y4, g4, s4⟩ := hf 4 _ rfl
    have g4 : Rd enc W m 4 [c4] y4 := (congrArg (fun q => DataW.trod enc Tryz.prog W 0 (fun _ => true) true m 4 q) (show ([c0, c1, c2, c3, c4, c5].drop 4).take (Tryz.prog.cellsOf 4) = [c4] from by rw [show Tryz.prog.cellsOf 4 = 1 from by kernel_rfl]; rfl)).symm.trans g4
    obtain ⟨a4, e4⟩ := open_bool1 Tryz.underlying4 g4
    obtain ⟨y5, g5, s5⟩ := hf 5 _ rfl
    have g5 : Rd enc W m 4 [c5] y5 := (congrArg (fun q => DataW.trod enc Tryz.prog W 0 (fun _ => true) true m 4 q) (show ([c0, c1, c2, c3, c4, c5].drop 5).take (Tryz.prog.cellsOf 4) = [c5] from by rw [show Tryz.prog.cellsOf 4 = 1 from by kernel_rfl]; rfl)).symm.trans g5
    obtain ⟨a5, e5⟩ := open_bool1 Tryz.underlying4 g5
    subst e0 e1 e2 e3 e4 e5
    exact ⟨⟨a0, a1, a2, a3, a4, a5⟩, rfl, w0, w1, w2, w3⟩

theorem open_steps {n : Nat} {v : Value} {x : DataW H × List MemPlace} (h : Rd enc W n 29 [v] x) (hs : Sm 29 x.1) : ∃ l, StepsAt (· < W.heap.size) W v l ∧ ∀ s ∈ l, s.wf := by
  obtain ⟨ys, h1, h2⟩ := open_elems StepD.cells StepD.wf 6 (by decide) StepD.len Tryz.underlying29 (by kernel_rfl) (fun n cs x h hs => open_step h hs) (fun y _ => y.one) h hs
  exact ⟨ys, h1, h2⟩

theorem open_def {n : Nat} {cs : List Value} {x : DataW H × List MemPlace} (h : Rd enc W n 31 cs x) (hs : Sm 31 x.1) :
    ∃ (nm : ByteArray) (v : Value) (l : List StepD), cs = [.string nm, v] ∧ nm.size ≤ 140737488355328 ∧ StepsAt (· < W.heap.size) W v l ∧ ∀ s ∈ l, s.wf := by
  obtain ⟨m, hl, hf⟩ := open_fields Tryz.underlying31 h hs
  have hl : cs.length = 2 := hl
  match cs, hl with
  | [c0, c1], _ =>
    obtain ⟨y0, g0, s0⟩ := hf 0 _ rfl
    have g0 : Rd enc W m 9 [c0] y0 := (congrArg (fun q => DataW.trod enc Tryz.prog W 0 (fun _ => true) true m 9 q) (show ([c0, c1].drop 0).take (Tryz.prog.cellsOf 9) = [c0] from by rw [show Tryz.prog.cellsOf 9 = 1 from by kernel_rfl]; rfl)).symm.trans g0
    obtain ⟨a0, e0, w0⟩ := open_str1 Tryz.underlying9 g0 s0
    obtain ⟨y1, g1, s1⟩ := hf 1 _ rfl
    have g1 : Rd enc W m 29 [c1] y1 := (congrArg (fun q => DataW.trod enc Tryz.prog W 0 (fun _ => true) true m 29 q) (show ([c0, c1].drop 1).take (Tryz.prog.cellsOf 29) = [c1] from by rw [show Tryz.prog.cellsOf 29 = 1 from by kernel_rfl]; rfl)).symm.trans g1
    obtain ⟨l, hl1, hl2⟩ := open_steps g1 s1
    subst e0
    exact ⟨a0, _, l, rfl, w0, hl1, hl2⟩

theorem open_op {n : Nat} {cs : List Value} {x : DataW H × List MemPlace} (h : Rd enc W n 33 cs x) (hs : Sm 33 x.1) :
    ∃ p : OpD × Value, cs = p.1.cells p.2 ∧ StepsAt (· < W.heap.size) W p.2 p.1.steps ∧ p.1.wf := by
  obtain ⟨m, hl, hf⟩ := open_fields Tryz.underlying33 h hs
  have hl : cs.length = 10 := hl
  match cs, hl with
  | [c0, c1, c2, c3, c4, c5, c6, c7, c8, c9], _ =>
    obtain ⟨y0, g0, s0⟩ := hf 0 _ rfl
    have g0 : Rd enc W m 3 [c0] y0 := (congrArg (fun q => DataW.trod enc Tryz.prog W 0 (fun _ => true) true m 3 q) (show ([c0, c1, c2, c3, c4, c5, c6, c7, c8, c9].drop 0).take (Tryz.prog.cellsOf 3) = [c0] from by rw [show Tryz.prog.cellsOf 3 = 1 from by kernel_rfl]; rfl)).symm.trans g0
    obtain ⟨a0, e0, w0⟩ := open_int1 Tryz.underlying3 g0
    obtain ⟨y1, g1, s1⟩ := hf 1 _ rfl
    have g1 : Rd enc W m 3 [c1] y1 := (congrArg (fun q => DataW.trod enc Tryz.prog W 0 (fun _ => true) true m 3 q) (show ([c0, c1, c2, c3, c4, c5, c6, c7, c8, c9].drop 1).take (Tryz.prog.cellsOf 3) = [c1] from by rw [show Tryz.prog.cellsOf 3 = 1 from by kernel_rfl]; rfl)).symm.trans g1
    obtain ⟨a1, e1, w1⟩ := open_int1 Tryz.underlying3 g1
    obtain ⟨y2, g2, s2⟩ := hf 2 _ rfl
    have g2 : Rd enc W m 3 [c2] y2 := (congrArg (fun q => DataW.trod enc Tryz.prog W 0 (fun _ => true) true m 3 q) (show ([c0, c1, c2, c3, c4, c5, c6, c7, c8, c9].drop 2).take (Tryz.prog.cellsOf 3) = [c2] from by rw [show Tryz.prog.cellsOf 3 = 1 from by kernel_rfl]; rfl)).symm.trans g2
    obtain ⟨a2, e2, w2⟩ := open_int1 Tryz.underlying3 g2
    obtain ⟨y3, g3, s3⟩ := hf 3 _ rfl
    have g3 : Rd enc W m 31 [c3, c4] y3 := (congrArg (fun q => DataW.trod enc Tryz.prog W 0 (fun _ => true) true m 31 q) (show ([c0, c1, c2, c3, c4, c5, c6, c7, c8, c9].drop 3).take (Tryz.prog.cellsOf 31) = [c3, c4] from by rw [show Tryz.prog.cellsOf 31 = 2 from by kernel_rfl]; rfl)).symm.trans g3
    obtain ⟨nm, v, l, f3, w3, st, wst⟩ := open_def g3 s3
    obtain ⟨y4, g4, s4⟩ := hf 4 _ rfl
    have g4 : Rd enc W m 3 [c5] y4 := (congrArg (fun q => DataW.trod enc Tryz.prog W 0 (fun _ => true) true m 3 q) (show ([c0, c1, c2, c3, c4, c5, c6, c7, c8, c9].drop 5).take (Tryz.prog.cellsOf 3) = [c5] from by rw [show Tryz.prog.cellsOf 3 = 1 from by kernel_rfl]; rfl)).symm.trans g4
    obtain ⟨a4, e4, w4⟩ := open_int1 Tryz.underlying3 g4
    obtain ⟨y5, g5, s5⟩ := hf 5 _ rfl
    have g5 : Rd enc W m 3 [c6] y5 := (congrArg (fun q => DataW.trod enc Tryz.prog W 0 (fun _ => true) true m 3 q) (show ([c0, c1, c2, c3, c4, c5, c6, c7, c8, c9].drop 6).take (Tryz.prog.cellsOf 3) = [c6] from by rw [show Tryz.prog.cellsOf 3 = 1 from by kernel_rfl]; rfl)).symm.trans g5
    obtain ⟨a5, e5, w5⟩ := open_int1 Tryz.underlying3 g5
    obtain ⟨y6, g6, s6⟩ := hf 6 _ rfl
    have g6 : Rd enc W m 3 [c7] y6 := (congrArg (fun q => DataW.trod enc Tryz.prog W 0 (fun _ => true) true m 3 q) (show ([c0, c1, c2, c3, c4, c5, c6, c7, c8, c9].drop 7).take (Tryz.prog.cellsOf 3) = [c7] from by rw [show Tryz.prog.cellsOf 3 = 1 from by kernel_rfl]; rfl)).symm.trans g6
    obtain ⟨a6, e6, w6⟩ := open_int1 Tryz.underlying3 g6
    obtain ⟨y7, g7, s7⟩ := hf 7 _ rfl
    have g7 : Rd enc W m 4 [c8] y7 := (congrArg (fun q => DataW.trod enc Tryz.prog W 0 (fun _ => true) true m 4 q) (show ([c0, c1, c2, c3, c4, c5, c6, c7, c8, c9].drop 8).take (Tryz.prog.cellsOf 4) = [c8] from by rw [show Tryz.prog.cellsOf 4 = 1 from by kernel_rfl]; rfl)).symm.trans g7
    obtain ⟨a7, e7⟩ := open_bool1 Tryz.underlying4 g7
    obtain ⟨y8, g8, s8⟩ := hf 8 _ rfl
    have g8 : Rd enc W m 4 [c9] y8 := (congrArg (fun q => DataW.trod enc Tryz.prog W 0 (fun _ => true) true m 4 q) (show ([c0, c1, c2, c3, c4, c5, c6, c7, c8, c9].drop 9).take (Tryz.prog.cellsOf 4) = [c9] from by rw [show Tryz.prog.cellsOf 4 = 1 from by kernel_rfl]; rfl)).symm.trans g8
    obtain ⟨a8, e8⟩ := open_bool1 Tryz.underlying4 g8
    subst e0 e1 e2 e4 e5 e6 e7 e8
    simp only [List.cons.injEq, and_true] at f3
    obtain ⟨rfl, rfl⟩ := f3
    exact ⟨(⟨a0, a1, a2, nm, l, a4, a5, a6, a7, a8⟩, _), rfl, st, w0, w1, w2, w3, wst, w4, w5, w6⟩

theorem open_ops {n : Nat} {v : Value} {x : DataW H × List MemPlace} (h : Rd enc W n 39 [v] x) (hs : Sm 39 x.1) : ∃ l, OpsAt (· < W.heap.size) W v l ∧ ∀ o ∈ l, o.wf := by
  obtain ⟨ys, h1, h2⟩ := open_elems (fun p : OpD × Value => p.1.cells p.2) (fun p => StepsAt (· < W.heap.size) W p.2 p.1.steps ∧ p.1.wf) 10 (by decide) (fun p => p.1.len p.2) Tryz.underlying39 (by kernel_rfl) (fun n cs x h hs => open_op h hs) (fun y hy => y.1.one (FlatAt.oneCell hy.1)) h hs
  refine ⟨ys.map (·.1), ⟨ys, rfl, h1, fun p hp => (h2 p hp).1⟩, fun o ho => ?_⟩
  obtain ⟨p, hp, rfl⟩ := List.mem_map.1 ho
  exact (h2 p hp).2
theorem open_incs {n : Nat} {v : Value} {x : DataW H × List MemPlace} (h : Rd enc W n 40 [v] x) (hs : Sm 40 x.1) : ∃ l, IncsAt (· < W.heap.size) W v l ∧ ∀ a ∈ l, I64 a := by
  obtain ⟨ys, h1, h2⟩ := open_elems (fun a : Int => [.int .i64 a]) I64 1 (by decide) (fun _ => rfl) Tryz.underlying40 (by kernel_rfl) (fun n cs x h hs => by
    obtain ⟨a, h0, _, w0⟩ := DataW.trod_int Tryz.underlying3 h
    have b0 := bounds_i64 w0
    exact ⟨a, h0, by unfold I64; omega⟩) (fun y _ u hu => by obtain rfl : u = .int .i64 y := by simpa using hu
                                                             rfl) h hs
  refine ⟨ys, ?_, h2⟩
  unfold IncsAt
  rw [List.map_eq_flatMap]
  exact h1

theorem open_reply {n : Nat} {cs : List Value} {x : DataW H × List MemPlace} (h : Rd enc W n 36 cs x) (hs : Sm 36 x.1) :
    ∃ a b c d : Int, cs = [.int .i64 a, .int .i64 b, .int .i64 c, .int .i64 d] ∧ I64 a ∧ I64 b ∧ I64 c ∧ I64 d := by
  obtain ⟨m, hl, hf⟩ := open_fields Tryz.underlying36 h hs
  have hl : cs.length = 4 := hl
  match cs, hl with
  | [c0, c1, c2, c3], _ =>
    obtain ⟨y0, g0, s0⟩ := hf 0 _ rfl
    have g0 : Rd enc W m 34 [c0] y0 := (congrArg (fun q => DataW.trod enc Tryz.prog W 0 (fun _ => true) true m 34 q) (show ([c0, c1, c2, c3].drop 0).take (Tryz.prog.cellsOf 34) = [c0] from by rw [show Tryz.prog.cellsOf 34 = 1 from by kernel_rfl]; rfl)).symm.trans g0
    obtain ⟨a0, e0, w0⟩ := open_int1 Tryz.underlying34 g0
    obtain ⟨y1, g1, s1⟩ := hf 1 _ rfl
    have g1 : Rd enc W m 3 [c1] y1 := (congrArg (fun q => DataW.trod enc Tryz.prog W 0 (fun _ => true) true m 3 q) (show ([c0, c1, c2, c3].drop 1).take (Tryz.prog.cellsOf 3) = [c1] from by rw [show Tryz.prog.cellsOf 3 = 1 from by kernel_rfl]; rfl)).symm.trans g1
    obtain ⟨a1, e1, w1⟩ := open_int1 Tryz.underlying3 g1
    obtain ⟨y2, g2, s2⟩ := hf 2 _ rfl
    have g2 : Rd enc W m 3 [c2] y2 := (congrArg (fun q => DataW.trod enc Tryz.prog W 0 (fun _ => true) true m 3 q) (show ([c0, c1, c2, c3].drop 2).take (Tryz.prog.cellsOf 3) = [c2] from by rw [show Tryz.prog.cellsOf 3 = 1 from by kernel_rfl]; rfl)).symm.trans g2
    obtain ⟨a2, e2, w2⟩ := open_int1 Tryz.underlying3 g2
    obtain ⟨y3, g3, s3⟩ := hf 3 _ rfl
    have g3 : Rd enc W m 3 [c3] y3 := (congrArg (fun q => DataW.trod enc Tryz.prog W 0 (fun _ => true) true m 3 q) (show ([c0, c1, c2, c3].drop 3).take (Tryz.prog.cellsOf 3) = [c3] from by rw [show Tryz.prog.cellsOf 3 = 1 from by kernel_rfl]; rfl)).symm.trans g3
    obtain ⟨a3, e3, w3⟩ := open_int1 Tryz.underlying3 g3
    subst e0 e1 e2 e3
    exact ⟨a0, a1, a2, a3, rfl, w0, w1, w2, w3⟩

theorem open_command {n : Nat} {cs : List Value} {x : DataW H × List MemPlace} (h : Rd enc W n 38 cs x) (hs : Sm 38 x.1) :
    ∃ (a b c d e : Int) (f : Bool), cs = [.int .i64 a, .int .i64 b, .int .i64 c, .int .i64 d, .int .i64 e, .bool f] ∧ I64 a ∧ I64 b ∧ I64 c ∧ I64 d ∧ I64 e := by
  obtain ⟨m, hl, hf⟩ := open_fields Tryz.underlying38 h hs
  have hl : cs.length = 6 := hl
  match cs, hl with
  | [c0, c1, c2, c3, c4, c5], _ =>
    obtain ⟨y0, g0, s0⟩ := hf 0 _ rfl
    have g0 : Rd enc W m 3 [c0] y0 := (congrArg (fun q => DataW.trod enc Tryz.prog W 0 (fun _ => true) true m 3 q) (show ([c0, c1, c2, c3, c4, c5].drop 0).take (Tryz.prog.cellsOf 3) = [c0] from by rw [show Tryz.prog.cellsOf 3 = 1 from by kernel_rfl]; rfl)).symm.trans g0
    obtain ⟨a0, e0, w0⟩ := open_int1 Tryz.underlying3 g0
    obtain ⟨y1, g1, s1⟩ := hf 1 _ rfl
    have g1 : Rd enc W m 3 [c1] y1 := (congrArg (fun q => DataW.trod enc Tryz.prog W 0 (fun _ => true) true m 3 q) (show ([c0, c1, c2, c3, c4, c5].drop 1).take (Tryz.prog.cellsOf 3) = [c1] from by rw [show Tryz.prog.cellsOf 3 = 1 from by kernel_rfl]; rfl)).symm.trans g1
    obtain ⟨a1, e1, w1⟩ := open_int1 Tryz.underlying3 g1
    obtain ⟨y2, g2, s2⟩ := hf 2 _ rfl
    have g2 : Rd enc W m 3 [c2] y2 := (congrArg (fun q => DataW.trod enc Tryz.prog W 0 (fun _ => true) true m 3 q) (show ([c0, c1, c2, c3, c4, c5].drop 2).take (Tryz.prog.cellsOf 3) = [c2] from by rw [show Tryz.prog.cellsOf 3 = 1 from by kernel_rfl]; rfl)).symm.trans g2
    obtain ⟨a2, e2, w2⟩ := open_int1 Tryz.underlying3 g2
    obtain ⟨y3, g3, s3⟩ := hf 3 _ rfl
    have g3 : Rd enc W m 3 [c3] y3 := (congrArg (fun q => DataW.trod enc Tryz.prog W 0 (fun _ => true) true m 3 q) (show ([c0, c1, c2, c3, c4, c5].drop 3).take (Tryz.prog.cellsOf 3) = [c3] from by rw [show Tryz.prog.cellsOf 3 = 1 from by kernel_rfl]; rfl)).symm.trans g3
    obtain ⟨a3, e3, w3⟩ := open_int1 Tryz.underlying3 g3
    obtain ⟨y4, g4, s4⟩ := hf 4 _ rfl
    have g4 : Rd enc W m 3 [c4] y4 := (congrArg (fun q => DataW.trod enc Tryz.prog W 0 (fun _ => true) true m 3 q) (show ([c0, c1, c2, c3, c4, c5].drop 4).take (Tryz.prog.cellsOf 3) = [c4] from by rw [show Tryz.prog.cellsOf 3 = 1 from by kernel_rfl]; rfl)).symm.trans g4
    obtain ⟨a4, e4, w4⟩ := open_int1 Tryz.underlying3 g4
    obtain ⟨y5, g5, s5⟩ := hf 5 _ rfl
    have g5 : Rd enc W m 4 [c5] y5 := (congrArg (fun q => DataW.trod enc Tryz.prog W 0 (fun _ => true) true m 4 q) (show ([c0, c1, c2, c3, c4, c5].drop 5).take (Tryz.prog.cellsOf 4) = [c5] from by rw [show Tryz.prog.cellsOf 4 = 1 from by kernel_rfl]; rfl)).symm.trans g5
    obtain ⟨a5, e5⟩ := open_bool1 Tryz.underlying4 g5
    subst e0 e1 e2 e3 e4 e5
    exact ⟨a0, a1, a2, a3, a4, a5, rfl, w0, w1, w2, w3, w4⟩

theorem open_msg {n : Nat} {cs : List Value} {x : DataW H × List MemPlace} (h : Rd enc W n 42 cs x) (hs : Sm 42 x.1) :
    ∃ (m : MsgD) (s o i : Value), cs = m.cells s o i ∧ Lists (· < W.heap.size) W m s o i ∧ m.wf := by
  obtain ⟨m, hl, hf⟩ := open_fields Tryz.underlying42 h hs
  have hl : cs.length = 34 := hl
  rcases cs with _ | ⟨c0, cs⟩
  · simp at hl
  rcases cs with _ | ⟨c1, cs⟩
  · simp at hl
  rcases cs with _ | ⟨c2, cs⟩
  · simp at hl
  rcases cs with _ | ⟨c3, cs⟩
  · simp at hl
  rcases cs with _ | ⟨c4, cs⟩
  · simp at hl
  rcases cs with _ | ⟨c5, cs⟩
  · simp at hl
  rcases cs with _ | ⟨c6, cs⟩
  · simp at hl
  rcases cs with _ | ⟨c7, cs⟩
  · simp at hl
  rcases cs with _ | ⟨c8, cs⟩
  · simp at hl
  rcases cs with _ | ⟨c9, cs⟩
  · simp at hl
  rcases cs with _ | ⟨c10, cs⟩
  · simp at hl
  rcases cs with _ | ⟨c11, cs⟩
  · simp at hl
  rcases cs with _ | ⟨c12, cs⟩
  · simp at hl
  rcases cs with _ | ⟨c13, cs⟩
  · simp at hl
  rcases cs with _ | ⟨c14, cs⟩
  · simp at hl
  rcases cs with _ | ⟨c15, cs⟩
  · simp at hl
  rcases cs with _ | ⟨c16, cs⟩
  · simp at hl
  rcases cs with _ | ⟨c17, cs⟩
  · simp at hl
  rcases cs with _ | ⟨c18, cs⟩
  · simp at hl
  rcases cs with _ | ⟨c19, cs⟩
  · simp at hl
  rcases cs with _ | ⟨c20, cs⟩
  · simp at hl
  rcases cs with _ | ⟨c21, cs⟩
  · simp at hl
  rcases cs with _ | ⟨c22, cs⟩
  · simp at hl
  rcases cs with _ | ⟨c23, cs⟩
  · simp at hl
  rcases cs with _ | ⟨c24, cs⟩
  · simp at hl
  rcases cs with _ | ⟨c25, cs⟩
  · simp at hl
  rcases cs with _ | ⟨c26, cs⟩
  · simp at hl
  rcases cs with _ | ⟨c27, cs⟩
  · simp at hl
  rcases cs with _ | ⟨c28, cs⟩
  · simp at hl
  rcases cs with _ | ⟨c29, cs⟩
  · simp at hl
  rcases cs with _ | ⟨c30, cs⟩
  · simp at hl
  rcases cs with _ | ⟨c31, cs⟩
  · simp at hl
  rcases cs with _ | ⟨c32, cs⟩
  · simp at hl
  rcases cs with _ | ⟨c33, cs⟩
  · simp at hl
  obtain rfl : cs = [] := List.eq_nil_of_length_eq_zero (by simp only [List.length_cons] at hl; omega)
  · skip
    obtain ⟨y0, g0, s0⟩ := hf 0 _ rfl
    have g0 : Rd enc W m 3 [c0] y0 := (congrArg (fun q => DataW.trod enc Tryz.prog W 0 (fun _ => true) true m 3 q) (show ([c0, c1, c2, c3, c4, c5, c6, c7, c8, c9, c10, c11, c12, c13, c14, c15, c16, c17, c18, c19, c20, c21, c22, c23, c24, c25, c26, c27, c28, c29, c30, c31, c32, c33].drop 0).take (Tryz.prog.cellsOf 3) = [c0] from by rw [show Tryz.prog.cellsOf 3 = 1 from by kernel_rfl]; rfl)).symm.trans g0
    obtain ⟨a0, e0, w0⟩ := open_int1 Tryz.underlying3 g0
    obtain ⟨y1, g1, s1⟩ := hf 1 _ rfl
    have g1 : Rd enc W m 3 [c1] y1 := (congrArg (fun q => DataW.trod enc Tryz.prog W 0 (fun _ => true) true m 3 q) (show ([c0, c1, c2, c3, c4, c5, c6, c7, c8, c9, c10, c11, c12, c13, c14, c15, c16, c17, c18, c19, c20, c21, c22, c23, c24, c25, c26, c27, c28, c29, c30, c31, c32, c33].drop 1).take (Tryz.prog.cellsOf 3) = [c1] from by rw [show Tryz.prog.cellsOf 3 = 1 from by kernel_rfl]; rfl)).symm.trans g1
    obtain ⟨a1, e1, w1⟩ := open_int1 Tryz.underlying3 g1
    obtain ⟨y2, g2, s2⟩ := hf 2 _ rfl
    have g2 : Rd enc W m 3 [c2] y2 := (congrArg (fun q => DataW.trod enc Tryz.prog W 0 (fun _ => true) true m 3 q) (show ([c0, c1, c2, c3, c4, c5, c6, c7, c8, c9, c10, c11, c12, c13, c14, c15, c16, c17, c18, c19, c20, c21, c22, c23, c24, c25, c26, c27, c28, c29, c30, c31, c32, c33].drop 2).take (Tryz.prog.cellsOf 3) = [c2] from by rw [show Tryz.prog.cellsOf 3 = 1 from by kernel_rfl]; rfl)).symm.trans g2
    obtain ⟨a2, e2, w2⟩ := open_int1 Tryz.underlying3 g2
    obtain ⟨y3, g3, s3⟩ := hf 3 _ rfl
    have g3 : Rd enc W m 3 [c3] y3 := (congrArg (fun q => DataW.trod enc Tryz.prog W 0 (fun _ => true) true m 3 q) (show ([c0, c1, c2, c3, c4, c5, c6, c7, c8, c9, c10, c11, c12, c13, c14, c15, c16, c17, c18, c19, c20, c21, c22, c23, c24, c25, c26, c27, c28, c29, c30, c31, c32, c33].drop 3).take (Tryz.prog.cellsOf 3) = [c3] from by rw [show Tryz.prog.cellsOf 3 = 1 from by kernel_rfl]; rfl)).symm.trans g3
    obtain ⟨a3, e3, w3⟩ := open_int1 Tryz.underlying3 g3
    obtain ⟨y4, g4, s4⟩ := hf 4 _ rfl
    have g4 : Rd enc W m 3 [c4] y4 := (congrArg (fun q => DataW.trod enc Tryz.prog W 0 (fun _ => true) true m 3 q) (show ([c0, c1, c2, c3, c4, c5, c6, c7, c8, c9, c10, c11, c12, c13, c14, c15, c16, c17, c18, c19, c20, c21, c22, c23, c24, c25, c26, c27, c28, c29, c30, c31, c32, c33].drop 4).take (Tryz.prog.cellsOf 3) = [c4] from by rw [show Tryz.prog.cellsOf 3 = 1 from by kernel_rfl]; rfl)).symm.trans g4
    obtain ⟨a4, e4, w4⟩ := open_int1 Tryz.underlying3 g4
    obtain ⟨y5, g5, s5⟩ := hf 5 _ rfl
    have g5 : Rd enc W m 3 [c5] y5 := (congrArg (fun q => DataW.trod enc Tryz.prog W 0 (fun _ => true) true m 3 q) (show ([c0, c1, c2, c3, c4, c5, c6, c7, c8, c9, c10, c11, c12, c13, c14, c15, c16, c17, c18, c19, c20, c21, c22, c23, c24, c25, c26, c27, c28, c29, c30, c31, c32, c33].drop 5).take (Tryz.prog.cellsOf 3) = [c5] from by rw [show Tryz.prog.cellsOf 3 = 1 from by kernel_rfl]; rfl)).symm.trans g5
    obtain ⟨a5, e5, w5⟩ := open_int1 Tryz.underlying3 g5
    obtain ⟨y6, g6, s6⟩ := hf 6 _ rfl
    have g6 : Rd enc W m 3 [c6] y6 := (congrArg (fun q => DataW.trod enc Tryz.prog W 0 (fun _ => true) true m 3 q) (show ([c0, c1, c2, c3, c4, c5, c6, c7, c8, c9, c10, c11, c12, c13, c14, c15, c16, c17, c18, c19, c20, c21, c22, c23, c24, c25, c26, c27, c28, c29, c30, c31, c32, c33].drop 6).take (Tryz.prog.cellsOf 3) = [c6] from by rw [show Tryz.prog.cellsOf 3 = 1 from by kernel_rfl]; rfl)).symm.trans g6
    obtain ⟨a6, e6, w6⟩ := open_int1 Tryz.underlying3 g6
    obtain ⟨y7, g7, s7⟩ := hf 7 _ rfl
    have g7 : Rd enc W m 3 [c7] y7 := (congrArg (fun q => DataW.trod enc Tryz.prog W 0 (fun _ => true) true m 3 q) (show ([c0, c1, c2, c3, c4, c5, c6, c7, c8, c9, c10, c11, c12, c13, c14, c15, c16, c17, c18, c19, c20, c21, c22, c23, c24, c25, c26, c27, c28, c29, c30, c31, c32, c33].drop 7).take (Tryz.prog.cellsOf 3) = [c7] from by rw [show Tryz.prog.cellsOf 3 = 1 from by kernel_rfl]; rfl)).symm.trans g7
    obtain ⟨a7, e7, w7⟩ := open_int1 Tryz.underlying3 g7
    obtain ⟨y8, g8, s8⟩ := hf 8 _ rfl
    have g8 : Rd enc W m 3 [c8] y8 := (congrArg (fun q => DataW.trod enc Tryz.prog W 0 (fun _ => true) true m 3 q) (show ([c0, c1, c2, c3, c4, c5, c6, c7, c8, c9, c10, c11, c12, c13, c14, c15, c16, c17, c18, c19, c20, c21, c22, c23, c24, c25, c26, c27, c28, c29, c30, c31, c32, c33].drop 8).take (Tryz.prog.cellsOf 3) = [c8] from by rw [show Tryz.prog.cellsOf 3 = 1 from by kernel_rfl]; rfl)).symm.trans g8
    obtain ⟨a8, e8, w8⟩ := open_int1 Tryz.underlying3 g8
    obtain ⟨y9, g9, s9⟩ := hf 9 _ rfl
    have g9 : Rd enc W m 4 [c9] y9 := (congrArg (fun q => DataW.trod enc Tryz.prog W 0 (fun _ => true) true m 4 q) (show ([c0, c1, c2, c3, c4, c5, c6, c7, c8, c9, c10, c11, c12, c13, c14, c15, c16, c17, c18, c19, c20, c21, c22, c23, c24, c25, c26, c27, c28, c29, c30, c31, c32, c33].drop 9).take (Tryz.prog.cellsOf 4) = [c9] from by rw [show Tryz.prog.cellsOf 4 = 1 from by kernel_rfl]; rfl)).symm.trans g9
    obtain ⟨a9, e9⟩ := open_bool1 Tryz.underlying4 g9
    obtain ⟨y10, g10, s10⟩ := hf 10 _ rfl
    have g10 : Rd enc W m 4 [c10] y10 := (congrArg (fun q => DataW.trod enc Tryz.prog W 0 (fun _ => true) true m 4 q) (show ([c0, c1, c2, c3, c4, c5, c6, c7, c8, c9, c10, c11, c12, c13, c14, c15, c16, c17, c18, c19, c20, c21, c22, c23, c24, c25, c26, c27, c28, c29, c30, c31, c32, c33].drop 10).take (Tryz.prog.cellsOf 4) = [c10] from by rw [show Tryz.prog.cellsOf 4 = 1 from by kernel_rfl]; rfl)).symm.trans g10
    obtain ⟨a10, e10⟩ := open_bool1 Tryz.underlying4 g10
    obtain ⟨y11, g11, s11⟩ := hf 11 _ rfl
    have g11 : Rd enc W m 4 [c11] y11 := (congrArg (fun q => DataW.trod enc Tryz.prog W 0 (fun _ => true) true m 4 q) (show ([c0, c1, c2, c3, c4, c5, c6, c7, c8, c9, c10, c11, c12, c13, c14, c15, c16, c17, c18, c19, c20, c21, c22, c23, c24, c25, c26, c27, c28, c29, c30, c31, c32, c33].drop 11).take (Tryz.prog.cellsOf 4) = [c11] from by rw [show Tryz.prog.cellsOf 4 = 1 from by kernel_rfl]; rfl)).symm.trans g11
    obtain ⟨a11, e11⟩ := open_bool1 Tryz.underlying4 g11
    obtain ⟨y12, g12, s12⟩ := hf 12 _ rfl
    have g12 : Rd enc W m 33 [c12, c13, c14, c15, c16, c17, c18, c19, c20, c21] y12 := (congrArg (fun q => DataW.trod enc Tryz.prog W 0 (fun _ => true) true m 33 q) (show ([c0, c1, c2, c3, c4, c5, c6, c7, c8, c9, c10, c11, c12, c13, c14, c15, c16, c17, c18, c19, c20, c21, c22, c23, c24, c25, c26, c27, c28, c29, c30, c31, c32, c33].drop 12).take (Tryz.prog.cellsOf 33) = [c12, c13, c14, c15, c16, c17, c18, c19, c20, c21] from by rw [show Tryz.prog.cellsOf 33 = 10 from by kernel_rfl]; rfl)).symm.trans g12
    obtain ⟨⟨op, s⟩, f12, st, wop⟩ := open_op g12 s12
    obtain ⟨y13, g13, s13⟩ := hf 13 _ rfl
    have g13 : Rd enc W m 36 [c22, c23, c24, c25] y13 := (congrArg (fun q => DataW.trod enc Tryz.prog W 0 (fun _ => true) true m 36 q) (show ([c0, c1, c2, c3, c4, c5, c6, c7, c8, c9, c10, c11, c12, c13, c14, c15, c16, c17, c18, c19, c20, c21, c22, c23, c24, c25, c26, c27, c28, c29, c30, c31, c32, c33].drop 22).take (Tryz.prog.cellsOf 36) = [c22, c23, c24, c25] from by rw [show Tryz.prog.cellsOf 36 = 4 from by kernel_rfl]; rfl)).symm.trans g13
    obtain ⟨r0, r1, r2, r3, f13, v0, v1, v2, v3⟩ := open_reply g13 s13
    obtain ⟨y14, g14, s14⟩ := hf 14 _ rfl
    have g14 : Rd enc W m 38 [c26, c27, c28, c29, c30, c31] y14 := (congrArg (fun q => DataW.trod enc Tryz.prog W 0 (fun _ => true) true m 38 q) (show ([c0, c1, c2, c3, c4, c5, c6, c7, c8, c9, c10, c11, c12, c13, c14, c15, c16, c17, c18, c19, c20, c21, c22, c23, c24, c25, c26, c27, c28, c29, c30, c31, c32, c33].drop 26).take (Tryz.prog.cellsOf 38) = [c26, c27, c28, c29, c30, c31] from by rw [show Tryz.prog.cellsOf 38 = 6 from by kernel_rfl]; rfl)).symm.trans g14
    obtain ⟨k0, k1, k2, k3, k4, k5, f14, u0, u1, u2, u3, u4⟩ := open_command g14 s14
    obtain ⟨y15, g15, s15⟩ := hf 15 _ rfl
    have g15 : Rd enc W m 39 [c32] y15 := (congrArg (fun q => DataW.trod enc Tryz.prog W 0 (fun _ => true) true m 39 q) (show ([c0, c1, c2, c3, c4, c5, c6, c7, c8, c9, c10, c11, c12, c13, c14, c15, c16, c17, c18, c19, c20, c21, c22, c23, c24, c25, c26, c27, c28, c29, c30, c31, c32, c33].drop 32).take (Tryz.prog.cellsOf 39) = [c32] from by rw [show Tryz.prog.cellsOf 39 = 1 from by kernel_rfl]; rfl)).symm.trans g15
    obtain ⟨ops, hops, wops⟩ := open_ops g15 s15
    obtain ⟨y16, g16, s16⟩ := hf 16 _ rfl
    have g16 : Rd enc W m 40 [c33] y16 := (congrArg (fun q => DataW.trod enc Tryz.prog W 0 (fun _ => true) true m 40 q) (show ([c0, c1, c2, c3, c4, c5, c6, c7, c8, c9, c10, c11, c12, c13, c14, c15, c16, c17, c18, c19, c20, c21, c22, c23, c24, c25, c26, c27, c28, c29, c30, c31, c32, c33].drop 33).take (Tryz.prog.cellsOf 40) = [c33] from by rw [show Tryz.prog.cellsOf 40 = 1 from by kernel_rfl]; rfl)).symm.trans g16
    obtain ⟨incs, hincs, wincs⟩ := open_incs g16 s16
    subst e0 e1 e2 e3 e4 e5 e6 e7 e8 e9 e10 e11
    unfold OpD.cells at f12
    simp only [List.cons.injEq, and_true] at f12 f13 f14
    obtain ⟨rfl, rfl, rfl, rfl, rfl, rfl, rfl, rfl, rfl, rfl⟩ := f12
    obtain ⟨rfl, rfl, rfl, rfl⟩ := f13
    obtain ⟨rfl, rfl, rfl, rfl, rfl, rfl⟩ := f14
    exact ⟨⟨a0, a1, a2, a3, a4, a5, a6, a7, a8, a9, a10, a11, op, r0, r1, r2, r3, k0, k1, k2, k3, k4, k5, ops, incs⟩, _, c32, c33, rfl, ⟨st, hops, hincs⟩, w0, w1, w2, w3, w4, w5, w6, w7, w8, wop, v0, v1, v2, v3, u0, u1, u2, u3, u4, wops, wincs⟩

end
end Go.Proofs.YtaiegmhlgjogmaaGreat
/- From what a row says of lists of messages that came in to what the walks are told of them. -/
namespace Go.Proofs.YtaiegmhlgjogmaaGreat
open Go.RowKit

/-- A message, and its lists. -/
structure MsgV where
  m : MsgD
  s : Value
  o : Value
  i : Value
def MsgV.cells (p : MsgV) : List Value := p.m.cells p.s p.o p.i
theorem MsgV.len (p : MsgV) : p.cells.length = 34 := rfl
instance : Inhabited MsgV := ⟨⟨.zero, .slice none 0 0, .slice none 0 0, .slice none 0 0⟩⟩
/-- The slice v holds these messages. -/
def MsgsIn (F : Nat → Prop) (w : World) (v : Value) (ps : List MsgV) : Prop := FlatAt F w 34 v ps.length (ps.flatMap MsgV.cells) ∧ ∀ p ∈ ps, Lists F w p.m p.s p.o p.i
theorem MsgsIn.kept {F : Nat → Prop} {w w' : World} {v : Value} {ps : List MsgV} (h : MsgsIn F w v ps) (hk : Kept F w w') : MsgsIn F w' v ps := ⟨h.1.kept hk, fun p hp => (h.2 p hp).kept hk⟩
section
variable {H : Type} {enc : TypeId × Value → H} {W : World}
theorem msg_one (p : MsgV) (h1 : p.s.oneCell' = true) (h2 : p.o.oneCell' = true) (h3 : p.i.oneCell' = true) : ∀ u ∈ p.cells, u.oneCell' = true := p.m.one h1 h2 h3
theorem open_msgs {n : Nat} {v : Value} {x : DataW H × List MemPlace} (h : Rd enc W n 57 [v] x) (hs : Sm 57 x.1) : ∃ ps : List MsgV, MsgsIn (· < W.heap.size) W v ps ∧ ∀ p ∈ ps, p.m.wf := by
  obtain ⟨ys, h1, h2⟩ := open_elems MsgV.cells (fun p => Lists (· < W.heap.size) W p.m p.s p.o p.i ∧ p.m.wf) 34 (by decide) MsgV.len Tryz.underlying57 (by kernel_rfl) (fun n cs x h hs => by
    obtain ⟨m, s, o, i, e, hl, wf⟩ := open_msg h hs
    exact ⟨⟨m, s, o, i⟩, e, hl, wf⟩) (fun y hy => msg_one y hy.1.cell.1 hy.1.cell.2.1 hy.1.cell.2.2) h hs
  exact ⟨ys, ⟨h1, fun p hp => (h2 p hp).1⟩, fun p hp => (h2 p hp).2⟩

/-- Arguments: a struct by value, a slice. -/
theorem sm_of {ts : List TypeId} {ds : List (DataW H)} (hsz : (DataW.weightsEach Tryz.prog ts ds).all (· ≤ reachBytes) = true) {j : Nat} {t : TypeId} {d : DataW H} (ht : ts[j]? = some t) (hd : ds[j]? = some d) : Sm t d := fun n hn => by
  have := List.all_eq_true.1 hsz n (DataW.weights_mem_each ht hd n hn)
  simpa using this
theorem arg_msg {cs : Array Value} {d : DataW H} {p : List MemPlace} (h : DataW.Trod enc Tryz.prog W 0 (fun _ => true) true 42 (.agg cs) d p) (hs : Sm 42 d) : ∃ (m : MsgD) (s o i : Value), cs = (m.cells s o i).toArray ∧ Lists (· < W.heap.size) W m s o i ∧ m.wf := by
  obtain ⟨fuel, hf⟩ := h
  obtain ⟨m, s, o, i, e, hl, wf⟩ := open_msg (n := fuel) (x := (d, p)) hf hs
  refine ⟨m, s, o, i, ?_, hl, wf⟩
  have e2 : cs.toList = m.cells s o i := e
  rw [← e2]
theorem arg_msgs {A : Option Addr} {len cap : Nat} {d : DataW H} {p : List MemPlace} (h : DataW.Trod enc Tryz.prog W 0 (fun _ => true) true 57 (.slice A len cap) d p) (hs : Sm 57 d) : ∃ ps : List MsgV, MsgsIn (· < W.heap.size) W (.slice A len cap) ps ∧ ∀ p ∈ ps, p.m.wf := by
  obtain ⟨fuel, hf⟩ := h
  exact open_msgs (n := fuel) (x := (d, p)) hf hs
end
theorem MsgsIn.at_ {F : Nat → Prop} {w : World} {v : Value} {ps : List MsgV} (h : MsgsIn F w v ps) {k : Nat} (hk : k < ps.length) : ∃ p b off c, ps[k]? = some p ∧ v = .slice (some ⟨b, off, none⟩) ps.length c ∧ ps.length ≤ c ∧ F b ∧ b < w.heap.size ∧ w.rangeAt b (off + k * 34) p.cells ∧ Lists F w p.m p.s p.o p.i := by
  obtain ⟨b, off, c, hv, hc, hf, hb, hr⟩ := FlatAt.elem h.1 hk
  have hs : ps[k]? = some ps[k] := List.getElem?_eq_getElem hk
  refine ⟨ps[k], b, off, c, hs, hv, hc, hf, hb, ?_, h.2 _ (List.getElem_mem hk)⟩
  rwa [flat_get MsgV.cells 34 ps k _ (fun y _ => y.len) hs] at hr

def zcells : Array Value := (MsgD.zero.cells (.slice none 0 0) (.slice none 0 0) (.slice none 0 0)).toArray
theorem put_zmsg (m : MsgD) (s o i : Value) : putAt zcells 0 (m.cells s o i) = (m.cells s o i).toArray := by simp [zcells, putAt, MsgD.cells]
/-- What Choose looks at: the kind, the last number, how many operations. -/
theorem MsgsIn.look {F : Nat → Prop} {w : World} {A : Option Addr} {len cap : Nat} {ps : List MsgV} (h : MsgsIn F w (.slice A len cap) ps) {k : Nat} (hk : k < ps.length) :
    ∃ p b off o2 c2, ps[k]? = some p ∧ A = some ⟨b, off, none⟩ ∧ len = ps.length ∧ F b ∧ b < w.heap.size ∧ w.cell? ⟨b, off + k * 34, none⟩ = some (.int .i64 p.m.kind) ∧ w.cell? ⟨b, off + k * 34 + 4, none⟩ = some (.int .i64 p.m.last) ∧
      w.cell? ⟨b, off + k * 34 + 32, none⟩ = some (.slice o2 p.m.ops.length c2) ∧ p.m.ops.length ≤ maxLen := by
  obtain ⟨p, b, off, c, hx, hv, _, hf, hb, hr, hl⟩ := h.at_ hk
  obtain ⟨rfl, rfl⟩ : A = some ⟨b, off, none⟩ ∧ len = ps.length := by injection hv with e1 e2 _; exact ⟨e1, e2⟩
  obtain ⟨qs, hq, ho⟩ := hl.2.1
  obtain ⟨o2, c2, he, h1, h2, _⟩ := FlatAt.shape ho.1
  have hlen : qs.length = p.m.ops.length := by rw [← hq, List.length_map]
  rw [hlen] at he h1
  have r0 := hr 0 (.int .i64 p.m.kind) (by rfl)
  have r4 := hr 4 (.int .i64 p.m.last) (by rfl)
  have r32 := hr 32 p.o (by rfl)
  rw [Nat.add_zero] at r0
  rw [he] at r32
  exact ⟨p, b, off, o2, c2, hx, rfl, rfl, hf, hb, r0, r4, r32, by omega⟩
end Go.Proofs.YtaiegmhlgjogmaaGreat
/- A node of the log in memory: its numbers, its log, its timers, what it keeps of others; each in blocks of a colour of its own. -/
namespace Go.Proofs.YtaiegmhlgjogmaaGreat
open Go.RowKit Go.Maps

/-- What is kept of a node. -/
structure HeardD where
  ack : Int
  start : Bool
  p : MsgV
def HeardD.cells (h : HeardD) : List Value := .int .i64 h.ack :: .bool h.start :: h.p.cells
def HeardD.val (h : HeardD) : Value := .agg h.cells.toArray
def HeardD.nil : HeardD := ⟨0, false, default⟩
def hpair (q : Int × HeardD) : Int × Value := (q.1, q.2.val)

/-- A node: what its cells say, its log, its timers, what is kept. -/
structure RepD where
  id : Int
  n : Int
  phase : Int
  view : Int
  last : Int
  nonce : Int
  iv : Value
  incs : List Int
  log : List OpD
  com : Nat
  taken : Nat
  now : Int
  T : List (Int × Int)
  kept : List (Int × HeardD)
  told : Bool
/-- Where its parts lie: its state, its log, its clock, its map. -/
structure RepP where
  s : Nat
  l : Nat
  c : Nat
  b : Nat
def RepD.cells (x : RepD) (p : RepP) : List Value :=
  [.int .i64 x.id, .int .i64 x.n, .int .i64 x.phase, .int .i64 x.view, .int .i64 x.last, .int .i64 x.nonce, x.iv, .pointer (some ⟨p.l, 0, none⟩), .int .i64 (x.taken : Int), .pointer (some ⟨p.c, 0, none⟩), .map (some p.b), .bool x.told]
/-- Its status, as a value. -/
def RepD.at_ (x : RepD) : Value := .agg #[.int .i64 x.id, .int .i64 x.n, .int .i64 x.phase, .int .i64 x.view, .int .i64 x.last]

/-- What holds of a node's numbers, after g steps. -/
structure RepD.OK (x : RepD) (g : Nat) : Prop where
  id : 1 ≤ x.id ∧ x.id ≤ x.n
  n : 2 ≤ x.n ∧ x.n ≤ 5
  view : 0 ≤ x.view ∧ x.view ≤ 1099511627776 + g
  last : 0 ≤ x.last ∧ x.last ≤ 1099511627776 + g
  nonce : I64 x.nonce
  incs : (x.incs.length : Int) = x.n
  taken : x.taken ≤ x.com
  now : x.now ≤ g
  names : ∀ p ∈ x.T, 1 ≤ p.2 ∧ p.2 ≤ 4
  later : ∀ p ∈ x.T, x.now < p.1
  keys : ∀ y ∈ x.kept, 1 ≤ y.1 ∧ y.1 ≤ x.n
  rise : x.kept.Pairwise (fun a b => a.1 < b.1)
  acks : ∀ y ∈ x.kept, 0 ≤ y.2.ack ∧ y.2.ack ≤ 2000
/-- Colour k of the node q, in w. -/
def hue (col : Nat → Nat) (k : Nat) (i : Nat) : Prop := col i = k
/-- The colours of the node q. -/
def hues (col : Nat → Nat) (q : Nat) (i : Nat) : Prop := q < col i ∧ col i ≤ q + 5
/-- The block r holds a node; all of it that may be written has colours q + 1 to q + 5. -/
structure RepAt (col : Nat → Nat) (q B : Nat) (w : World) (r : Nat) (p : RepP) (x : RepD) (g : Nat) : Prop where
  rcell : w.heap[r]? = some (.cells #[.pointer (some ⟨p.s, 0, none⟩)] 70 (0, 0))
  scell : w.heap[p.s]? = some (.cells (x.cells p).toArray 106 (0, 0))
  log : Ol.Lg B (hue col (q + 1)) w p.l x.log x.com
  clk : Ck.Clk B (hue col (q + 2)) w p.c x.now x.T g
  map : w.ownsMap Tryz.prog 3 heldR p.b g (mapD (x.kept.map hpair))
  cols : col r = q + 3 ∧ col p.s = q + 4 ∧ col p.b = q + 5
  base : B ≤ r ∧ B ≤ p.s ∧ B ≤ p.b
  incs : SlI (fun i => col i = 0) w x.iv x.incs
  msgs : ∀ y ∈ x.kept, Lists (fun i => col i = 0) w y.2.p.m y.2.p.s y.2.p.o y.2.p.i
  fresh : ∀ i, w.heap.size ≤ i → col i = 0
  ok : x.OK g

/-- From col to col' nothing that was there in w has turned, and what is new is the node q's. -/
structure Ext (q : Nat) (w : World) (col col' : Nat → Nat) : Prop where
  old : ∀ i, i < w.heap.size → col' i = col i
  new : ∀ i, w.heap.size ≤ i → col' i = 0 ∨ hues col' q i
theorem Ext.refl (q : Nat) {w : World} {col : Nat → Nat} (h : ∀ i, w.heap.size ≤ i → col i = 0) : Ext q w col col := ⟨fun _ _ => rfl, fun i hi => .inl (h i hi)⟩
theorem Ext.trans {q : Nat} {w w' : World} {a b c : Nat → Nat} (h : Ext q w a b) (k : Ext q w' b c) (hs : w.heap.size ≤ w'.heap.size) : Ext q w a c := by
  refine ⟨fun i hi => (k.old i (by omega)).trans (h.old i hi), fun i hi => ?_⟩
  by_cases hl : i < w'.heap.size
  · have := h.new i hi
    unfold hues at this ⊢
    rw [k.old i hl]
    exact this
  · exact k.new i (by omega)
section
variable {col col' : Nat → Nat} {q B r g : Nat} {w w' : World} {p : RepP} {x : RepD}
theorem RepAt.lt (h : RepAt col q B w r p x g) : r < w.heap.size ∧ p.s < w.heap.size ∧ p.b < w.heap.size := ⟨lt_of_block h.rcell, lt_of_block h.scell, h.map.lt⟩
/-- Another world, in which all of its blocks are as they were; and a colouring that says the same of them. -/
theorem RepAt.kept (h : RepAt col q B w r p x g) (hk : Kept (fun i => col i = 0 ∨ hues col q i) w w') (he : ∀ i, i < w.heap.size → col' i = col i) (hn : ∀ i, w.heap.size ≤ i → ¬ hues col' q i)
    (hf : ∀ i, w'.heap.size ≤ i → col' i = 0) : RepAt col' q B w' r p x g := by
  obtain ⟨l1, l2, l3⟩ := h.lt
  have hb : ∀ k, 1 ≤ k → k ≤ 5 → ∀ i, hue col' (q + k) i → i < w.heap.size := by
    intro k k1 k2 i e
    by_cases hi : i < w.heap.size
    · exact hi
    · exact absurd (by unfold hue at e; unfold hues; omega) (hn i (by omega))
  have hh : ∀ k, 1 ≤ k → k ≤ 5 → ∀ i, hue col' (q + k) i → hue col (q + k) i := by
    intro k k1 k2 i e
    have := he i (hb k k1 k2 i e)
    unfold hue at e ⊢
    omega
  have hg : ∀ k, ∀ i, i < w.heap.size → hue col (q + k) i → hue col' (q + k) i := by
    intro k i hi e
    have := he i hi
    unfold hue at e ⊢
    omega
  have K : ∀ k, 1 ≤ k → k ≤ 5 → Kept (hue col (q + k)) w w' := fun k k1 k2 => hk.mono fun i _ e => .inr (by unfold hue at e; unfold hues; omega)
  have Z : Kept (fun i => col' i = 0) w w' := ⟨hk.1, fun i hi e => hk.2 i hi (.inl (by rw [← he i hi]; exact e))⟩
  have c1 := hk.2 r l1 (.inr (by have := h.cols.1; unfold hues; omega))
  have c2 := hk.2 p.s l2 (.inr (by have := h.cols.2.1; unfold hues; omega))
  have c3 := hk.2 p.b l3 (.inr (by have := h.cols.2.2; unfold hues; omega))
  refine ⟨c1.trans h.rcell, c2.trans h.scell, ?_, ?_, ?_, ?_, h.base, ?_, fun y hy => ?_, hf, h.ok⟩
  · obtain ⟨a, k, base, v, ps, e, h2⟩ := h.log
    have hs := hg 1
    refine ⟨fun i hi => ?_, k, base, v, ps, e, (Ol.LogAt.keep h2 (K 1 (by omega) (by omega))).mono fun i hi => ?_⟩
    · have := a i (hh 1 (by omega) (by omega) i hi)
      exact ⟨this.1, Nat.lt_of_lt_of_le this.2 hk.1⟩
    · exact hs i (a i hi).2 hi
  · obtain ⟨a, k, b, base, cnt, hc, h2⟩ := h.clk
    have hs := hg 2
    refine ⟨fun i hi => ?_, k, b, base, cnt, hc, (Ck.ClockAt.kept h2 (K 2 (by omega) (by omega))).mono fun i hi => ?_⟩
    · have := a i (hh 2 (by omega) (by omega) i hi)
      exact ⟨this.1, Nat.lt_of_lt_of_le this.2 hk.1⟩
    · exact hs i (a i hi).2 hi
  · obtain ⟨es, clock, hb2, rest⟩ := h.map
    exact ⟨es, clock, c3.trans hb2, rest⟩
  · rw [he _ l1, he _ l2, he _ l3]
    exact h.cols
  · exact (h.incs.mono fun i hi e => by rw [he i hi]; exact e).kept Z
  · exact ((h.msgs y hy).mono fun i hi e => by rw [he i hi]; exact e).kept Z
theorem RepAt.later (h : RepAt col q B w r p x g) (hl : Below w.heap.size w w') : RepAt col q B w' r p x g :=
  h.kept (Kept.of_below hl _) (fun _ _ => rfl) (fun i hi e => by have := h.fresh i hi; unfold hues at e; omega) (fun i hi => h.fresh i (by have := Below.size hl; omega))
theorem RepAt.more (h : RepAt col q B w r p x g) {g' : Nat} (hg : g ≤ g') : RepAt col q B w r p x g' :=
  ⟨h.rcell, h.scell, h.log, h.clk.more hg, h.map.mono hg, h.cols, h.base, h.incs, h.msgs, h.fresh, ⟨h.ok.id, h.ok.n, ⟨h.ok.view.1, by have := h.ok.view.2; omega⟩, ⟨h.ok.last.1, by have := h.ok.last.2; omega⟩, h.ok.nonce, h.ok.incs, h.ok.taken, by have := h.ok.now; omega, h.ok.names, h.ok.later, h.ok.keys, h.ok.rise, h.ok.acks⟩⟩

/-- The colouring in which the blocks of S, new in w', have the colour k; all other new ones have none. -/
def painted (w : World) (col : Nat → Nat) (S : Nat → Prop) [DecidablePred S] (k : Nat) (i : Nat) : Nat := if i < w.heap.size then col i else if S i then k else 0
open Classical in
theorem painted_old {S : Nat → Prop} {k i : Nat} (h : i < w.heap.size) : painted w col S k i = col i := by rw [painted, if_pos h]
open Classical in
theorem painted_new {S : Nat → Prop} {k i : Nat} (h : w.heap.size ≤ i) : painted w col S k i = if S i then k else 0 := by rw [painted, if_neg (by omega)]

/-- What a call leaves that turns the node: since w0, coloured c0. -/
structure Since (q B : Nat) (w0 : World) (c0 : Nat → Nat) (col : Nat → Nat) (w : World) (r : Nat) (p : RepP) (x : RepD) (g : Nat) : Prop where
  rep : RepAt col q B w r p x g
  ext : Ext q w0 c0 col
  turned : Turned (hues c0 q) w0 w
variable {c0 : Nat → Nat} {w0 : World}
theorem Since.refl (h : RepAt col q B w r p x g) : Since q B w col col w r p x g := ⟨h, Ext.refl q h.fresh, Turned.refl _ _⟩
theorem Since.later (h : Since q B w0 c0 col w r p x g) (hl : Below w.heap.size w w') : Since q B w0 c0 col w' r p x g := ⟨h.rep.later hl, h.ext, h.turned.trans (Turned.of_below hl _)⟩
theorem Since.more (h : Since q B w0 c0 col w r p x g) {g' : Nat} (hg : g ≤ g') : Since q B w0 c0 col w r p x g' := ⟨h.rep.more hg, h.ext, h.turned⟩
/-- Behind one more call. -/
theorem Since.next {x' : RepD} {g' : Nat} (h : Since q B w0 c0 col w r p x g) (k : Since q B w col col' w' r p x' g') : Since q B w0 c0 col' w' r p x' g' :=
  ⟨k.rep, h.ext.trans k.ext h.turned.size, h.turned.onto k.turned fun i hi => by
    by_cases hl : i < w0.heap.size
    · left; have := h.ext.old i hl; unfold hues at hi ⊢; omega
    · right; omega⟩

/-- Its clock has turned. -/
theorem RepAt.clock {S' : Nat → Prop} {now' : Int} {T' : List (Int × Int)} {g' : Nat} (h : RepAt col q B w r p x g) (hc : Ck.Clk B S' w' p.c now' T' g') (ht : Turned (hue col (q + 2)) w w') (hS : ∀ i, S' i → hue col (q + 2) i ∨ w.heap.size ≤ i) (hg : g ≤ g')
    (ok : ({ x with now := now', T := T' } : RepD).OK g') : ∃ col', Since q B w col col' w' r p { x with now := now', T := T' } g' := by
  classical
  obtain ⟨l1, l2, l3⟩ := h.lt
  have hp : ∀ k, k ≠ q + 2 → 0 < k → ∀ i, hue (painted w col S' (q + 2)) k i → hue col k i ∧ i < w.heap.size := by
    intro k hk h0 i e
    unfold hue at e ⊢
    by_cases hi : i < w.heap.size
    · rw [painted_old hi] at e; exact ⟨e, hi⟩
    · rw [painted_new (by omega)] at e
      split at e <;> omega
  have hq : ∀ k i, i < w.heap.size → hue col k i → hue (painted w col S' (q + 2)) k i := by
    intro k i hi e
    unfold hue at e ⊢
    rw [painted_old hi]; exact e
  have nb : ∀ i, col i ≠ q + 2 → ¬ hue col (q + 2) i := fun i hi e => hi e
  have c1 := ht.block r l1 (nb r (by have := h.cols.1; omega))
  have c2 := ht.block p.s l2 (nb p.s (by have := h.cols.2.1; omega))
  have c3 := ht.block p.b l3 (nb p.b (by have := h.cols.2.2; omega))
  have K1 : Kept (hue col (q + 1)) w w' := ht.kept fun i e e2 => by unfold hue at e e2; omega
  have Z : Kept (fun i => painted w col S' (q + 2) i = 0) w w' := ⟨ht.size, fun i hi e => ht.block i hi (by have e : painted w col S' (q + 2) i = 0 := e; rw [painted_old hi] at e; unfold hue; omega)⟩
  refine ⟨painted w col S' (q + 2), ⟨c1.trans h.rcell, c2.trans h.scell, ?_, ?_, ?_, ?_, h.base, ?_, fun y hy => ?_, fun i hi => ?_, ok⟩, ⟨fun i hi => painted_old hi, fun i hi => ?_⟩, ht.mono fun i e => by unfold hue at e; unfold hues; omega⟩
  · obtain ⟨a, k, base, v, ps, e, h2⟩ := h.log
    refine ⟨fun i hi => ?_, k, base, v, ps, e, (Ol.LogAt.keep h2 K1).mono fun i hi => hq _ i (a i hi).2 hi⟩
    have := hp _ (by omega) (by omega) i hi
    exact ⟨(a i this.1).1, Nat.lt_of_lt_of_le this.2 ht.size⟩
  · obtain ⟨a, k, b, base, cnt, hc2, h2⟩ := hc
    refine ⟨fun i hi => ?_, k, b, base, cnt, hc2, h2.mono fun i hi => ?_⟩
    · unfold hue at hi
      by_cases hl : i < w.heap.size
      · rw [painted_old hl] at hi
        exact ⟨(h.clk.1 i hi).1, Nat.lt_of_lt_of_le hl ht.size⟩
      · rw [painted_new (by omega)] at hi
        split at hi
        · rename_i hs; exact a i hs
        · omega
    · unfold hue
      by_cases hl : i < w.heap.size
      · rw [painted_old hl]
        exact (hS i hi).elim id fun e => by omega
      · rw [painted_new (by omega), if_pos hi]
  · obtain ⟨es, clock, hb2, hsz, hle, rest⟩ := h.map
    exact ⟨es, clock, c3.trans hb2, hsz, Nat.le_trans hle hg, rest⟩
  · rw [painted_old l1, painted_old l2, painted_old l3]
    exact h.cols
  · exact (h.incs.mono fun i hi e => by rw [painted_old hi]; exact e).kept Z
  · exact ((h.msgs y hy).mono fun i hi e => by rw [painted_old hi]; exact e).kept Z
  · have := ht.size
    rw [painted_new (by omega), if_neg]
    intro e
    have := (hc.1 i e).2
    omega
  · rw [painted_new hi]
    unfold hues
    rw [painted_new hi]
    split
    · right; omega
    · left; rfl
/-- Its log has turned. -/
theorem RepAt.logs {S' : Nat → Prop} {L' : List OpD} {c' : Nat} (h : RepAt col q B w r p x g) (hc : Ol.Lg B S' w' p.l L' c') (ht : Turned (hue col (q + 1)) w w') (hS : ∀ i, S' i → hue col (q + 1) i ∨ w.heap.size ≤ i)
    (ok : ({ x with log := L', com := c' } : RepD).OK g) : ∃ col', Since q B w col col' w' r p { x with log := L', com := c' } g := by
  classical
  obtain ⟨l1, l2, l3⟩ := h.lt
  have hp : ∀ k, k ≠ q + 1 → 0 < k → ∀ i, hue (painted w col S' (q + 1)) k i → hue col k i ∧ i < w.heap.size := by
    intro k hk h0 i e
    unfold hue at e ⊢
    by_cases hi : i < w.heap.size
    · rw [painted_old hi] at e; exact ⟨e, hi⟩
    · rw [painted_new (by omega)] at e
      split at e <;> omega
  have hq : ∀ k i, i < w.heap.size → hue col k i → hue (painted w col S' (q + 1)) k i := by
    intro k i hi e
    unfold hue at e ⊢
    rw [painted_old hi]; exact e
  have nb : ∀ i, col i ≠ q + 1 → ¬ hue col (q + 1) i := fun i hi e => hi e
  have c1 := ht.block r l1 (nb r (by have := h.cols.1; omega))
  have c2 := ht.block p.s l2 (nb p.s (by have := h.cols.2.1; omega))
  have c3 := ht.block p.b l3 (nb p.b (by have := h.cols.2.2; omega))
  have K1 : Kept (hue col (q + 2)) w w' := ht.kept fun i e e2 => by unfold hue at e e2; omega
  have Z : Kept (fun i => painted w col S' (q + 1) i = 0) w w' := ⟨ht.size, fun i hi e => ht.block i hi (by have e : painted w col S' (q + 1) i = 0 := e; rw [painted_old hi] at e; unfold hue; omega)⟩
  refine ⟨painted w col S' (q + 1), ⟨c1.trans h.rcell, c2.trans h.scell, ?_, ?_, ?_, ?_, h.base, ?_, fun y hy => ?_, fun i hi => ?_, ok⟩, ⟨fun i hi => painted_old hi, fun i hi => ?_⟩, ht.mono fun i e => by unfold hue at e; unfold hues; omega⟩
  · obtain ⟨a, k, base, v, ps, e, h2⟩ := hc
    refine ⟨fun i hi => ?_, k, base, v, ps, e, h2.mono fun i hi => ?_⟩
    · unfold hue at hi
      by_cases hl : i < w.heap.size
      · rw [painted_old hl] at hi
        exact ⟨(h.log.1 i hi).1, Nat.lt_of_lt_of_le hl ht.size⟩
      · rw [painted_new (by omega)] at hi
        split at hi
        · rename_i hs; exact a i hs
        · omega
    · unfold hue
      by_cases hl : i < w.heap.size
      · rw [painted_old hl]
        exact (hS i hi).elim id fun e => by omega
      · rw [painted_new (by omega), if_pos hi]
  · obtain ⟨a, k, b, base, cnt, hc2, h2⟩ := h.clk
    refine ⟨fun i hi => ?_, k, b, base, cnt, hc2, (Ck.ClockAt.kept h2 K1).mono fun i hi => hq _ i (a i hi).2 hi⟩
    have := hp _ (by omega) (by omega) i hi
    exact ⟨(a i this.1).1, Nat.lt_of_lt_of_le this.2 ht.size⟩
  · obtain ⟨es, clock, hb2, rest⟩ := h.map
    exact ⟨es, clock, c3.trans hb2, rest⟩
  · rw [painted_old l1, painted_old l2, painted_old l3]
    exact h.cols
  · exact (h.incs.mono fun i hi e => by rw [painted_old hi]; exact e).kept Z
  · exact ((h.msgs y hy).mono fun i hi e => by rw [painted_old hi]; exact e).kept Z
  · have := ht.size
    rw [painted_new (by omega), if_neg]
    intro e
    have := (hc.1 i e).2
    omega
  · rw [painted_new hi]
    unfold hues
    rw [painted_new hi]
    split
    · right; omega
    · left; rfl
/-- Its state has turned. -/
theorem RepAt.state {x' : RepD} (h : RepAt col q B w r p x g) (hg : w.grownBy w' (some p.s)) (hc : w'.heap[p.s]? = some (.cells (x'.cells p).toArray 106 (0, 0)))
    (hx : x'.log = x.log ∧ x'.com = x.com ∧ x'.now = x.now ∧ x'.T = x.T ∧ x'.kept = x.kept) (hi : SlI (fun i => col i = 0) w x'.iv x'.incs) (ok : x'.OK g) : Since q B w col col w' r p x' g := by
  obtain ⟨l1, l2, l3⟩ := h.lt
  obtain ⟨k1, k2, k3⟩ := h.cols
  obtain ⟨e1, e2, e3, e4, e5⟩ := hx
  have K : ∀ F : Nat → Prop, (∀ i, F i → i ≠ p.s) → Kept F w w' := fun F hF => ⟨hg.size, fun i hi e => hg.block i hi fun e2 => hF i e (Option.some.inj e2)⟩
  have n1 : r ≠ p.s := fun e => by rw [e] at k1; omega
  have n3 : p.b ≠ p.s := fun e => by rw [e] at k3; omega
  refine ⟨⟨(hg.block r l1 (by simpa using n1)).trans h.rcell, hc, ?_, ?_, ?_, h.cols, h.base, ?_, fun y hy => ?_, fun i hi => h.fresh i (by have := hg.size; omega), ok⟩, Ext.refl q h.fresh, Turned.of_grown hg fun i e => by obtain rfl := Option.some.inj e; unfold hues; omega⟩
  · rw [e1, e2]; exact h.log.later (K _ fun i e e2 => by subst e2; unfold hue at e; omega)
  · rw [e3, e4]; exact h.clk.kept (K _ fun i e e2 => by subst e2; unfold hue at e; omega)
  · rw [e5]; exact h.map.kept hg (by simpa using n3)
  · exact hi.kept (K _ fun i e e2 => by subst e2; omega)
  · rw [e5] at hy; exact (h.msgs y hy).kept (K _ fun i e e2 => by subst e2; omega)
/-- Its map has turned. -/
theorem RepAt.maps {L' : List (Int × HeardD)} {g' : Nat} (h : RepAt col q B w r p x g) (hg : w.grownBy w' (some p.b)) (hm : w'.ownsMap Tryz.prog 3 heldR p.b g' (mapD (L'.map hpair))) (hgg : g ≤ g')
    (hl : ∀ y ∈ L', Lists (fun i => col i = 0) w y.2.p.m y.2.p.s y.2.p.o y.2.p.i) (ok : ({ x with kept := L' } : RepD).OK g') : Since q B w col col w' r p { x with kept := L' } g' := by
  obtain ⟨l1, l2, l3⟩ := h.lt
  obtain ⟨k1, k2, k3⟩ := h.cols
  have K : ∀ F : Nat → Prop, (∀ i, F i → i ≠ p.b) → Kept F w w' := fun F hF => ⟨hg.size, fun i hi e => hg.block i hi fun e2 => hF i e (Option.some.inj e2)⟩
  have n1 : r ≠ p.b := fun e => by rw [e] at k1; omega
  have n3 : p.s ≠ p.b := fun e => by rw [e] at k2; omega
  refine ⟨⟨(hg.block r l1 (by simpa using n1)).trans h.rcell, (hg.block p.s l2 (by simpa using n3)).trans h.scell, ?_, ?_, hm, h.cols, h.base, ?_, fun y hy => ?_, fun i hi => h.fresh i (by have := hg.size; omega), ok⟩, Ext.refl q h.fresh, Turned.of_grown hg fun i e => by obtain rfl := Option.some.inj e; unfold hues; omega⟩
  · exact h.log.later (K _ fun i e e2 => by subst e2; unfold hue at e; omega)
  · exact (h.clk.kept (K _ fun i e e2 => by subst e2; unfold hue at e; omega)).more hgg
  · exact h.incs.kept (K _ fun i e e2 => by subst e2; omega)
  · exact (hl y hy).kept (K _ fun i e e2 => by subst e2; omega)
end
end Go.Proofs.YtaiegmhlgjogmaaGreat
/- Who leads, and how many are enough: nodes, isNode, Leader, Quorum, Faults, the code's and the document's. -/
namespace Go.Proofs.YtaiegmhlgjogmaaGreat
open Go.RowKit

def okN (n : Int) : Bool := decide (2 ≤ n) && decide (n ≤ 5)
def okNode (x n : Int) : Bool := okN n && (decide (1 ≤ x) && decide (x ≤ n))
def leadI (v n : Int) : Int := if decide (0 ≤ v) && okN n then 1 + v % n else 0
def quorI (n : Int) : Int := if okN n then n / 2 + 1 else 0
def faulI (n : Int) : Int := if okN n then (n - 1) / 2 else 0
theorem okN_mk {n : Int} (h : okN n = true) : n = 2 ∨ n = 3 ∨ n = 4 ∨ n = 5 := by
  simp [okN] at h
  omega
theorem okN_iff {n : Int} : okN n = true ↔ 2 ≤ n ∧ n ≤ 5 := by simp [okN]
theorem okNode_iff {x n : Int} : okNode x n = true ↔ (2 ≤ n ∧ n ≤ 5) ∧ 1 ≤ x ∧ x ≤ n := by simp [okNode, okN]

/-- A call that says v, and does nothing else. -/
def Tells (f : Nat) (args : Array Value) (v : Value) : Prop := ∀ w : World, Calls Tryz.prog f args w fun e w' => e = .returned v ∧ w = w'

theorem nodes_any (n : Int) : Tells 137 #[.int .i64 n] (.bool (okN n)) := by
  intro w
  by_cases h1 : 2 ≤ n
  · by_cases h2 : n ≤ 5
    · have H : Hid (okN n = true) := okN_iff.2 ⟨h1, h2⟩
      go_enter Tryz.func137, Tryz.ntmps137
      go_wp2
      go_ret
      exact ⟨ret_bool H.out.symm, rfl⟩
    · have H : Hid (okN n = false) := by show okN n = false; simp [okN]; omega
      have hd : decide (n ≤ 5) = false := by simpa using h2
      go_enter Tryz.func137, Tryz.ntmps137
      go_wp2
      go_ret
      exact ⟨ret_bool H.out.symm, rfl⟩
  · have H : Hid (okN n = false) := by show okN n = false; simp [okN]; omega
    have hd : decide (2 ≤ n) = false := by simpa using h1
    go_enter Tryz.func137, Tryz.ntmps137
    go_wp2
    go_ret
    exact ⟨ret_bool H.out.symm, rfl⟩
theorem is_any (n : Int) : Tells 86 #[.int .i64 n] (.bool (okN n)) := by
  intro w
  by_cases h1 : 2 ≤ n
  · by_cases h2 : n ≤ 5
    · have H : Hid (okN n = true) := okN_iff.2 ⟨h1, h2⟩
      go_enter Tryz.func86, Tryz.ntmps86
      go_wp2
      go_ret
      exact ⟨ret_bool H.out.symm, rfl⟩
    · have H : Hid (okN n = false) := by show okN n = false; simp [okN]; omega
      have hd : decide (n ≤ 5) = false := by simpa using h2
      go_enter Tryz.func86, Tryz.ntmps86
      go_wp2
      go_ret
      exact ⟨ret_bool H.out.symm, rfl⟩
  · have H : Hid (okN n = false) := by show okN n = false; simp [okN]; omega
    have hd : decide (2 ≤ n) = false := by simpa using h1
    go_enter Tryz.func86, Tryz.ntmps86
    go_wp2
    go_ret
    exact ⟨ret_bool H.out.symm, rfl⟩
-- MADE by gen/lead8.py from here on
theorem leader_any (v n : Int) : Tells 100 #[.int .i64 v, .int .i64 n] (.int .i64 (leadI v n)) := by
  intro w
  have C := hide (nodes_any n)
  by_cases h1 : 0 ≤ v
  · by_cases h0 : okN n = true
    · rw [h0] at C
      have H : Hid (leadI v n = 1 + v % n) := by show leadI v n = _; simp [leadI, h0, h1]
      obtain ⟨V, rfl⟩ := Int.eq_ofNat_of_zero_le h1
      rcases okN_mk h0 with rfl | rfl | rfl | rfl
      all_goals
        clear h0 h1
        go_enter Tryz.func100, Tryz.ntmps100
        go_wp2_with (go_at_call 137; refine (C.out _).mono ?_; rintro e w1 ⟨rfl, rfl⟩)
        go_ret
        exact ⟨ret_int H.out.symm, rfl⟩
    · have h0 : okN n = false := by simpa using h0
      have H : Hid (leadI v n = 0) := by show leadI v n = _; simp [leadI, h0]
      rw [h0] at C
      clear h0
      go_enter Tryz.func100, Tryz.ntmps100
      go_wp2_with (go_at_call 137; refine (C.out _).mono ?_; rintro e w1 ⟨rfl, rfl⟩)
      go_ret
      exact ⟨ret_int H.out.symm, rfl⟩
  · have H : Hid (leadI v n = 0) := by show leadI v n = _; simp [leadI, h1]
    have hd : decide (v < 0) = true := by simp; omega
    go_enter Tryz.func100, Tryz.ntmps100
    go_wp2_with (go_at_call 137; refine (C.out _).mono ?_; rintro e w1 ⟨rfl, rfl⟩)
    go_ret
    exact ⟨ret_int H.out.symm, rfl⟩
theorem quorum_any (n : Int) : Tells 175 #[.int .i64 n] (.int .i64 (quorI n)) := by
  intro w
  have C := hide (nodes_any n)
  by_cases h0 : okN n = true
  · rw [h0] at C
    rcases okN_mk h0 with rfl | rfl | rfl | rfl
    all_goals
      clear h0
      go_enter Tryz.func175, Tryz.ntmps175
      go_wp2_with (go_at_call 137; refine (C.out _).mono ?_; rintro e w1 ⟨rfl, rfl⟩)
      go_ret
      exact ⟨rfl, rfl⟩
  · have h0 : okN n = false := by simpa using h0
    have H : Hid (quorI n = 0) := by show quorI n = _; simp [quorI, h0]
    rw [h0] at C
    clear h0
    go_enter Tryz.func175, Tryz.ntmps175
    go_wp2_with (go_at_call 137; refine (C.out _).mono ?_; rintro e w1 ⟨rfl, rfl⟩)
    go_ret
    exact ⟨ret_int H.out.symm, rfl⟩
theorem faults_any (n : Int) : Tells 183 #[.int .i64 n] (.int .i64 (faulI n)) := by
  intro w
  have C := hide (nodes_any n)
  by_cases h0 : okN n = true
  · rw [h0] at C
    rcases okN_mk h0 with rfl | rfl | rfl | rfl
    all_goals
      clear h0
      go_enter Tryz.func183, Tryz.ntmps183
      go_wp2_with (go_at_call 137; refine (C.out _).mono ?_; rintro e w1 ⟨rfl, rfl⟩)
      go_ret
      exact ⟨rfl, rfl⟩
  · have h0 : okN n = false := by simpa using h0
    have H : Hid (faulI n = 0) := by show faulI n = _; simp [faulI, h0]
    rw [h0] at C
    clear h0
    go_enter Tryz.func183, Tryz.ntmps183
    go_wp2_with (go_at_call 137; refine (C.out _).mono ?_; rintro e w1 ⟨rfl, rfl⟩)
    go_ret
    exact ⟨ret_int H.out.symm, rfl⟩
theorem refleader_any (v n : Int) : Tells 75 #[.int .i64 v, .int .i64 n] (.int .i64 (leadI v n)) := by
  intro w
  have C := hide (is_any n)
  by_cases h1 : 0 ≤ v
  · by_cases h0 : okN n = true
    · rw [h0] at C
      have H : Hid (leadI v n = 1 + v % n) := by show leadI v n = _; simp [leadI, h0, h1]
      obtain ⟨V, rfl⟩ := Int.eq_ofNat_of_zero_le h1
      rcases okN_mk h0 with rfl | rfl | rfl | rfl
      all_goals
        clear h0 h1
        go_enter Tryz.func75, Tryz.ntmps75
        go_wp2_with (go_at_call 86; refine (C.out _).mono ?_; rintro e w1 ⟨rfl, rfl⟩)
        go_ret
        exact ⟨ret_int H.out.symm, rfl⟩
    · have h0 : okN n = false := by simpa using h0
      have H : Hid (leadI v n = 0) := by show leadI v n = _; simp [leadI, h0]
      rw [h0] at C
      clear h0
      go_enter Tryz.func75, Tryz.ntmps75
      go_wp2_with (go_at_call 86; refine (C.out _).mono ?_; rintro e w1 ⟨rfl, rfl⟩)
      go_ret
      exact ⟨ret_int H.out.symm, rfl⟩
  · have H : Hid (leadI v n = 0) := by show leadI v n = _; simp [leadI, h1]
    have hd : decide (v < 0) = true := by simp; omega
    go_enter Tryz.func75, Tryz.ntmps75
    go_wp2_with (go_at_call 86; refine (C.out _).mono ?_; rintro e w1 ⟨rfl, rfl⟩)
    go_ret
    exact ⟨ret_int H.out.symm, rfl⟩
theorem refquorum_any (n : Int) : Tells 130 #[.int .i64 n] (.int .i64 (quorI n)) := by
  intro w
  have C := hide (is_any n)
  by_cases h0 : okN n = true
  · rw [h0] at C
    rcases okN_mk h0 with rfl | rfl | rfl | rfl
    all_goals
      clear h0
      go_enter Tryz.func130, Tryz.ntmps130
      go_wp2_with (go_at_call 86; refine (C.out _).mono ?_; rintro e w1 ⟨rfl, rfl⟩)
      go_ret
      exact ⟨rfl, rfl⟩
  · have h0 : okN n = false := by simpa using h0
    have H : Hid (quorI n = 0) := by show quorI n = _; simp [quorI, h0]
    rw [h0] at C
    clear h0
    go_enter Tryz.func130, Tryz.ntmps130
    go_wp2_with (go_at_call 86; refine (C.out _).mono ?_; rintro e w1 ⟨rfl, rfl⟩)
    go_ret
    exact ⟨ret_int H.out.symm, rfl⟩
theorem reffaults_any (n : Int) : Tells 44 #[.int .i64 n] (.int .i64 (faulI n)) := by
  intro w
  have C := hide (is_any n)
  by_cases h0 : okN n = true
  · rw [h0] at C
    rcases okN_mk h0 with rfl | rfl | rfl | rfl
    all_goals
      clear h0
      go_enter Tryz.func44, Tryz.ntmps44
      go_wp2_with (go_at_call 86; refine (C.out _).mono ?_; rintro e w1 ⟨rfl, rfl⟩)
      go_ret
      exact ⟨rfl, rfl⟩
  · have h0 : okN n = false := by simpa using h0
    have H : Hid (faulI n = 0) := by show faulI n = _; simp [faulI, h0]
    rw [h0] at C
    clear h0
    go_enter Tryz.func44, Tryz.ntmps44
    go_wp2_with (go_at_call 86; refine (C.out _).mono ?_; rintro e w1 ⟨rfl, rfl⟩)
    go_ret
    exact ⟨ret_int H.out.symm, rfl⟩
end Go.Proofs.YtaiegmhlgjogmaaGreat
/- A node's timers: one is set, alone or beside others. -/
namespace Go.Proofs.YtaiegmhlgjogmaaGreat
open Go.RowKit Go.Maps

/-- How long a timer runs. -/
def ticksOf (id tm : Int) : Int := if tm = 1 then 2 else if tm = 2 then 7 + id else if tm = 3 then 9 + id else 4
def setT (x : RepD) (tm : Int) : RepD := { x with T := Ck.insT (x.now + ticksOf x.id tm, tm) (Ck.delT x.T tm) }
def aloneT (x : RepD) (tm : Int) : RepD := { x with T := [(x.now + ticksOf x.id tm, tm)] }
theorem ticks_in {id tm : Int} (h1 : 1 ≤ id) (h2 : id ≤ 5) : 1 ≤ ticksOf id tm ∧ ticksOf id tm ≤ 100 := by
  unfold ticksOf
  split <;> (try split) <;> (try split) <;> omega
/-- A rising list of few numbers is short. -/
theorem rise_short : ∀ {T : List (Int × Int)} {a : Int}, T.Pairwise (fun p q => p.2 < q.2) → (∀ p ∈ T, a ≤ p.2 ∧ p.2 ≤ 4) → a ≤ 5 → (T.length : Int) ≤ 5 - a
  | [], a, _, _, h5 => by simp; omega
  | y :: r, a, h, hn, _ => by
    obtain ⟨h1, h2⟩ := List.pairwise_cons.1 h
    have hy := hn y (by simp)
    have := rise_short (a := y.2 + 1) h2 (fun p hp => ⟨by have := h1 p hp; omega, (hn p (by simp [hp])).2⟩) (by omega)
    simp only [List.length_cons]
    omega
section
variable {col : Nat → Nat} {q B r g : Nat} {w : World} {p : RepP} {x : RepD}
theorem RepAt.short (h : RepAt col q B w r p x g) : x.T.length ≤ 4 := by
  have := rise_short (a := 1) h.clk.rise h.ok.names (by omega)
  omega
theorem RepAt.cell (h : RepAt col q B w r p x g) {k : Nat} {v : Value} (hk : (x.cells p)[k]? = some v) : w.cell? ⟨p.s, k, none⟩ = some v := by
  have := cell_of_row w p.s k _ _ _ h.scell
  rw [this, List.getElem?_toArray]
  exact hk
theorem RepAt.free (h : RepAt col q B w r p x g) (k : Nat) : w.frozen? ⟨p.s, k, none⟩ = false := frozen_of_row w p.s k _ _ h.scell
theorem RepAt.rptr (h : RepAt col q B w r p x g) : w.cell? ⟨r, 0, none⟩ = some (.pointer (some ⟨p.s, 0, none⟩)) := by
  have := cell_of_row w r 0 _ _ _ h.rcell
  rw [this]
  rfl
theorem setT_ok (ok : x.OK g) (tm : Int) (h1 : 1 ≤ tm) (h2 : tm ≤ 4) : (setT x tm).OK (g + 1) := by
  have ht := ticks_in (id := x.id) (tm := tm) ok.id.1 (by have := ok.id.2; have := ok.n.2; omega)
  refine ⟨ok.id, ok.n, ⟨ok.view.1, by have := ok.view.2; show x.view ≤ _; omega⟩, ⟨ok.last.1, by have := ok.last.2; show x.last ≤ _; omega⟩, ok.nonce, ok.incs, ok.taken, by have := ok.now; show x.now ≤ _; omega, fun y hy => ?_, fun y hy => ?_, ok.keys, ok.rise, ok.acks⟩
  · rcases Ck.insT_mem.1 hy with hy | rfl
    · exact ok.names y (Ck.delT_mem.1 hy).1
    · exact ⟨h1, h2⟩
  · rcases Ck.insT_mem.1 hy with hy | rfl
    · exact ok.later y (Ck.delT_mem.1 hy).1
    · show x.now < x.now + ticksOf x.id tm; omega
/-- What the clock's Set leaves of the node. -/
theorem rep_set (h : RepAt col q B w r p x g) (tm : Int) (h1 : 1 ≤ tm) (h2 : tm ≤ 4) (hg : g ≤ 900000) :
    Calls Tryz.prog 166 #[.pointer (some ⟨p.c, 0, none⟩), .int .i64 tm, .int .i64 (ticksOf x.id tm)] w fun e w' => e = .returned (.int .i64 0) ∧ ∃ col', Since q B w col col' w' r p (setT x tm) (g + 1) := by
  have ht := ticks_in (id := x.id) (tm := tm) h.ok.id.1 (by have := h.ok.id.2; have := h.ok.n.2; omega)
  refine (Ck.clk_set tm (ticksOf x.id tm) h.clk (by omega) (by omega) (by omega) (by omega) (.inr (by have := h.short; omega)) (by omega)).mono fun e w' ⟨S', he, hc, htu, hS⟩ => ⟨he, ?_⟩
  exact h.clock hc htu hS (by omega) (setT_ok h.ok tm h1 h2)
/-- And Stop. -/
theorem rep_stop (h : RepAt col q B w r p x g) (tm : Int) (h1 : 1 ≤ tm) (h2 : tm ≤ 4) :
    Calls Tryz.prog 119 #[.pointer (some ⟨p.c, 0, none⟩), .int .i64 tm] w fun e w' => e = .returned (.bool (Ck.findT x.T tm).isSome) ∧ ∃ col', Since q B w col col' w' r p { x with T := Ck.delT x.T tm } g := by
  refine (Ck.clk_stop tm h.clk (by omega) (by omega)).mono fun e w' ⟨he, hc, htu⟩ => ⟨he, ?_⟩
  refine h.clock hc htu (fun i hi => .inl hi) (Nat.le_refl _) ?_
  have ok := h.ok
  exact ⟨ok.id, ok.n, ok.view, ok.last, ok.nonce, ok.incs, ok.taken, ok.now, fun y hy => ok.names y (Ck.delT_mem.1 hy).1, fun y hy => ok.later y (Ck.delT_mem.1 hy).1, ok.keys, ok.rise, ok.acks⟩

set_option maxHeartbeats 2000000 in
set_option maxRecDepth 100000 in
theorem set_1 (h : RepAt col q B w r p x g) (hg : g ≤ 900000) :
    Calls Tryz.prog 120 #[.pointer (some ⟨p.s, 0, none⟩), .int .i64 1] w fun e w' => e = .returned (.tuple #[]) ∧ ∃ col', Since q B w col col' w' r p (setT x 1) (g + 1) := by
  have hid := h.ok.id
  have hn := h.ok.n
  have c0 : w.cell? ⟨p.s, 0, none⟩ = some (.int .i64 x.id) := h.cell (k := 0) rfl
  have e7 : IntKind.i64.wrap (7 + x.id) = 7 + x.id := IntWalk.i64_in _ (by omega)
  have e9 : IntKind.i64.wrap (9 + x.id) = 9 + x.id := IntWalk.i64_in _ (by omega)
  have c0a : (w.alloc (.cells #[.int .i64 0, .int .i64 0, .int .i64 0, .int .i64 0, .int .i64 0] 187 (0, 0))).cell? ⟨p.s, 0, none⟩ = some (.int .i64 x.id) := Lib.cell?_alloc_some _ c0
  obtain ⟨W, hW⟩ : ∃ W, W = (w.alloc (.cells #[.int .i64 0, .int .i64 2, .int .i64 (7 + x.id), .int .i64 (9 + x.id), .int .i64 4] 187 (0, 0))).drew := ⟨_, rfl⟩
  have HL : Hid (Below w.heap.size w W) := by rw [hW]; exact ((Below.refl _ _).alloc (Nat.le_refl _) _).drew
  have HB : Hid (W.heap[w.heap.size]? = some (.cells #[.int .i64 0, .int .i64 2, .int .i64 (7 + x.id), .int .i64 (9 + x.id), .int .i64 4] 187 (0, 0))) := by rw [hW]; exact heap_alloc_new _ _
  have D0 : Hid (Later W W.drew) := (Below.refl _ _).drew
  have HF : Hid (∀ w', Later W w' → w'.cell? ⟨p.s, 9, none⟩ = some (.pointer (some ⟨p.c, 0, none⟩)) ∧ w'.cell? ⟨w.heap.size, 1, none⟩ = some (.int .i64 (ticksOf x.id 1))) := fun w' hl => by
    refine ⟨(h.later (HL.out.trans (hl.mono HL.out.size))).cell (k := 9) rfl, ?_⟩
    have hb := (hl.block _ (lt_of_block HB.out)).trans HB.out
    rw [cell_of_row w' _ 1 _ _ _ hb]
    rfl
  have HC : Hid (∀ w', Later W w' → Calls Tryz.prog 166 #[.pointer (some ⟨p.c, 0, none⟩), .int .i64 1, .int .i64 (ticksOf x.id 1)] w' fun e w'' => e = .returned (.int .i64 0) ∧ ∃ col', Since q B w col col' w'' r p (setT x 1) (g + 1)) := fun w' hl => by
    have hb := HL.out.trans (hl.mono HL.out.size)
    exact (rep_set (h.later hb) 1 (by decide) (by decide) hg).mono fun e w'' ⟨he, col', hs⟩ => ⟨he, col', ((Since.refl h).later hb).next hs⟩
  clear h
  generalize ticksOf x.id 1 = tk at HF HC
  generalize setT x 1 = x' at HC ⊢
  go_enter Tryz.func120, Tryz.ntmps120
  go_wp2
  go_region
  rw [← hW]
  clear hW c0 c0a e7 e9 HB
  go_wp2
  refine wp_region_S (fun j => j == 8) (by kernel_rfl) ?_
  refine wpAnyS_take (i := 0) (d := some 18) (v := ?vaa0) rfl rfl (by kernel_rfl) (by kernel_rfl) (by kernel_rfl) (by kernel_rfl) (by kernel_rfl) (fun _ _ _ h => h) (by rfl) ?yaa0 ?_
  case yaa0 => (intro w' hw'; go_simp; try (with_reducible rfl))
  simp only [Act.put]; try simp only [List.setIfInBounds_toArray]; try simp only [List.set_cons_zero, List.set_cons_succ]
  refine wpAnyS_take (i := 1) (d := some 19) (v := ?vaa1) rfl rfl (by kernel_rfl) (by kernel_rfl) (by kernel_rfl) (by kernel_rfl) (by kernel_rfl) (fun _ _ _ h => h) (by rfl) ?yaa1 ?_
  case yaa1 => (intro w' hw'; go_simp; try (with_reducible rfl))
  simp only [Act.put]; try simp only [List.setIfInBounds_toArray]; try simp only [List.set_cons_zero, List.set_cons_succ]
  refine wpAnyS_take (i := 2) (d := some 20) (v := ?vaa2) rfl rfl (by kernel_rfl) (by kernel_rfl) (by kernel_rfl) (by kernel_rfl) (by kernel_rfl) (fun _ _ _ h => h) (by rfl) ?yaa2 ?_
  case yaa2 => (intro w' hw'; go_simp; try (with_reducible rfl))
  simp only [Act.put]; try simp only [List.setIfInBounds_toArray]; try simp only [List.set_cons_zero, List.set_cons_succ]
  refine wpAnyS_take (i := 3) (d := some 21) (v := ?vaa3) rfl rfl (by kernel_rfl) (by kernel_rfl) (by kernel_rfl) (by kernel_rfl) (by kernel_rfl) (fun _ _ _ h => h) (by rfl) ?yaa3 ?_
  case yaa3 => (intro w' hw'; have hq := (HF.out w' (D0.out.trans hw')).1; go_simp; try (with_reducible rfl))
  simp only [Act.put]; try simp only [List.setIfInBounds_toArray]; try simp only [List.set_cons_zero, List.set_cons_succ]
  refine wpAnyS_take (i := 4) (d := some 22) (v := ?vaa4) rfl rfl (by kernel_rfl) (by kernel_rfl) (by kernel_rfl) (by kernel_rfl) (by kernel_rfl) (fun _ _ _ h => h) (by rfl) ?yaa4 ?_
  case yaa4 => (intro w' hw'; go_simp; try (with_reducible rfl))
  simp only [Act.put]; try simp only [List.setIfInBounds_toArray]; try simp only [List.set_cons_zero, List.set_cons_succ]
  refine wpAnyS_take (i := 5) (d := some 23) (v := ?vaa5) rfl rfl (by kernel_rfl) (by kernel_rfl) (by kernel_rfl) (by kernel_rfl) (by kernel_rfl) (fun _ _ _ h => h) (by rfl) ?yaa5 ?_
  case yaa5 => (intro w' hw'; go_simp; try (with_reducible rfl))
  simp only [Act.put]; try simp only [List.setIfInBounds_toArray]; try simp only [List.set_cons_zero, List.set_cons_succ]
  refine wpAnyS_take (i := 6) (d := some 24) (v := ?vaa6) rfl rfl (by kernel_rfl) (by kernel_rfl) (by kernel_rfl) (by kernel_rfl) (by kernel_rfl) (fun _ _ _ h => h) (by rfl) ?yaa6 ?_
  case yaa6 => (intro w' hw'; go_simp; try (with_reducible rfl))
  simp only [Act.put]; try simp only [List.setIfInBounds_toArray]; try simp only [List.set_cons_zero, List.set_cons_succ]
  refine wpAnyS_take (i := 7) (d := some 25) (v := ?vaa7) rfl rfl (by kernel_rfl) (by kernel_rfl) (by kernel_rfl) (by kernel_rfl) (by kernel_rfl) (fun _ _ _ h => h) (by rfl) ?yaa7 ?_
  case yaa7 => (intro w' hw'; have hq := (HF.out w' (D0.out.trans hw')).2; go_simp; try (with_reducible rfl))
  simp only [Act.put]; try simp only [List.setIfInBounds_toArray]; try simp only [List.set_cons_zero, List.set_cons_succ]
  refine wpAnyS_write (i := 8) rfl rfl (by kernel_rfl) (by rfl) fun K hK => ?_
  go_simp
  refine (HC.out _ D0.out).mono ?_
  rintro e w2 ⟨rfl, hs⟩
  have HS2 := hide hs
  clear hs
  refine hK.out _ _ ?_
  clear hK K
  try (simp only [Act.put]; try simp only [List.setIfInBounds_toArray]; try simp only [List.set_cons_zero, List.set_cons_succ])
  refine wpAnyS_done (by kernel_rfl) ?_ _
  go_wp2
  go_end0
  exact ⟨rfl, HS2.out⟩
set_option maxHeartbeats 2000000 in
set_option maxRecDepth 100000 in
theorem set_2 (h : RepAt col q B w r p x g) (hg : g ≤ 900000) :
    Calls Tryz.prog 120 #[.pointer (some ⟨p.s, 0, none⟩), .int .i64 2] w fun e w' => e = .returned (.tuple #[]) ∧ ∃ col', Since q B w col col' w' r p (setT x 2) (g + 1) := by
  have hid := h.ok.id
  have hn := h.ok.n
  have c0 : w.cell? ⟨p.s, 0, none⟩ = some (.int .i64 x.id) := h.cell (k := 0) rfl
  have e7 : IntKind.i64.wrap (7 + x.id) = 7 + x.id := IntWalk.i64_in _ (by omega)
  have e9 : IntKind.i64.wrap (9 + x.id) = 9 + x.id := IntWalk.i64_in _ (by omega)
  have c0a : (w.alloc (.cells #[.int .i64 0, .int .i64 0, .int .i64 0, .int .i64 0, .int .i64 0] 187 (0, 0))).cell? ⟨p.s, 0, none⟩ = some (.int .i64 x.id) := Lib.cell?_alloc_some _ c0
  obtain ⟨W, hW⟩ : ∃ W, W = (w.alloc (.cells #[.int .i64 0, .int .i64 2, .int .i64 (7 + x.id), .int .i64 (9 + x.id), .int .i64 4] 187 (0, 0))).drew := ⟨_, rfl⟩
  have HL : Hid (Below w.heap.size w W) := by rw [hW]; exact ((Below.refl _ _).alloc (Nat.le_refl _) _).drew
  have HB : Hid (W.heap[w.heap.size]? = some (.cells #[.int .i64 0, .int .i64 2, .int .i64 (7 + x.id), .int .i64 (9 + x.id), .int .i64 4] 187 (0, 0))) := by rw [hW]; exact heap_alloc_new _ _
  have D0 : Hid (Later W W.drew) := (Below.refl _ _).drew
  have HF : Hid (∀ w', Later W w' → w'.cell? ⟨p.s, 9, none⟩ = some (.pointer (some ⟨p.c, 0, none⟩)) ∧ w'.cell? ⟨w.heap.size, 2, none⟩ = some (.int .i64 (ticksOf x.id 2))) := fun w' hl => by
    refine ⟨(h.later (HL.out.trans (hl.mono HL.out.size))).cell (k := 9) rfl, ?_⟩
    have hb := (hl.block _ (lt_of_block HB.out)).trans HB.out
    rw [cell_of_row w' _ 2 _ _ _ hb]
    rfl
  have HC : Hid (∀ w', Later W w' → Calls Tryz.prog 166 #[.pointer (some ⟨p.c, 0, none⟩), .int .i64 2, .int .i64 (ticksOf x.id 2)] w' fun e w'' => e = .returned (.int .i64 0) ∧ ∃ col', Since q B w col col' w'' r p (setT x 2) (g + 1)) := fun w' hl => by
    have hb := HL.out.trans (hl.mono HL.out.size)
    exact (rep_set (h.later hb) 2 (by decide) (by decide) hg).mono fun e w'' ⟨he, col', hs⟩ => ⟨he, col', ((Since.refl h).later hb).next hs⟩
  clear h
  generalize ticksOf x.id 2 = tk at HF HC
  generalize setT x 2 = x' at HC ⊢
  go_enter Tryz.func120, Tryz.ntmps120
  go_wp2
  go_region
  rw [← hW]
  clear hW c0 c0a e7 e9 HB
  go_wp2
  refine wp_region_S (fun j => j == 8) (by kernel_rfl) ?_
  refine wpAnyS_take (i := 0) (d := some 18) (v := ?vaa0) rfl rfl (by kernel_rfl) (by kernel_rfl) (by kernel_rfl) (by kernel_rfl) (by kernel_rfl) (fun _ _ _ h => h) (by rfl) ?yaa0 ?_
  case yaa0 => (intro w' hw'; go_simp; try (with_reducible rfl))
  simp only [Act.put]; try simp only [List.setIfInBounds_toArray]; try simp only [List.set_cons_zero, List.set_cons_succ]
  refine wpAnyS_take (i := 1) (d := some 19) (v := ?vaa1) rfl rfl (by kernel_rfl) (by kernel_rfl) (by kernel_rfl) (by kernel_rfl) (by kernel_rfl) (fun _ _ _ h => h) (by rfl) ?yaa1 ?_
  case yaa1 => (intro w' hw'; go_simp; try (with_reducible rfl))
  simp only [Act.put]; try simp only [List.setIfInBounds_toArray]; try simp only [List.set_cons_zero, List.set_cons_succ]
  refine wpAnyS_take (i := 2) (d := some 20) (v := ?vaa2) rfl rfl (by kernel_rfl) (by kernel_rfl) (by kernel_rfl) (by kernel_rfl) (by kernel_rfl) (fun _ _ _ h => h) (by rfl) ?yaa2 ?_
  case yaa2 => (intro w' hw'; go_simp; try (with_reducible rfl))
  simp only [Act.put]; try simp only [List.setIfInBounds_toArray]; try simp only [List.set_cons_zero, List.set_cons_succ]
  refine wpAnyS_take (i := 3) (d := some 21) (v := ?vaa3) rfl rfl (by kernel_rfl) (by kernel_rfl) (by kernel_rfl) (by kernel_rfl) (by kernel_rfl) (fun _ _ _ h => h) (by rfl) ?yaa3 ?_
  case yaa3 => (intro w' hw'; have hq := (HF.out w' (D0.out.trans hw')).1; go_simp; try (with_reducible rfl))
  simp only [Act.put]; try simp only [List.setIfInBounds_toArray]; try simp only [List.set_cons_zero, List.set_cons_succ]
  refine wpAnyS_take (i := 4) (d := some 22) (v := ?vaa4) rfl rfl (by kernel_rfl) (by kernel_rfl) (by kernel_rfl) (by kernel_rfl) (by kernel_rfl) (fun _ _ _ h => h) (by rfl) ?yaa4 ?_
  case yaa4 => (intro w' hw'; go_simp; try (with_reducible rfl))
  simp only [Act.put]; try simp only [List.setIfInBounds_toArray]; try simp only [List.set_cons_zero, List.set_cons_succ]
  refine wpAnyS_take (i := 5) (d := some 23) (v := ?vaa5) rfl rfl (by kernel_rfl) (by kernel_rfl) (by kernel_rfl) (by kernel_rfl) (by kernel_rfl) (fun _ _ _ h => h) (by rfl) ?yaa5 ?_
  case yaa5 => (intro w' hw'; go_simp; try (with_reducible rfl))
  simp only [Act.put]; try simp only [List.setIfInBounds_toArray]; try simp only [List.set_cons_zero, List.set_cons_succ]
  refine wpAnyS_take (i := 6) (d := some 24) (v := ?vaa6) rfl rfl (by kernel_rfl) (by kernel_rfl) (by kernel_rfl) (by kernel_rfl) (by kernel_rfl) (fun _ _ _ h => h) (by rfl) ?yaa6 ?_
  case yaa6 => (intro w' hw'; go_simp; try (with_reducible rfl))
  simp only [Act.put]; try simp only [List.setIfInBounds_toArray]; try simp only [List.set_cons_zero, List.set_cons_succ]
  refine wpAnyS_take (i := 7) (d := some 25) (v := ?vaa7) rfl rfl (by kernel_rfl) (by kernel_rfl) (by kernel_rfl) (by kernel_rfl) (by kernel_rfl) (fun _ _ _ h => h) (by rfl) ?yaa7 ?_
  case yaa7 => (intro w' hw'; have hq := (HF.out w' (D0.out.trans hw')).2; go_simp; try (with_reducible rfl))
  simp only [Act.put]; try simp only [List.setIfInBounds_toArray]; try simp only [List.set_cons_zero, List.set_cons_succ]
  refine wpAnyS_write (i := 8) rfl rfl (by kernel_rfl) (by rfl) fun K hK => ?_
  go_simp
  refine (HC.out _ D0.out).mono ?_
  rintro e w2 ⟨rfl, hs⟩
  have HS2 := hide hs
  clear hs
  refine hK.out _ _ ?_
  clear hK K
  try (simp only [Act.put]; try simp only [List.setIfInBounds_toArray]; try simp only [List.set_cons_zero, List.set_cons_succ])
  refine wpAnyS_done (by kernel_rfl) ?_ _
  go_wp2
  go_end0
  exact ⟨rfl, HS2.out⟩
set_option maxHeartbeats 2000000 in
set_option maxRecDepth 100000 in
theorem set_3 (h : RepAt col q B w r p x g) (hg : g ≤ 900000) :
    Calls Tryz.prog 120 #[.pointer (some ⟨p.s, 0, none⟩), .int .i64 3] w fun e w' => e = .returned (.tuple #[]) ∧ ∃ col', Since q B w col col' w' r p (setT x 3) (g + 1) := by
  have hid := h.ok.id
  have hn := h.ok.n
  have c0 : w.cell? ⟨p.s, 0, none⟩ = some (.int .i64 x.id) := h.cell (k := 0) rfl
  have e7 : IntKind.i64.wrap (7 + x.id) = 7 + x.id := IntWalk.i64_in _ (by omega)
  have e9 : IntKind.i64.wrap (9 + x.id) = 9 + x.id := IntWalk.i64_in _ (by omega)
  have c0a : (w.alloc (.cells #[.int .i64 0, .int .i64 0, .int .i64 0, .int .i64 0, .int .i64 0] 187 (0, 0))).cell? ⟨p.s, 0, none⟩ = some (.int .i64 x.id) := Lib.cell?_alloc_some _ c0
  obtain ⟨W, hW⟩ : ∃ W, W = (w.alloc (.cells #[.int .i64 0, .int .i64 2, .int .i64 (7 + x.id), .int .i64 (9 + x.id), .int .i64 4] 187 (0, 0))).drew := ⟨_, rfl⟩
  have HL : Hid (Below w.heap.size w W) := by rw [hW]; exact ((Below.refl _ _).alloc (Nat.le_refl _) _).drew
  have HB : Hid (W.heap[w.heap.size]? = some (.cells #[.int .i64 0, .int .i64 2, .int .i64 (7 + x.id), .int .i64 (9 + x.id), .int .i64 4] 187 (0, 0))) := by rw [hW]; exact heap_alloc_new _ _
  have D0 : Hid (Later W W.drew) := (Below.refl _ _).drew
  have HF : Hid (∀ w', Later W w' → w'.cell? ⟨p.s, 9, none⟩ = some (.pointer (some ⟨p.c, 0, none⟩)) ∧ w'.cell? ⟨w.heap.size, 3, none⟩ = some (.int .i64 (ticksOf x.id 3))) := fun w' hl => by
    refine ⟨(h.later (HL.out.trans (hl.mono HL.out.size))).cell (k := 9) rfl, ?_⟩
    have hb := (hl.block _ (lt_of_block HB.out)).trans HB.out
    rw [cell_of_row w' _ 3 _ _ _ hb]
    rfl
  have HC : Hid (∀ w', Later W w' → Calls Tryz.prog 166 #[.pointer (some ⟨p.c, 0, none⟩), .int .i64 3, .int .i64 (ticksOf x.id 3)] w' fun e w'' => e = .returned (.int .i64 0) ∧ ∃ col', Since q B w col col' w'' r p (setT x 3) (g + 1)) := fun w' hl => by
    have hb := HL.out.trans (hl.mono HL.out.size)
    exact (rep_set (h.later hb) 3 (by decide) (by decide) hg).mono fun e w'' ⟨he, col', hs⟩ => ⟨he, col', ((Since.refl h).later hb).next hs⟩
  clear h
  generalize ticksOf x.id 3 = tk at HF HC
  generalize setT x 3 = x' at HC ⊢
  go_enter Tryz.func120, Tryz.ntmps120
  go_wp2
  go_region
  rw [← hW]
  clear hW c0 c0a e7 e9 HB
  go_wp2
  refine wp_region_S (fun j => j == 8) (by kernel_rfl) ?_
  refine wpAnyS_take (i := 0) (d := some 18) (v := ?vaa0) rfl rfl (by kernel_rfl) (by kernel_rfl) (by kernel_rfl) (by kernel_rfl) (by kernel_rfl) (fun _ _ _ h => h) (by rfl) ?yaa0 ?_
  case yaa0 => (intro w' hw'; go_simp; try (with_reducible rfl))
  simp only [Act.put]; try simp only [List.setIfInBounds_toArray]; try simp only [List.set_cons_zero, List.set_cons_succ]
  refine wpAnyS_take (i := 1) (d := some 19) (v := ?vaa1) rfl rfl (by kernel_rfl) (by kernel_rfl) (by kernel_rfl) (by kernel_rfl) (by kernel_rfl) (fun _ _ _ h => h) (by rfl) ?yaa1 ?_
  case yaa1 => (intro w' hw'; go_simp; try (with_reducible rfl))
  simp only [Act.put]; try simp only [List.setIfInBounds_toArray]; try simp only [List.set_cons_zero, List.set_cons_succ]
  refine wpAnyS_take (i := 2) (d := some 20) (v := ?vaa2) rfl rfl (by kernel_rfl) (by kernel_rfl) (by kernel_rfl) (by kernel_rfl) (by kernel_rfl) (fun _ _ _ h => h) (by rfl) ?yaa2 ?_
  case yaa2 => (intro w' hw'; go_simp; try (with_reducible rfl))
  simp only [Act.put]; try simp only [List.setIfInBounds_toArray]; try simp only [List.set_cons_zero, List.set_cons_succ]
  refine wpAnyS_take (i := 3) (d := some 21) (v := ?vaa3) rfl rfl (by kernel_rfl) (by kernel_rfl) (by kernel_rfl) (by kernel_rfl) (by kernel_rfl) (fun _ _ _ h => h) (by rfl) ?yaa3 ?_
  case yaa3 => (intro w' hw'; have hq := (HF.out w' (D0.out.trans hw')).1; go_simp; try (with_reducible rfl))
  simp only [Act.put]; try simp only [List.setIfInBounds_toArray]; try simp only [List.set_cons_zero, List.set_cons_succ]
  refine wpAnyS_take (i := 4) (d := some 22) (v := ?vaa4) rfl rfl (by kernel_rfl) (by kernel_rfl) (by kernel_rfl) (by kernel_rfl) (by kernel_rfl) (fun _ _ _ h => h) (by rfl) ?yaa4 ?_
  case yaa4 => (intro w' hw'; go_simp; try (with_reducible rfl))
  simp only [Act.put]; try simp only [List.setIfInBounds_toArray]; try simp only [List.set_cons_zero, List.set_cons_succ]
  refine wpAnyS_take (i := 5) (d := some 23) (v := ?vaa5) rfl rfl (by kernel_rfl) (by kernel_rfl) (by kernel_rfl) (by kernel_rfl) (by kernel_rfl) (fun _ _ _ h => h) (by rfl) ?yaa5 ?_
  case yaa5 => (intro w' hw'; go_simp; try (with_reducible rfl))
  simp only [Act.put]; try simp only [List.setIfInBounds_toArray]; try simp only [List.set_cons_zero, List.set_cons_succ]
  refine wpAnyS_take (i := 6) (d := some 24) (v := ?vaa6) rfl rfl (by kernel_rfl) (by kernel_rfl) (by kernel_rfl) (by kernel_rfl) (by kernel_rfl) (fun _ _ _ h => h) (by rfl) ?yaa6 ?_
  case yaa6 => (intro w' hw'; go_simp; try (with_reducible rfl))
  simp only [Act.put]; try simp only [List.setIfInBounds_toArray]; try simp only [List.set_cons_zero, List.set_cons_succ]
  refine wpAnyS_take (i := 7) (d := some 25) (v := ?vaa7) rfl rfl (by kernel_rfl) (by kernel_rfl) (by kernel_rfl) (by kernel_rfl) (by kernel_rfl) (fun _ _ _ h => h) (by rfl) ?yaa7 ?_
  case yaa7 => (intro w' hw'; have hq := (HF.out w' (D0.out.trans hw')).2; go_simp; try (with_reducible rfl))
  simp only [Act.put]; try simp only [List.setIfInBounds_toArray]; try simp only [List.set_cons_zero, List.set_cons_succ]
  refine wpAnyS_write (i := 8) rfl rfl (by kernel_rfl) (by rfl) fun K hK => ?_
  go_simp
  refine (HC.out _ D0.out).mono ?_
  rintro e w2 ⟨rfl, hs⟩
  have HS2 := hide hs
  clear hs
  refine hK.out _ _ ?_
  clear hK K
  try (simp only [Act.put]; try simp only [List.setIfInBounds_toArray]; try simp only [List.set_cons_zero, List.set_cons_succ])
  refine wpAnyS_done (by kernel_rfl) ?_ _
  go_wp2
  go_end0
  exact ⟨rfl, HS2.out⟩
set_option maxHeartbeats 2000000 in
set_option maxRecDepth 100000 in
theorem set_4 (h : RepAt col q B w r p x g) (hg : g ≤ 900000) :
    Calls Tryz.prog 120 #[.pointer (some ⟨p.s, 0, none⟩), .int .i64 4] w fun e w' => e = .returned (.tuple #[]) ∧ ∃ col', Since q B w col col' w' r p (setT x 4) (g + 1) := by
  have hid := h.ok.id
  have hn := h.ok.n
  have c0 : w.cell? ⟨p.s, 0, none⟩ = some (.int .i64 x.id) := h.cell (k := 0) rfl
  have e7 : IntKind.i64.wrap (7 + x.id) = 7 + x.id := IntWalk.i64_in _ (by omega)
  have e9 : IntKind.i64.wrap (9 + x.id) = 9 + x.id := IntWalk.i64_in _ (by omega)
  have c0a : (w.alloc (.cells #[.int .i64 0, .int .i64 0, .int .i64 0, .int .i64 0, .int .i64 0] 187 (0, 0))).cell? ⟨p.s, 0, none⟩ = some (.int .i64 x.id) := Lib.cell?_alloc_some _ c0
  obtain ⟨W, hW⟩ : ∃ W, W = (w.alloc (.cells #[.int .i64 0, .int .i64 2, .int .i64 (7 + x.id), .int .i64 (9 + x.id), .int .i64 4] 187 (0, 0))).drew := ⟨_, rfl⟩
  have HL : Hid (Below w.heap.size w W) := by rw [hW]; exact ((Below.refl _ _).alloc (Nat.le_refl _) _).drew
  have HB : Hid (W.heap[w.heap.size]? = some (.cells #[.int .i64 0, .int .i64 2, .int .i64 (7 + x.id), .int .i64 (9 + x.id), .int .i64 4] 187 (0, 0))) := by rw [hW]; exact heap_alloc_new _ _
  have D0 : Hid (Later W W.drew) := (Below.refl _ _).drew
  have HF : Hid (∀ w', Later W w' → w'.cell? ⟨p.s, 9, none⟩ = some (.pointer (some ⟨p.c, 0, none⟩)) ∧ w'.cell? ⟨w.heap.size, 4, none⟩ = some (.int .i64 (ticksOf x.id 4))) := fun w' hl => by
    refine ⟨(h.later (HL.out.trans (hl.mono HL.out.size))).cell (k := 9) rfl, ?_⟩
    have hb := (hl.block _ (lt_of_block HB.out)).trans HB.out
    rw [cell_of_row w' _ 4 _ _ _ hb]
    rfl
  have HC : Hid (∀ w', Later W w' → Calls Tryz.prog 166 #[.pointer (some ⟨p.c, 0, none⟩), .int .i64 4, .int .i64 (ticksOf x.id 4)] w' fun e w'' => e = .returned (.int .i64 0) ∧ ∃ col', Since q B w col col' w'' r p (setT x 4) (g + 1)) := fun w' hl => by
    have hb := HL.out.trans (hl.mono HL.out.size)
    exact (rep_set (h.later hb) 4 (by decide) (by decide) hg).mono fun e w'' ⟨he, col', hs⟩ => ⟨he, col', ((Since.refl h).later hb).next hs⟩
  clear h
  generalize ticksOf x.id 4 = tk at HF HC
  generalize setT x 4 = x' at HC ⊢
  go_enter Tryz.func120, Tryz.ntmps120
  go_wp2
  go_region
  rw [← hW]
  clear hW c0 c0a e7 e9 HB
  go_wp2
  refine wp_region_S (fun j => j == 8) (by kernel_rfl) ?_
  refine wpAnyS_take (i := 0) (d := some 18) (v := ?vaa0) rfl rfl (by kernel_rfl) (by kernel_rfl) (by kernel_rfl) (by kernel_rfl) (by kernel_rfl) (fun _ _ _ h => h) (by rfl) ?yaa0 ?_
  case yaa0 => (intro w' hw'; go_simp; try (with_reducible rfl))
  simp only [Act.put]; try simp only [List.setIfInBounds_toArray]; try simp only [List.set_cons_zero, List.set_cons_succ]
  refine wpAnyS_take (i := 1) (d := some 19) (v := ?vaa1) rfl rfl (by kernel_rfl) (by kernel_rfl) (by kernel_rfl) (by kernel_rfl) (by kernel_rfl) (fun _ _ _ h => h) (by rfl) ?yaa1 ?_
  case yaa1 => (intro w' hw'; go_simp; try (with_reducible rfl))
  simp only [Act.put]; try simp only [List.setIfInBounds_toArray]; try simp only [List.set_cons_zero, List.set_cons_succ]
  refine wpAnyS_take (i := 2) (d := some 20) (v := ?vaa2) rfl rfl (by kernel_rfl) (by kernel_rfl) (by kernel_rfl) (by kernel_rfl) (by kernel_rfl) (fun _ _ _ h => h) (by rfl) ?yaa2 ?_
  case yaa2 => (intro w' hw'; go_simp; try (with_reducible rfl))
  simp only [Act.put]; try simp only [List.setIfInBounds_toArray]; try simp only [List.set_cons_zero, List.set_cons_succ]
  refine wpAnyS_take (i := 3) (d := some 21) (v := ?vaa3) rfl rfl (by kernel_rfl) (by kernel_rfl) (by kernel_rfl) (by kernel_rfl) (by kernel_rfl) (fun _ _ _ h => h) (by rfl) ?yaa3 ?_
  case yaa3 => (intro w' hw'; have hq := (HF.out w' (D0.out.trans hw')).1; go_simp; try (with_reducible rfl))
  simp only [Act.put]; try simp only [List.setIfInBounds_toArray]; try simp only [List.set_cons_zero, List.set_cons_succ]
  refine wpAnyS_take (i := 4) (d := some 22) (v := ?vaa4) rfl rfl (by kernel_rfl) (by kernel_rfl) (by kernel_rfl) (by kernel_rfl) (by kernel_rfl) (fun _ _ _ h => h) (by rfl) ?yaa4 ?_
  case yaa4 => (intro w' hw'; go_simp; try (with_reducible rfl))
  simp only [Act.put]; try simp only [List.setIfInBounds_toArray]; try simp only [List.set_cons_zero, List.set_cons_succ]
  refine wpAnyS_take (i := 5) (d := some 23) (v := ?vaa5) rfl rfl (by kernel_rfl) (by kernel_rfl) (by kernel_rfl) (by kernel_rfl) (by kernel_rfl) (fun _ _ _ h => h) (by rfl) ?yaa5 ?_
  case yaa5 => (intro w' hw'; go_simp; try (with_reducible rfl))
  simp only [Act.put]; try simp only [List.setIfInBounds_toArray]; try simp only [List.set_cons_zero, List.set_cons_succ]
  refine wpAnyS_take (i := 6) (d := some 24) (v := ?vaa6) rfl rfl (by kernel_rfl) (by kernel_rfl) (by kernel_rfl) (by kernel_rfl) (by kernel_rfl) (fun _ _ _ h => h) (by rfl) ?yaa6 ?_
  case yaa6 => (intro w' hw'; go_simp; try (with_reducible rfl))
  simp only [Act.put]; try simp only [List.setIfInBounds_toArray]; try simp only [List.set_cons_zero, List.set_cons_succ]
  refine wpAnyS_take (i := 7) (d := some 25) (v := ?vaa7) rfl rfl (by kernel_rfl) (by kernel_rfl) (by kernel_rfl) (by kernel_rfl) (by kernel_rfl) (fun _ _ _ h => h) (by rfl) ?yaa7 ?_
  case yaa7 => (intro w' hw'; have hq := (HF.out w' (D0.out.trans hw')).2; go_simp; try (with_reducible rfl))
  simp only [Act.put]; try simp only [List.setIfInBounds_toArray]; try simp only [List.set_cons_zero, List.set_cons_succ]
  refine wpAnyS_write (i := 8) rfl rfl (by kernel_rfl) (by rfl) fun K hK => ?_
  go_simp
  refine (HC.out _ D0.out).mono ?_
  rintro e w2 ⟨rfl, hs⟩
  have HS2 := hide hs
  clear hs
  refine hK.out _ _ ?_
  clear hK K
  try (simp only [Act.put]; try simp only [List.setIfInBounds_toArray]; try simp only [List.set_cons_zero, List.set_cons_succ])
  refine wpAnyS_done (by kernel_rfl) ?_ _
  go_wp2
  go_end0
  exact ⟨rfl, HS2.out⟩
theorem set_any (h : RepAt col q B w r p x g) (tm : Int) (h1 : 1 ≤ tm) (h2 : tm ≤ 4) (hg : g ≤ 900000) :
    Calls Tryz.prog 120 #[.pointer (some ⟨p.s, 0, none⟩), .int .i64 tm] w fun e w' => e = .returned (.tuple #[]) ∧ ∃ col', Since q B w col col' w' r p (setT x tm) (g + 1) := by
  rcases (by omega : tm = 1 ∨ tm = 2 ∨ tm = 3 ∨ tm = 4) with rfl | rfl | rfl | rfl
  · exact set_1 h hg
  · exact set_2 h hg
  · exact set_3 h hg
  · exact set_4 h hg
end
end Go.Proofs.YtaiegmhlgjogmaaGreat
/- A node's timers: one is set alone. -/
namespace Go.Proofs.YtaiegmhlgjogmaaGreat
open Go.RowKit Go.Maps

theorem del_first {y : Int × Int} {L : List (Int × Int)} (h : (y :: L).Pairwise (fun p q => p.2 < q.2)) : Ck.delT (y :: L) y.2 = L := by
  unfold Ck.delT
  rw [List.filter_cons, if_neg (by simp)]
  rw [List.filter_eq_self]
  intro p hp
  have := (List.pairwise_cons.1 h).1 p hp
  simp
  omega
section
variable {col : Nat → Nat} {q B r g : Nat} {w : World} {p : RepP} {x : RepD}
/-- With its first timers gone. -/
def dropT (x : RepD) (k : Nat) : RepD := { x with T := x.T.drop k }

set_option maxHeartbeats 2000000 in
set_option maxRecDepth 100000 in
theorem alone_any (h : RepAt col q B w r p x g) (tm : Int) (h1 : 1 ≤ tm) (h2 : tm ≤ 4) (hg : g ≤ 900000) :
    Calls Tryz.prog 85 #[.pointer (some ⟨p.s, 0, none⟩), .int .i64 tm] w fun e w' => e = .returned (.tuple #[]) ∧ ∃ col', Since q B w col col' w' r p (aloneT x tm) (g + 1) := by
  have C1 := hide (Ck.clk_names h.clk)
  have c9 : w.cell? ⟨p.s, 9, none⟩ = some (.pointer (some ⟨p.c, 0, none⟩)) := h.cell (k := 9) rfl
  have H := hide h
  have G1 := hide h1
  have G2 := hide h2
  clear h h1 h2
  go_enter Tryz.func85, Tryz.ntmps85
  go_wp2_with (fail)
  refine C1.out.mono ?_
  rintro e w1 ⟨A, n, c, rfl, ho, hi, hc, hb⟩
  have hn : n = x.T.length := by rw [← hi.1, Ck.namesT_len]
  have HN : Hid (SlI (fun i => col i = 0) w1 (.slice A n c) (Ck.namesT x.T)) := (SlI.of_own ho hi.2.1).mono (fun i _ hbase => H.out.fresh i hbase)
  have HR := hide (H.out.later hb)
  have HB := hide hb
  have hnx : n ≤ 4 := by rw [hn]; exact H.out.short
  have HE := hide hn
  clear ho hi hb hn C1 c9 hc
  go_wp2
  go_loopw [12] (fun j wr => ∃ (k : Nat) (ck : Nat → Nat), k ≤ n ∧ j = .int .i64 (k : Int) ∧ Since q B w1 col ck wr r p (dropT x k) g) (fun j _ => n - (Go.RowKit.intOf j).toNat)
  case atStart => exact ⟨0, col, by omega, rfl, Since.refl HR.out⟩
  case round =>
    obtain ⟨k, ck, hk, rfl, hs⟩ := hrel
    have HSK := hide hs
    clear hs
    have c9 : wr.cell? ⟨p.s, 9, none⟩ = some (.pointer (some ⟨p.c, 0, none⟩)) := HSK.out.rep.cell (k := 9) rfl
    by_cases hlt : k < n
    · obtain ⟨b, off, rfl, hbl, hcell⟩ := (HN.out.kept (HSK.out.turned.kept fun i e e2 => by unfold hues at e2; omega)).cell (i := k) hlt
      obtain ⟨y, hy⟩ : ∃ y, x.T[k]? = some y := ⟨x.T[k]'(by have := HE.out; omega), List.getElem?_eq_getElem _⟩
      have hym : y ∈ x.T := List.mem_of_getElem? hy
      have hyn := H.out.ok.names y hym
      have hd : x.T.drop k = y :: x.T.drop (k + 1) := by
        obtain ⟨hlt', he⟩ := List.getElem?_eq_some_iff.1 hy
        rw [← he]
        exact List.drop_eq_getElem_cons hlt'
      have hg0 : (Ck.namesT x.T).getD k 0 = y.2 := by simp [Ck.namesT, List.getD, hy]
      rw [hg0] at hcell
      have hdel : Ck.delT (dropT x k).T y.2 = x.T.drop (k + 1) := by
        show Ck.delT (x.T.drop k) y.2 = _
        rw [hd]
        exact del_first (by rw [← hd]; exact H.out.clk.rise.sublist (List.drop_sublist k x.T))
      have CS := hide (rep_stop HSK.out.rep y.2 hyn.1 hyn.2)
      rw [hdel] at CS
      clear hdel hg0 hd hyn hym hy hbl
      obtain ⟨nm, hnm⟩ : ∃ nm, y.2 = nm := ⟨_, rfl⟩
      rw [hnm] at hcell CS
      clear hnm
      go_wp2_with (fail)
      refine CS.out.mono ?_
      rintro e w2 ⟨rfl, c2, hs2⟩
      have HS2 : Hid (Since q B w1 col c2 w2 r p (dropT x (k + 1)) g) := HSK.out.next hs2
      clear hs2 CS
      go_wp2
      go_roundw
      case rel => exact ⟨k + 1, c2, by omega, by go_num, HS2.out⟩
      case measure => simp [Go.RowKit.intOf]; omega
    · obtain rfl : k = n := by omega
      have he : dropT x k = { x with T := [] } := by
        unfold dropT
        rw [List.drop_eq_nil_of_le (by have := HE.out; omega)]
      have CA := hide (set_any HSK.out.rep tm G1.out G2.out hg)
      rw [show setT (dropT x k) tm = aloneT x tm from by rw [he]; rfl] at CA
      clear he
      go_wp2_with (fail)
      refine CA.out.mono ?_
      rintro e w2 ⟨rfl, c2, hs2⟩
      have HS2 : Hid (Since q B w col c2 w2 r p (aloneT x tm) (g + 1)) := ((Since.refl H.out).later HB.out).next (HSK.out.next hs2)
      clear hs2 CA
      go_wp2
      go_end0
      exact ⟨rfl, c2, HS2.out⟩
end
end Go.Proofs.YtaiegmhlgjogmaaGreat
/- A map of structs by ints: cleared, put to at any key. -/
namespace Go.Proofs.YtaiegmhlgjogmaaGreat
open Go.RowKit Go.Maps Go.MapKept Go.ChangeMaps

/-- One more entry, at its place. -/
def insL (t : Int × Value) : List (Int × Value) → List (Int × Value)
  | [] => [t]
  | y :: r => if t.1 < y.1 then t :: y :: r else y :: insL t r
/-- Without that key. -/
def delL (L : List (Int × Value)) (a : Int) : List (Int × Value) := L.filter fun p => !(p.1 == a)
def putL (L : List (Int × Value)) (a : Int) (v : Value) : List (Int × Value) := insL (a, v) (delL L a)
theorem put_mapL (L : List (Int × Value)) (a : Int) (v : Value) : (mapD L).put (.int .i64 a) (.held v) = mapD (putL L a v) := by
  unfold mapD putL
  show DataW.map (DataW.insert _ _) = _
  have e : (L.map fun p : Int × Value => ((.int .i64 p.1, .held p.2) : Lit × DataW Value)).filter (fun p => !p.1.sameKey (.int .i64 a)) = (delL L a).map fun p => (.int .i64 p.1, .held p.2) := by
    unfold delL
    rw [List.filter_map]
    congr 1
    apply List.filter_congr
    intro p _
    simp [Lit.sameKey, Function.comp]
    rfl
  rw [e]
  congr 1
  have hn : ∀ p ∈ delL L a, p.1 ≠ a := fun p hp => by simpa using (List.mem_filter.1 hp).2
  generalize delL L a = M at hn
  clear e
  induction M with
  | nil => rfl
  | cons y r ih =>
    have hy := hn y (by simp)
    have hb : (Lit.int IntKind.i64 a).before (.int .i64 y.1) = decide (a < y.1) := rfl
    simp only [List.map_cons, insL]
    unfold DataW.insert
    by_cases hlt : a < y.1
    · rw [if_pos hlt]
      split
      · rfl
      · rename_i hc
        exact absurd (hb.trans (by simpa using hlt)) hc
    · rw [if_neg hlt]
      split
      · rename_i hc
        exact absurd (hb.symm.trans hc) (by simpa using hlt)
      · simp only [List.map_cons]
        congr 1
        exact ih fun p hp => hn p (by simp [hp])
section
variable {P : Program} {w : World} {ops : Array Oper} {rest : List Oper} {o : Oper} {a : Act} {Q : Exit → Act → World → Prop}
/-- 'clear(m)': the map has nothing, no other block has turned. -/
theorem clear_run {H : Type} {k e t : TypeId} {R : Value → Option (DataW H × List MemPlace)} {b n : Nat} {D : DataW H} (h : w.ownsMap P k R b n D) (ht : P.underlying t = some (.map k e)) (ty : TypeId) :
    ∃ w', (Builtin.clear_ #[t] ty #[.map (some b)]).run P w = .ok (.tuple #[]) w' ∧ w'.ownsMap P k R b n (.map []) ∧ w.grownBy w' (some b) := by
  obtain ⟨es, clock, hb, F, hs, rfl⟩ := h
  refine ⟨setBlock w b (.map #[] clock), ?_, ⟨#[], clock, heap_setBlock_same hb _, ⟨by simp, stamped_empty clock, by simp⟩, Nat.zero_le _, rfl⟩, World.mapTurned.grown ⟨es, clock, #[], clock, hb, rfl⟩⟩
  simp [Builtin.clear_, run_underlying ht, MapKept.run_getObj_map hb, MapKept.run_setObj_map _ hb, Result.andThen, setBlock]
theorem wpList_clear_held (hg : o.guard = none) (m : Operand) (t : TypeId) (hop : o.op = Op.call { callee := Callee.builtin Builtin.clear, args := #[m], argTypes := #[t] })
    (k e : TypeId) (ht : P.underlying t = some (.map k e)) (b n : Nat) (L : List (Int × Value)) (hm : a.eval m = .map (some b)) (hown : w.ownsMap P k heldR b n (mapD L))
    (hK : ∀ w', w'.ownsMap P k heldR b n (mapD []) → w.grownBy w' (some b) → wpList P ops Q rest (a.put o.dst (.tuple #[])) w') : wpList P ops Q (o :: rest) a w := by
  refine wpList_plain hg fun K' hK' => ?_
  obtain ⟨w', hrun, r1, r2⟩ := clear_run hown ht o.type
  unfold Oper.wp
  simp [execOp, hop, resolve, invoke, builtin, hm, hrun, Result.andThen]
  exact hK' _ _ (hK w' r1 r2)
/-- 'm[k] = v' at any key. -/
theorem wpList_put_held (hg : o.guard = none) (m x v : Operand) (t : TypeId) (hop : o.op = Op.mapUpdate t m x v) (k e : TypeId) (Kd : Maps.Keyed P k) (ht : P.underlying t = some (.map k e)) (b n : Nat) (L : List (Int × Value))
    (hm : a.eval m = .map (some b)) (hown : w.ownsMap P k heldR b n (mapD L)) (hn : n < maxLen) (key : Int) (val : Value) (hx : a.eval x = .int .i64 key) (hv : a.eval v = val) (hkey : keyOf P k (Value.int .i64 key) = some (Lit.int .i64 key))
    (hK : ∀ w', w'.ownsMap P k heldR b (n + 1) (mapD (putL L key val)) → w.grownBy w' (some b) → wpList P ops Q rest (a.put o.dst undef) w') : wpList P ops Q (o :: rest) a w := by
  refine wpList_plain hg fun K' hK' => ?_
  obtain ⟨w', hrun, r1, r2⟩ := hown.store Kd ht hn hkey (val := val) (d := .held val) (ps := []) rfl
  rw [put_mapL L key val] at r1
  unfold Oper.wp
  simp [execOp, hop, hm, hx, hv, hrun, Result.andThen]
  exact hK' _ _ (hK w' r1 r2.grown)
end
end Go.Proofs.YtaiegmhlgjogmaaGreat
/- The walk over Leads of package vr: does a node lead? -/
namespace Go.Proofs.YtaiegmhlgjogmaaGreat
open Go.RowKit

def leadsB (id n ph v : Int) : Bool := decide (ph = 1) && decide (1 ≤ id) && decide (id = leadI v n)

set_option maxHeartbeats 2000000 in
theorem leads_any (id n ph v last : Int) (w : World) :
    Calls Tryz.prog 52 #[.agg #[.int .i64 id, .int .i64 n, .int .i64 ph, .int .i64 v, .int .i64 last]] w fun e w' => e = .returned (.bool (leadsB id n ph v)) ∧ Later w w' := by
  have C := hide (leader_any v n)
  obtain ⟨l, hl⟩ : ∃ l, leadI v n = l := ⟨_, rfl⟩
  rw [hl] at C
  have HL := hide hl
  clear hl
  have HB : Hid (Later w (w.alloc (.cells #[.int .i64 id, .int .i64 n, .int .i64 ph, .int .i64 v, .int .i64 last] 76 (0, 0)))) := (Below.refl _ _).alloc (Nat.le_refl _) _
  have HS : Hid (∀ w', Later (w.alloc (.cells #[.int .i64 id, .int .i64 n, .int .i64 ph, .int .i64 v, .int .i64 last] 76 (0, 0))) w' → w'.heap[w.heap.size]? = some (.cells #[.int .i64 id, .int .i64 n, .int .i64 ph, .int .i64 v, .int .i64 last] 76 (0, 0))) := fun w' h => (Below.block h w.heap.size (by simp)).trans (heap_alloc_new _ _)
  have LD : Hid (Later (w.alloc (.cells #[.int .i64 id, .int .i64 n, .int .i64 ph, .int .i64 v, .int .i64 last] 76 (0, 0))) (w.alloc (.cells #[.int .i64 id, .int .i64 n, .int .i64 ph, .int .i64 v, .int .i64 last] 76 (0, 0))).drew) := (Below.refl _ _).drew
  by_cases h1 : ph = 1
  · subst h1
    by_cases h2 : 1 ≤ id
    · have H2 := hide h2
      go_enter Tryz.func52, Tryz.ntmps52
      go_wp2
      have HT : Hid (decide (1 ≤ id) = true) := by show _ = _; have := H2.out; simpa using this
      refine wp_region_L (by kernel_rfl) ?_
      refine wpAnyL_take (i := 0) (d := some 3) (v := ?vaq20) rfl rfl (by kernel_rfl) (by kernel_rfl) (by kernel_rfl) (fun _ _ _ h => h) (by rfl) ?yaq20 ?_
      case yaq20 => (intro w' hw'; go_simp; try (with_reducible rfl))
      simp only [Act.put]; try simp only [List.setIfInBounds_toArray]; try simp only [List.set_cons_zero, List.set_cons_succ]
      refine wpAnyL_take (i := 1) (d := some 4) (v := ?vaq21) rfl rfl (by kernel_rfl) (by kernel_rfl) (by kernel_rfl) (fun _ _ _ h => h) (by rfl) ?yaq21 ?_
      case yaq21 => (intro w' hw'; have hx : w'.cell? ⟨w.heap.size, 2, none⟩ = some (.int .i64 1) := cell_of_row w' _ 2 _ _ _ (HS.out w' (LD.out.trans hw')); go_simp; try (with_reducible rfl))
      simp only [Act.put]; try simp only [List.setIfInBounds_toArray]; try simp only [List.set_cons_zero, List.set_cons_succ]
      refine wpAnyL_take (i := 2) (d := some 5) (v := .bool true) rfl rfl (by kernel_rfl) (by kernel_rfl) (by kernel_rfl) (fun _ _ _ h => h) (by rfl) ?yaq22 ?_
      case yaq22 => (intro w' hw'; go_simp; try (with_reducible rfl))
      simp only [Act.put]; try simp only [List.setIfInBounds_toArray]; try simp only [List.set_cons_zero, List.set_cons_succ]
      refine wpAnyL_take (i := 3) (d := some 6) (v := ?vaq23) rfl rfl (by kernel_rfl) (by kernel_rfl) (by kernel_rfl) (fun _ _ _ h => h) (by rfl) ?yaq23 ?_
      case yaq23 => (intro w' hw'; go_simp; try (with_reducible rfl))
      simp only [Act.put]; try simp only [List.setIfInBounds_toArray]; try simp only [List.set_cons_zero, List.set_cons_succ]
      refine wpAnyL_take (i := 4) (d := some 7) (v := ?vaq24) rfl rfl (by kernel_rfl) (by kernel_rfl) (by kernel_rfl) (fun _ _ _ h => h) (by rfl) ?yaq24 ?_
      case yaq24 => (intro w' hw'; go_simp; try (with_reducible rfl))
      simp only [Act.put]; try simp only [List.setIfInBounds_toArray]; try simp only [List.set_cons_zero, List.set_cons_succ]
      refine wpAnyL_take (i := 5) (d := some 8) (v := ?vaq25) rfl rfl (by kernel_rfl) (by kernel_rfl) (by kernel_rfl) (fun _ _ _ h => h) (by rfl) ?yaq25 ?_
      case yaq25 => (intro w' hw'; have hx : w'.cell? ⟨w.heap.size, 0, none⟩ = some (.int .i64 id) := cell_of_row w' _ 0 _ _ _ (HS.out w' (LD.out.trans hw')); go_simp; try (with_reducible rfl))
      simp only [Act.put]; try simp only [List.setIfInBounds_toArray]; try simp only [List.set_cons_zero, List.set_cons_succ]
      refine wpAnyL_take (i := 6) (d := some 9) (v := .bool true) rfl rfl (by kernel_rfl) (by kernel_rfl) (by kernel_rfl) (fun _ _ _ h => h) (by rfl) ?yaq26 ?_
      case yaq26 => (intro w' hw'; (go_simp; try rw [HT.out]))
      simp only [Act.put]; try simp only [List.setIfInBounds_toArray]; try simp only [List.set_cons_zero, List.set_cons_succ]
      refine wpAnyL_take (i := 7) (d := some 10) (v := .bool true) rfl rfl (by kernel_rfl) (by kernel_rfl) (by kernel_rfl) (fun _ _ _ h => h) (by rfl) ?yaq27 ?_
      case yaq27 => (intro w' hw'; go_simp; try (with_reducible rfl))
      simp only [Act.put]; try simp only [List.setIfInBounds_toArray]; try simp only [List.set_cons_zero, List.set_cons_succ]
      refine wpAnyL_take (i := 8) (d := some 11) (v := ?vaq28) rfl rfl (by kernel_rfl) (by kernel_rfl) (by kernel_rfl) (fun _ _ _ h => h) (by rfl) ?yaq28 ?_
      case yaq28 => (intro w' hw'; go_simp; try (with_reducible rfl))
      simp only [Act.put]; try simp only [List.setIfInBounds_toArray]; try simp only [List.set_cons_zero, List.set_cons_succ]
      refine wpAnyL_take (i := 9) (d := some 12) (v := ?vaq29) rfl rfl (by kernel_rfl) (by kernel_rfl) (by kernel_rfl) (fun _ _ _ h => h) (by rfl) ?yaq29 ?_
      case yaq29 => (intro w' hw'; go_simp; try (with_reducible rfl))
      simp only [Act.put]; try simp only [List.setIfInBounds_toArray]; try simp only [List.set_cons_zero, List.set_cons_succ]
      refine wpAnyL_take (i := 10) (d := some 13) (v := ?vaq210) rfl rfl (by kernel_rfl) (by kernel_rfl) (by kernel_rfl) (fun _ _ _ h => h) (by rfl) ?yaq210 ?_
      case yaq210 => (intro w' hw'; have hx : w'.cell? ⟨w.heap.size, 0, none⟩ = some (.int .i64 id) := cell_of_row w' _ 0 _ _ _ (HS.out w' (LD.out.trans hw')); go_simp; try (with_reducible rfl))
      simp only [Act.put]; try simp only [List.setIfInBounds_toArray]; try simp only [List.set_cons_zero, List.set_cons_succ]
      refine wpAnyL_take (i := 11) (d := some 14) (v := ?vaq211) rfl rfl (by kernel_rfl) (by kernel_rfl) (by kernel_rfl) (fun _ _ _ h => h) (by rfl) ?yaq211 ?_
      case yaq211 => (intro w' hw'; go_simp; try (with_reducible rfl))
      simp only [Act.put]; try simp only [List.setIfInBounds_toArray]; try simp only [List.set_cons_zero, List.set_cons_succ]
      refine wpAnyL_take (i := 12) (d := some 15) (v := ?vaq212) rfl rfl (by kernel_rfl) (by kernel_rfl) (by kernel_rfl) (fun _ _ _ h => h) (by rfl) ?yaq212 ?_
      case yaq212 => (intro w' hw'; have hx : w'.cell? ⟨w.heap.size, 3, none⟩ = some (.int .i64 v) := cell_of_row w' _ 3 _ _ _ (HS.out w' (LD.out.trans hw')); go_simp; try (with_reducible rfl))
      simp only [Act.put]; try simp only [List.setIfInBounds_toArray]; try simp only [List.set_cons_zero, List.set_cons_succ]
      refine wpAnyL_take (i := 13) (d := some 16) (v := ?vaq213) rfl rfl (by kernel_rfl) (by kernel_rfl) (by kernel_rfl) (fun _ _ _ h => h) (by rfl) ?yaq213 ?_
      case yaq213 => (intro w' hw'; go_simp; try (with_reducible rfl))
      simp only [Act.put]; try simp only [List.setIfInBounds_toArray]; try simp only [List.set_cons_zero, List.set_cons_succ]
      refine wpAnyL_take (i := 14) (d := some 17) (v := ?vaq214) rfl rfl (by kernel_rfl) (by kernel_rfl) (by kernel_rfl) (fun _ _ _ h => h) (by rfl) ?yaq214 ?_
      case yaq214 => (intro w' hw'; have hx : w'.cell? ⟨w.heap.size, 1, none⟩ = some (.int .i64 n) := cell_of_row w' _ 1 _ _ _ (HS.out w' (LD.out.trans hw')); go_simp; try (with_reducible rfl))
      simp only [Act.put]; try simp only [List.setIfInBounds_toArray]; try simp only [List.set_cons_zero, List.set_cons_succ]
      refine wpAnyL_only (i := 15) rfl (by kernel_rfl) (by rfl) fun K hK => ?_
      go_simp
      refine (C.out _).mono ?_
      rintro e w1 ⟨rfl, hq⟩
      obtain rfl := hq.symm
      refine hK.out _ _ (Below.refl _ _) ?_
      clear hK K
      try (simp only [Act.put]; try simp only [List.setIfInBounds_toArray]; try simp only [List.set_cons_zero, List.set_cons_succ])
      refine wpAnyL_take (i := 16) (d := some 19) (v := ?vaq216) rfl rfl (by kernel_rfl) (by kernel_rfl) (by kernel_rfl) (fun _ _ _ h => h) (by rfl) ?yaq216 ?_
      case yaq216 => (intro w' hw'; go_simp; try (with_reducible rfl))
      simp only [Act.put]; try simp only [List.setIfInBounds_toArray]; try simp only [List.set_cons_zero, List.set_cons_succ]
      refine wpAnyL_take (i := 17) (d := some 20) (v := ?vaq217) rfl rfl (by kernel_rfl) (by kernel_rfl) (by kernel_rfl) (fun _ _ _ h => h) (by rfl) ?yaq217 ?_
      case yaq217 => (intro w' hw'; go_simp; try (with_reducible rfl))
      simp only [Act.put]; try simp only [List.setIfInBounds_toArray]; try simp only [List.set_cons_zero, List.set_cons_succ]
      refine wpAnyL_take (i := 18) (d := some 2) (v := ?vaq218) rfl rfl (by kernel_rfl) (by kernel_rfl) (by kernel_rfl) (fun _ _ _ h => h) (by rfl) ?yaq218 ?_
      case yaq218 => (intro w' hw'; go_simp; try (with_reducible rfl))
      simp only [Act.put]; try simp only [List.setIfInBounds_toArray]; try simp only [List.set_cons_zero, List.set_cons_succ]
      refine wpAnyL_done (by kernel_rfl) ?_ _
      go_wp2
      go_ret
      exact ⟨ret_bool (by unfold leadsB; rw [HL.out]; have := H2.out; simp [this]; rfl), HB.out.trans LD.out⟩
    · have H2 := hide h2
      go_enter Tryz.func52, Tryz.ntmps52
      go_wp2
      have HT : Hid (decide (1 ≤ id) = false) := by show _ = _; have := H2.out; simpa using this
      refine wp_region_L (by kernel_rfl) ?_
      refine wpAnyL_take (i := 0) (d := some 3) (v := ?vaq10) rfl rfl (by kernel_rfl) (by kernel_rfl) (by kernel_rfl) (fun _ _ _ h => h) (by rfl) ?yaq10 ?_
      case yaq10 => (intro w' hw'; go_simp; try (with_reducible rfl))
      simp only [Act.put]; try simp only [List.setIfInBounds_toArray]; try simp only [List.set_cons_zero, List.set_cons_succ]
      refine wpAnyL_take (i := 1) (d := some 4) (v := ?vaq11) rfl rfl (by kernel_rfl) (by kernel_rfl) (by kernel_rfl) (fun _ _ _ h => h) (by rfl) ?yaq11 ?_
      case yaq11 => (intro w' hw'; have hx : w'.cell? ⟨w.heap.size, 2, none⟩ = some (.int .i64 1) := cell_of_row w' _ 2 _ _ _ (HS.out w' (LD.out.trans hw')); go_simp; try (with_reducible rfl))
      simp only [Act.put]; try simp only [List.setIfInBounds_toArray]; try simp only [List.set_cons_zero, List.set_cons_succ]
      refine wpAnyL_take (i := 2) (d := some 5) (v := .bool true) rfl rfl (by kernel_rfl) (by kernel_rfl) (by kernel_rfl) (fun _ _ _ h => h) (by rfl) ?yaq12 ?_
      case yaq12 => (intro w' hw'; go_simp; try (with_reducible rfl))
      simp only [Act.put]; try simp only [List.setIfInBounds_toArray]; try simp only [List.set_cons_zero, List.set_cons_succ]
      refine wpAnyL_take (i := 3) (d := some 6) (v := ?vaq13) rfl rfl (by kernel_rfl) (by kernel_rfl) (by kernel_rfl) (fun _ _ _ h => h) (by rfl) ?yaq13 ?_
      case yaq13 => (intro w' hw'; go_simp; try (with_reducible rfl))
      simp only [Act.put]; try simp only [List.setIfInBounds_toArray]; try simp only [List.set_cons_zero, List.set_cons_succ]
      refine wpAnyL_take (i := 4) (d := some 7) (v := ?vaq14) rfl rfl (by kernel_rfl) (by kernel_rfl) (by kernel_rfl) (fun _ _ _ h => h) (by rfl) ?yaq14 ?_
      case yaq14 => (intro w' hw'; go_simp; try (with_reducible rfl))
      simp only [Act.put]; try simp only [List.setIfInBounds_toArray]; try simp only [List.set_cons_zero, List.set_cons_succ]
      refine wpAnyL_take (i := 5) (d := some 8) (v := ?vaq15) rfl rfl (by kernel_rfl) (by kernel_rfl) (by kernel_rfl) (fun _ _ _ h => h) (by rfl) ?yaq15 ?_
      case yaq15 => (intro w' hw'; have hx : w'.cell? ⟨w.heap.size, 0, none⟩ = some (.int .i64 id) := cell_of_row w' _ 0 _ _ _ (HS.out w' (LD.out.trans hw')); go_simp; try (with_reducible rfl))
      simp only [Act.put]; try simp only [List.setIfInBounds_toArray]; try simp only [List.set_cons_zero, List.set_cons_succ]
      refine wpAnyL_take (i := 6) (d := some 9) (v := .bool false) rfl rfl (by kernel_rfl) (by kernel_rfl) (by kernel_rfl) (fun _ _ _ h => h) (by rfl) ?yaq16 ?_
      case yaq16 => (intro w' hw'; (go_simp; try rw [HT.out]))
      simp only [Act.put]; try simp only [List.setIfInBounds_toArray]; try simp only [List.set_cons_zero, List.set_cons_succ]
      refine wpAnyL_take (i := 7) (d := some 10) (v := .bool false) rfl rfl (by kernel_rfl) (by kernel_rfl) (by kernel_rfl) (fun _ _ _ h => h) (by rfl) ?yaq17 ?_
      case yaq17 => (intro w' hw'; go_simp; try (with_reducible rfl))
      simp only [Act.put]; try simp only [List.setIfInBounds_toArray]; try simp only [List.set_cons_zero, List.set_cons_succ]
      refine wpAnyL_take (i := 8) (d := some 11) (v := ?vaq18) rfl rfl (by kernel_rfl) (by kernel_rfl) (by kernel_rfl) (fun _ _ _ h => h) (by rfl) ?yaq18 ?_
      case yaq18 => (intro w' hw'; go_simp; try (with_reducible rfl))
      simp only [Act.put]; try simp only [List.setIfInBounds_toArray]; try simp only [List.set_cons_zero, List.set_cons_succ]
      refine wpAnyL_pass (i := 9) (d := some 12) rfl rfl (by kernel_rfl) (by kernel_rfl) (by kernel_rfl) (fun _ _ _ h => h) (by rfl) ?_
      try (simp only [Act.put]; try simp only [List.setIfInBounds_toArray]; try simp only [List.set_cons_zero, List.set_cons_succ])
      refine wpAnyL_pass (i := 10) (d := some 13) rfl rfl (by kernel_rfl) (by kernel_rfl) (by kernel_rfl) (fun _ _ _ h => h) (by rfl) ?_
      try (simp only [Act.put]; try simp only [List.setIfInBounds_toArray]; try simp only [List.set_cons_zero, List.set_cons_succ])
      refine wpAnyL_pass (i := 11) (d := some 14) rfl rfl (by kernel_rfl) (by kernel_rfl) (by kernel_rfl) (fun _ _ _ h => h) (by rfl) ?_
      try (simp only [Act.put]; try simp only [List.setIfInBounds_toArray]; try simp only [List.set_cons_zero, List.set_cons_succ])
      refine wpAnyL_pass (i := 12) (d := some 15) rfl rfl (by kernel_rfl) (by kernel_rfl) (by kernel_rfl) (fun _ _ _ h => h) (by rfl) ?_
      try (simp only [Act.put]; try simp only [List.setIfInBounds_toArray]; try simp only [List.set_cons_zero, List.set_cons_succ])
      refine wpAnyL_pass (i := 13) (d := some 16) rfl rfl (by kernel_rfl) (by kernel_rfl) (by kernel_rfl) (fun _ _ _ h => h) (by rfl) ?_
      try (simp only [Act.put]; try simp only [List.setIfInBounds_toArray]; try simp only [List.set_cons_zero, List.set_cons_succ])
      refine wpAnyL_pass (i := 14) (d := some 17) rfl rfl (by kernel_rfl) (by kernel_rfl) (by kernel_rfl) (fun _ _ _ h => h) (by rfl) ?_
      try (simp only [Act.put]; try simp only [List.setIfInBounds_toArray]; try simp only [List.set_cons_zero, List.set_cons_succ])
      refine wpAnyL_pass (i := 15) (d := some 18) rfl rfl (by kernel_rfl) (by kernel_rfl) (by kernel_rfl) (fun _ _ _ h => h) (by rfl) ?_
      try (simp only [Act.put]; try simp only [List.setIfInBounds_toArray]; try simp only [List.set_cons_zero, List.set_cons_succ])
      refine wpAnyL_pass (i := 16) (d := some 19) rfl rfl (by kernel_rfl) (by kernel_rfl) (by kernel_rfl) (fun _ _ _ h => h) (by rfl) ?_
      try (simp only [Act.put]; try simp only [List.setIfInBounds_toArray]; try simp only [List.set_cons_zero, List.set_cons_succ])
      refine wpAnyL_take (i := 17) (d := some 20) (v := .bool false) rfl rfl (by kernel_rfl) (by kernel_rfl) (by kernel_rfl) (fun _ _ _ h => h) (by rfl) ?yaq117 ?_
      case yaq117 => (intro w' hw'; go_simp; try (with_reducible rfl))
      simp only [Act.put]; try simp only [List.setIfInBounds_toArray]; try simp only [List.set_cons_zero, List.set_cons_succ]
      refine wpAnyL_take (i := 18) (d := some 2) (v := ?vaq118) rfl rfl (by kernel_rfl) (by kernel_rfl) (by kernel_rfl) (fun _ _ _ h => h) (by rfl) ?yaq118 ?_
      case yaq118 => (intro w' hw'; go_simp; try (with_reducible rfl))
      simp only [Act.put]; try simp only [List.setIfInBounds_toArray]; try simp only [List.set_cons_zero, List.set_cons_succ]
      refine wpAnyL_done (by kernel_rfl) ?_ _
      go_wp2
      go_ret
      exact ⟨ret_bool (by unfold leadsB; rw [show decide (1 ≤ id) = false from HT.out, Bool.and_false]; rfl), HB.out.trans LD.out⟩
  · have H1 := hide h1
    have HT : Hid ((ph == 1) = false) := by show _ = _; simpa using h1
    go_enter Tryz.func52, Tryz.ntmps52
    go_wp2
    refine wp_region_L (by kernel_rfl) ?_
    refine wpAnyL_take (i := 0) (d := some 3) (v := ?vaq00) rfl rfl (by kernel_rfl) (by kernel_rfl) (by kernel_rfl) (fun _ _ _ h => h) (by rfl) ?yaq00 ?_
    case yaq00 => (intro w' hw'; go_simp; try (with_reducible rfl))
    simp only [Act.put]; try simp only [List.setIfInBounds_toArray]; try simp only [List.set_cons_zero, List.set_cons_succ]
    refine wpAnyL_take (i := 1) (d := some 4) (v := ?vaq01) rfl rfl (by kernel_rfl) (by kernel_rfl) (by kernel_rfl) (fun _ _ _ h => h) (by rfl) ?yaq01 ?_
    case yaq01 => (intro w' hw'; have hx : w'.cell? ⟨w.heap.size, 2, none⟩ = some (.int .i64 ph) := cell_of_row w' _ 2 _ _ _ (HS.out w' (LD.out.trans hw')); go_simp; try (with_reducible rfl))
    simp only [Act.put]; try simp only [List.setIfInBounds_toArray]; try simp only [List.set_cons_zero, List.set_cons_succ]
    refine wpAnyL_take (i := 2) (d := some 5) (v := .bool false) rfl rfl (by kernel_rfl) (by kernel_rfl) (by kernel_rfl) (fun _ _ _ h => h) (by rfl) ?yaq02 ?_
    case yaq02 => (intro w' hw'; (go_simp; try rw [HT.out]))
    simp only [Act.put]; try simp only [List.setIfInBounds_toArray]; try simp only [List.set_cons_zero, List.set_cons_succ]
    refine wpAnyL_take (i := 3) (d := some 6) (v := ?vaq03) rfl rfl (by kernel_rfl) (by kernel_rfl) (by kernel_rfl) (fun _ _ _ h => h) (by rfl) ?yaq03 ?_
    case yaq03 => (intro w' hw'; go_simp; try (with_reducible rfl))
    simp only [Act.put]; try simp only [List.setIfInBounds_toArray]; try simp only [List.set_cons_zero, List.set_cons_succ]
    refine wpAnyL_pass (i := 4) (d := some 7) rfl rfl (by kernel_rfl) (by kernel_rfl) (by kernel_rfl) (fun _ _ _ h => h) (by rfl) ?_
    try (simp only [Act.put]; try simp only [List.setIfInBounds_toArray]; try simp only [List.set_cons_zero, List.set_cons_succ])
    refine wpAnyL_pass (i := 5) (d := some 8) rfl rfl (by kernel_rfl) (by kernel_rfl) (by kernel_rfl) (fun _ _ _ h => h) (by rfl) ?_
    try (simp only [Act.put]; try simp only [List.setIfInBounds_toArray]; try simp only [List.set_cons_zero, List.set_cons_succ])
    refine wpAnyL_pass (i := 6) (d := some 9) rfl rfl (by kernel_rfl) (by kernel_rfl) (by kernel_rfl) (fun _ _ _ h => h) (by rfl) ?_
    try (simp only [Act.put]; try simp only [List.setIfInBounds_toArray]; try simp only [List.set_cons_zero, List.set_cons_succ])
    refine wpAnyL_take (i := 7) (d := some 10) (v := .bool false) rfl rfl (by kernel_rfl) (by kernel_rfl) (by kernel_rfl) (fun _ _ _ h => h) (by rfl) ?yaq07 ?_
    case yaq07 => (intro w' hw'; go_simp; try (with_reducible rfl))
    simp only [Act.put]; try simp only [List.setIfInBounds_toArray]; try simp only [List.set_cons_zero, List.set_cons_succ]
    refine wpAnyL_take (i := 8) (d := some 11) (v := ?vaq08) rfl rfl (by kernel_rfl) (by kernel_rfl) (by kernel_rfl) (fun _ _ _ h => h) (by rfl) ?yaq08 ?_
    case yaq08 => (intro w' hw'; go_simp; try (with_reducible rfl))
    simp only [Act.put]; try simp only [List.setIfInBounds_toArray]; try simp only [List.set_cons_zero, List.set_cons_succ]
    refine wpAnyL_pass (i := 9) (d := some 12) rfl rfl (by kernel_rfl) (by kernel_rfl) (by kernel_rfl) (fun _ _ _ h => h) (by rfl) ?_
    try (simp only [Act.put]; try simp only [List.setIfInBounds_toArray]; try simp only [List.set_cons_zero, List.set_cons_succ])
    refine wpAnyL_pass (i := 10) (d := some 13) rfl rfl (by kernel_rfl) (by kernel_rfl) (by kernel_rfl) (fun _ _ _ h => h) (by rfl) ?_
    try (simp only [Act.put]; try simp only [List.setIfInBounds_toArray]; try simp only [List.set_cons_zero, List.set_cons_succ])
    refine wpAnyL_pass (i := 11) (d := some 14) rfl rfl (by kernel_rfl) (by kernel_rfl) (by kernel_rfl) (fun _ _ _ h => h) (by rfl) ?_
    try (simp only [Act.put]; try simp only [List.setIfInBounds_toArray]; try simp only [List.set_cons_zero, List.set_cons_succ])
    refine wpAnyL_pass (i := 12) (d := some 15) rfl rfl (by kernel_rfl) (by kernel_rfl) (by kernel_rfl) (fun _ _ _ h => h) (by rfl) ?_
    try (simp only [Act.put]; try simp only [List.setIfInBounds_toArray]; try simp only [List.set_cons_zero, List.set_cons_succ])
    refine wpAnyL_pass (i := 13) (d := some 16) rfl rfl (by kernel_rfl) (by kernel_rfl) (by kernel_rfl) (fun _ _ _ h => h) (by rfl) ?_
    try (simp only [Act.put]; try simp only [List.setIfInBounds_toArray]; try simp only [List.set_cons_zero, List.set_cons_succ])
    refine wpAnyL_pass (i := 14) (d := some 17) rfl rfl (by kernel_rfl) (by kernel_rfl) (by kernel_rfl) (fun _ _ _ h => h) (by rfl) ?_
    try (simp only [Act.put]; try simp only [List.setIfInBounds_toArray]; try simp only [List.set_cons_zero, List.set_cons_succ])
    refine wpAnyL_pass (i := 15) (d := some 18) rfl rfl (by kernel_rfl) (by kernel_rfl) (by kernel_rfl) (fun _ _ _ h => h) (by rfl) ?_
    try (simp only [Act.put]; try simp only [List.setIfInBounds_toArray]; try simp only [List.set_cons_zero, List.set_cons_succ])
    refine wpAnyL_pass (i := 16) (d := some 19) rfl rfl (by kernel_rfl) (by kernel_rfl) (by kernel_rfl) (fun _ _ _ h => h) (by rfl) ?_
    try (simp only [Act.put]; try simp only [List.setIfInBounds_toArray]; try simp only [List.set_cons_zero, List.set_cons_succ])
    refine wpAnyL_take (i := 17) (d := some 20) (v := .bool false) rfl rfl (by kernel_rfl) (by kernel_rfl) (by kernel_rfl) (fun _ _ _ h => h) (by rfl) ?yaq017 ?_
    case yaq017 => (intro w' hw'; go_simp; try (with_reducible rfl))
    simp only [Act.put]; try simp only [List.setIfInBounds_toArray]; try simp only [List.set_cons_zero, List.set_cons_succ]
    refine wpAnyL_take (i := 18) (d := some 2) (v := ?vaq018) rfl rfl (by kernel_rfl) (by kernel_rfl) (by kernel_rfl) (fun _ _ _ h => h) (by rfl) ?yaq018 ?_
    case yaq018 => (intro w' hw'; go_simp; try (with_reducible rfl))
    simp only [Act.put]; try simp only [List.setIfInBounds_toArray]; try simp only [List.set_cons_zero, List.set_cons_succ]
    refine wpAnyL_done (by kernel_rfl) ?_ _
    go_wp2
    go_ret
    exact ⟨ret_bool (by unfold leadsB; rw [show decide (ph = 1) = false from by simpa using H1.out]; rfl), HB.out.trans LD.out⟩
end Go.Proofs.YtaiegmhlgjogmaaGreat
/- A node forgets what it kept; it takes part in a view. -/
namespace Go.Proofs.YtaiegmhlgjogmaaGreat
open Go.RowKit Go.Maps

section
variable {col : Nat → Nat} {q B r g : Nat} {w : World} {p : RepP} {x : RepD}
def forgetR (x : RepD) : RepD := { x with kept := [], told := false }
def inView (x : RepD) (v : Int) : RepD := { x with view := v, last := v, phase := 1 }
/-- Which timer runs in a view. -/
def beatOr (x : RepD) (v : Int) : Int := if leadsB x.id x.n 1 v then 1 else 2
def enterR (x : RepD) (v : Int) : RepD := aloneT (forgetR (inView x v)) (beatOr x v)

theorem forget_ok (ok : x.OK g) : (forgetR x).OK g := ⟨ok.id, ok.n, ok.view, ok.last, ok.nonce, ok.incs, ok.taken, ok.now, ok.names, ok.later, by simp [forgetR], by simp [forgetR], by simp [forgetR]⟩
/-- A cell of its state is written. -/
theorem RepAt.put {x' : RepD} {k : Nat} {v : Value} {w' : World} (h : RepAt col q B w r p x g) (hw : w' = w.setCell ⟨p.s, k, none⟩ v) (hc : (x.cells p).set k v = x'.cells p)
    (hx : x'.log = x.log ∧ x'.com = x.com ∧ x'.now = x.now ∧ x'.T = x.T ∧ x'.kept = x.kept) (hi : x'.iv = x.iv ∧ x'.incs = x.incs) (ok : x'.OK g) : Since q B w col col w' r p x' g := by
  subst hw
  refine h.state (grown_set w p.s k v) ?_ hx (by rw [hi.1, hi.2]; exact h.incs) ok
  rw [heap_setCell_same w p.s k _ _ v h.scell, List.setIfInBounds_toArray, hc]

set_option maxHeartbeats 2000000 in
set_option maxRecDepth 100000 in
theorem forget_any (h : RepAt col q B w r p x g) : Calls Tryz.prog 84 #[.pointer (some ⟨p.s, 0, none⟩)] w fun e w' => e = .returned (.tuple #[]) ∧ Since q B w col col w' r p (forgetR x) g := by
  have H := hide h
  have c10 : w.cell? ⟨p.s, 10, none⟩ = some (.map (some p.b)) := h.cell (k := 10) rfl
  have HM := hide h.map
  clear h
  go_enter Tryz.func84, Tryz.ntmps84
  have ok1 : ({ x with kept := [] } : RepD).OK g := ⟨H.out.ok.id, H.out.ok.n, H.out.ok.view, H.out.ok.last, H.out.ok.nonce, H.out.ok.incs, H.out.ok.taken, H.out.ok.now, H.out.ok.names, H.out.ok.later, by simp, by simp, by simp⟩
  have OK1 := hide ok1
  clear ok1
  go_wp2_with (refine wpList_clear_held (by rfl) _ 104 (by rfl) 3 177 Tryz.underlying104 p.b g _ (by rfl) HM.out ?_; intro w2 hm2 hg2; have HS := hide (H.out.maps (L' := []) hg2 hm2 (Nat.le_refl _) (by simp) OK1.out); have c11 : w2.cell? ⟨p.s, 11, none⟩ = some (.bool x.told) := HS.out.rep.cell (k := 11) rfl; have f11 : w2.frozen? ⟨p.s, 11, none⟩ = false := HS.out.rep.free 11; clear hm2 hg2 c10)
  go_end0
  exact ⟨rfl, HS.out.next (HS.out.rep.put rfl rfl ⟨rfl, rfl, rfl, rfl, rfl⟩ ⟨rfl, rfl⟩ (forget_ok H.out.ok))⟩

set_option maxHeartbeats 2000000 in
set_option maxRecDepth 100000 in
theorem enter_any (h : RepAt col q B w r p x g) (v : Int) (hv1 : 0 ≤ v) (hv2 : v ≤ 1099511627776 + g) (hg : g ≤ 900000) :
    Calls Tryz.prog 34 #[.pointer (some ⟨p.s, 0, none⟩), .int .i64 v] w fun e w' => e = .returned (.tuple #[]) ∧ ∃ col', Since q B w col col' w' r p (enterR x v) (g + 1) := by
  have H := hide h
  have c2 : w.cell? ⟨p.s, 2, none⟩ = some (.int .i64 x.phase) := h.cell (k := 2) rfl
  have c3 : w.cell? ⟨p.s, 3, none⟩ = some (.int .i64 x.view) := h.cell (k := 3) rfl
  have c4 : w.cell? ⟨p.s, 4, none⟩ = some (.int .i64 x.last) := h.cell (k := 4) rfl
  have f2 := h.free 2
  have f3 := h.free 3
  have f4 := h.free 4
  have HV1 := hide hv1
  have HV2 := hide hv2
  clear h hv1 hv2
  go_enter Tryz.func34, Tryz.ntmps34
  go_wp2_with (fail)
  obtain ⟨W, hW⟩ : ∃ W, W = ((w.setCell ⟨p.s, 3, none⟩ (.int .i64 v)).setCell ⟨p.s, 4, none⟩ (.int .i64 v)).setCell ⟨p.s, 2, none⟩ (.int .i64 1) := ⟨_, rfl⟩
  have ok1 : ({ x with view := v } : RepD).OK g := ⟨H.out.ok.id, H.out.ok.n, ⟨HV1.out, HV2.out⟩, H.out.ok.last, H.out.ok.nonce, H.out.ok.incs, H.out.ok.taken, H.out.ok.now, H.out.ok.names, H.out.ok.later, H.out.ok.keys, H.out.ok.rise, H.out.ok.acks⟩
  have ok2 : ({ x with view := v, last := v } : RepD).OK g := ⟨H.out.ok.id, H.out.ok.n, ⟨HV1.out, HV2.out⟩, ⟨HV1.out, HV2.out⟩, H.out.ok.nonce, H.out.ok.incs, H.out.ok.taken, H.out.ok.now, H.out.ok.names, H.out.ok.later, H.out.ok.keys, H.out.ok.rise, H.out.ok.acks⟩
  have ok3 : (inView x v).OK g := ⟨H.out.ok.id, H.out.ok.n, ⟨HV1.out, HV2.out⟩, ⟨HV1.out, HV2.out⟩, H.out.ok.nonce, H.out.ok.incs, H.out.ok.taken, H.out.ok.now, H.out.ok.names, H.out.ok.later, H.out.ok.keys, H.out.ok.rise, H.out.ok.acks⟩
  have HS1 : Hid (Since q B w col col W r p (inView x v) g) := by
    have s1 := H.out.put (x' := { x with view := v }) (k := 3) (v := .int .i64 v) rfl rfl ⟨rfl, rfl, rfl, rfl, rfl⟩ ⟨rfl, rfl⟩ ok1
    have s2 := s1.rep.put (x' := { x with view := v, last := v }) (k := 4) (v := .int .i64 v) rfl rfl ⟨rfl, rfl, rfl, rfl, rfl⟩ ⟨rfl, rfl⟩ ok2
    have s3 := s2.rep.put (x' := inView x v) hW rfl ⟨rfl, rfl, rfl, rfl, rfl⟩ ⟨rfl, rfl⟩ ok3
    exact (s1.next s2).next s3
  rw [← hW]
  clear hW ok1 ok2 ok3 c2 c3 c4 f2 f3 f4
  refine (forget_any HS1.out.rep).mono ?_
  rintro e w2 ⟨rfl, hs2⟩
  have HS2 := hide (HS1.out.next hs2)
  clear hs2
  have c0 : w2.cell? ⟨p.s, 0, none⟩ = some (.int .i64 x.id) := HS2.out.rep.cell (k := 0) rfl
  have c1 : w2.cell? ⟨p.s, 1, none⟩ = some (.int .i64 x.n) := HS2.out.rep.cell (k := 1) rfl
  have c2 : w2.cell? ⟨p.s, 2, none⟩ = some (.int .i64 1) := HS2.out.rep.cell (k := 2) rfl
  have c3 : w2.cell? ⟨p.s, 3, none⟩ = some (.int .i64 v) := HS2.out.rep.cell (k := 3) rfl
  have c4 : w2.cell? ⟨p.s, 4, none⟩ = some (.int .i64 v) := HS2.out.rep.cell (k := 4) rfl
  have CL := hide (leads_any x.id x.n 1 v v w2)
  obtain ⟨b, hb⟩ : ∃ b, leadsB x.id x.n 1 v = b := ⟨_, rfl⟩
  have HE := hide hb
  rw [hb] at CL
  clear hb
  go_wp2_with (fail)
  refine CL.out.mono ?_
  rintro e w3 ⟨rfl, hl3⟩
  have HS3 := hide (HS2.out.later hl3)
  clear hl3 c0 c1 c2 c3 c4 CL
  cases b with
  | true =>
    have CA := hide (alone_any HS3.out.rep 1 (by decide) (by decide) hg)
    go_wp2_with (fail)
    refine CA.out.mono ?_
    rintro e w4 ⟨rfl, c4, hs4⟩
    have HS4 := hide (HS3.out.next hs4)
    clear hs4 CA
    go_wp2
    go_end0
    exact ⟨rfl, c4, by have h4 := HS4.out; unfold enterR beatOr; rw [HE.out]; exact h4⟩
  | false =>
    have CA := hide (alone_any HS3.out.rep 2 (by decide) (by decide) hg)
    go_wp2_with (fail)
    refine CA.out.mono ?_
    rintro e w4 ⟨rfl, c4, hs4⟩
    have HS4 := hide (HS3.out.next hs4)
    clear hs4 CA
    go_wp2
    go_end0
    exact ⟨rfl, c4, by have h4 := HS4.out; unfold enterR beatOr; rw [HE.out]; exact h4⟩
end
end Go.Proofs.YtaiegmhlgjogmaaGreat
/- A region that draws its order, at a place where three operations are ready, none of which gives the same in all later worlds. -/
namespace Go.Proofs.YtaiegmhlgjogmaaGreat
open Go.RowKit
section
variable {P : Program} {md : Region.Mode} {ops : Array Oper} {Q : Exit → Act → World → Prop}
theorem wpAnyL_three {i j l : Nat} {oi oj ol : Oper} {fuel : Nat} {listed : Array Bool} {a : Act} {w : World} (hoi : ops[i]? = some oi) (hoj : ops[j]? = some oj) (hol : ops[l]? = some ol) (hr : Region.ready md ops listed = [i, j, l])
    (hwi : Region.wanted oi (yielded ops a.tmps) = true) (hwj : Region.wanted oj (yielded ops a.tmps) = true) (hwl : Region.wanted ol (yielded ops a.tmps) = true)
    (hi : ∀ K' : Act → World → Prop, Hid (∀ a' w', Later w w' → wpAnyL P md ops Q fuel (listed.setIfInBounds i true) a' w' → K' a' w') → Oper.wp P oi a w K' Q)
    (hj : ∀ K' : Act → World → Prop, Hid (∀ a' w', Later w w' → wpAnyL P md ops Q fuel (listed.setIfInBounds j true) a' w' → K' a' w') → Oper.wp P oj a w K' Q)
    (hl : ∀ K' : Act → World → Prop, Hid (∀ a' w', Later w w' → wpAnyL P md ops Q fuel (listed.setIfInBounds l true) a' w' → K' a' w') → Oper.wp P ol a w K' Q) : wpAnyL P md ops Q (fuel + 1) listed a w := by
  refine ⟨fun h0 => absurd (hr ▸ h0) (by simp), fun k hk => ?_⟩
  rw [hr] at hk
  rcases List.mem_cons.1 hk with rfl | hk
  · refine wpOp_step hoi fun K' hK => ?_
    rw [if_pos hwi]
    exact hi K' fun a' w' hl hn => hK a' w' ⟨hl, hn⟩
  · rcases List.mem_cons.1 hk with rfl | hk
    · refine wpOp_step hoj fun K' hK => ?_
      rw [if_pos hwj]
      exact hj K' fun a' w' hl hn => hK a' w' ⟨hl, hn⟩
    · obtain rfl : k = l := by simpa using hk
      refine wpOp_step hol fun K' hK => ?_
      rw [if_pos hwl]
      exact hl K' fun a' w' hl hn => hK a' w' ⟨hl, hn⟩
end
end Go.Proofs.YtaiegmhlgjogmaaGreat
