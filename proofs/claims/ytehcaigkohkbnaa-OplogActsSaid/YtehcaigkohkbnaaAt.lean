/- At of package oplog. -/
import Derived.Test.YtehcaigkohkbnaaSays
namespace Go.Proofs.Ytehcaigkohkbnaa
open Go.RowKit

section
variable {S F : Nat → Prop} {l k base c : Nat} {v : Value} {ps : List (OpD × Value)}
theorem at_no (p : Value) (n : Int) (w : World) (h : NoLog w p) : Calls Try.prog 39 #[p, .int .i64 n] w fun e w' => NoOp e ∧ Below w.heap.size w w' := by
  have hp : ∃ a, p = .pointer a := by rcases h with rfl | ⟨g, rfl, _⟩ <;> exact ⟨_, rfl⟩
  refine (at_none p hp n w (fun _ => True) (fun _ => False) (fun W hb hx => (tell_no p _ W (h.later hb)).mono fun e w' ⟨he, hw⟩ => ⟨⟨none, 0, he⟩, trivial, by rw [← hw]; exact Turned.refl _ _⟩) (fun _ _ _ _ => trivial) (fun i hi => hi.elim)).mono fun e w' ⟨h1, _, h2⟩ => ⟨h1, h2.below (fun i hi => hi.elim) (Nat.le_refl _)⟩
theorem at_out (n : Int) (w : World) (h : LogAt S w l k base v ps c) (hn : n < 1 ∨ (ps.length : Int) < n) :
    Calls Try.prog 39 #[.pointer (some ⟨l, 0, none⟩), .int .i64 n] w fun e w' => NoOp e ∧ LogAt S w' l k base v ps c ∧ Turned (fun _ => False) w w' := by
  refine (at_none _ ⟨_, rfl⟩ n w (fun w' => LogAt (fun i => S i ∧ i < w.heap.size) w' l k base v ps c) (fun _ => False) (fun W hb hx => ?_) (fun a b hr hg => hr.keep (Kept.of_grown hg fun g e hf => by have := Option.some.inj e; omega)) (fun i hi => hi.elim)).mono fun e w' ⟨h1, h2, h3⟩ => ⟨h1, h2.mono fun i hi => hi.1, h3⟩
  have h0 : LogAt (fun i => S i ∧ i < w.heap.size) w l k base v ps c :=
    ⟨h.cell, ⟨h.parts.kept, h.parts.own, fun p hp => (h.parts.steps p hp).mono fun i hi hf => ⟨⟨hf.1, hi⟩, hf.2⟩, ⟨⟨h.parts.inn.1, lt_of_block h.parts.kept⟩, fun q e => ⟨h.parts.inn.2 q e, own_in h.parts.own q e⟩⟩, h.parts.com, h.parts.len, h.parts.small, h.parts.base⟩, ⟨h.inn, lt_of_block h.cell⟩⟩
  refine (tell_at_no n w.heap.size W (h0.later hb) hx hn).mono fun e w' ⟨v', rs, he, hs, hf, _, hl, ht⟩ => ?_
  have hrs : rs = [] := by simpa using hs
  subst hrs
  obtain ⟨A2, c2, rfl, _, _, _⟩ := hf.ops.1.shape
  exact ⟨⟨A2, c2, he⟩, hl, ht⟩

/-- What At hands back: an operation, its steps in new memory. -/
def OneOp (w : World) (o : OpD) (e : Ending) (w' : World) : Prop := ∃ s, e = .returned (.tuple #[.agg (o.cells s).toArray, .bool true]) ∧ StepsAt (w.heap.size ≤ ·) w' s o.steps

set_option maxHeartbeats 1000000 in
set_option maxRecDepth 100000 in
theorem at_yes (n : Nat) (x : Int) (o : OpD) (w : World) (h : LogAt S w l k base v ps c) (hx : x = (n : Int) + 1) (ho : (ps.map (·.1))[n]? = some o) :
    Calls Try.prog 39 #[.pointer (some ⟨l, 0, none⟩), .int .i64 x] w fun e w' => OneOp w o e w' ∧ LogAt S w' l k base v ps c ∧ Turned (fun _ => False) w w' := by
  have hn : n < ps.length := by simpa using (List.getElem?_eq_some_iff.1 ho).1
  obtain ⟨W, hW, hb, hx1, hz⟩ := boxed2 x w
  have hmf : ∀ (fn : Fn) (first cap : Array Value) (w : World), (Instr.makeFunc fn first cap).run Try.prog w = .ok (.func fn first cap) w := fun _ _ _ _ => rfl
  have h0 : LogAt (fun i => S i ∧ i < w.heap.size) w l k base v ps c :=
    ⟨h.cell, ⟨h.parts.kept, h.parts.own, fun p hp => (h.parts.steps p hp).mono fun i hi hf => ⟨⟨hf.1, hi⟩, hf.2⟩, ⟨⟨h.parts.inn.1, lt_of_block h.parts.kept⟩, fun q e => ⟨h.parts.inn.2 q e, own_in h.parts.own q e⟩⟩, h.parts.com, h.parts.len, h.parts.small, h.parts.base⟩, ⟨h.inn, lt_of_block h.cell⟩⟩
  have C1 := hide (tell_at_yes n x w.heap.size W (h0.later hb) hx1 hx hn)
  have hq : ((ps.take (n + 1)).drop n).map (·.1) = [o] := by
    have h1 : (ps.take (n + 1)).drop n = [ps[n]] := by
      rw [List.take_succ_eq_append_getElem hn, List.drop_left' (List.length_take_of_le (by omega))]
    rw [h1]
    rw [List.getElem?_map, List.getElem?_eq_getElem hn] at ho
    simpa using ho
  generalize (ps.take (n + 1)).drop n = qs at C1 hq
  have hkw := lt_of_block h.parts.kept
  have HB := hide hb
  have HZ := hide hz
  have HQ := hide hq
  clear hb hx1 hz h h0 hx ho hn hq
  unfold zOp OpD.cells at hW
  simp only [OpD.zero] at hW
  go_enter Try.func39, Try.ntmps39
  go_wp2_with (fail)
  rw [← hW]
  clear hW
  refine C1.out.mono ?_
  rintro e w2 ⟨v2, rs, rfl, hsame, hfree, _, hl, ht⟩
  obtain ⟨s, rfl⟩ : ∃ s, rs = [(o, s)] := by
    rw [HQ.out] at hsame
    rcases rs with _ | ⟨⟨o1, s1⟩, _ | ⟨r2, rest⟩⟩
    · simp at hsame
    · simp at hsame
      exact ⟨s1, by rw [hsame]⟩
    · simp at hsame
  obtain ⟨o', s', b, off, c2, hr0, rfl, _, hbF, hbl, hr, hst⟩ := hfree.ops.at_ (i := 0) (by simp)
  obtain ⟨rfl, rfl⟩ : o = o' ∧ s = s' := by simpa using hr0
  have hz2 : Hid (w2.heap[w.heap.size + 1]? = some (.cells zOp 33 (0, 0))) := (ht.block _ (lt_of_block HZ.out) id).trans HZ.out
  have HT := hide ht
  have HL := hide hl
  have HST := hide hst
  have HR := hide hr
  have hbW : W.heap.size ≤ b := hbF
  clear hfree hl ht hsame hr hst hr0 C1
  simp only [List.length_singleton]
  go_wp2_with (first
    | (refine wpList_load_mid (by rfl) 33 _ (by rfl) b (off + 0 * 10) (by first | rfl | simp) _ _ HR.out Try.underlying33 (by rfl) (by kernel_rfl) ?_)
    | (refine wpList_store_box (by rfl) 33 _ _ (by rfl) (w.heap.size + 1) 0 (o.cells s).toArray (by rfl) (by rfl) 33 zOp hz2.out (by kernel_rfl) (by exact Nat.le_refl 10) (by exact o.one (FlatAt.oneCell HST.out)) ?_; intro w3 hb3 hg3))
  have hb4 : w3.heap[w.heap.size + 1]? = some (.cells (o.cells s).toArray 33 (0, 0)) := by simpa [putAt, zOp, OpD.cells] using hb3
  have hzW : w.heap.size + 1 < W.heap.size := lt_of_block HZ.out
  refine bodyPost_ret (results_box2 Try.results39 _ _ (w.heap.size + 1) 33 _ _ (by rfl) hb4 Try.underlying33 (by rfl) (by kernel_rfl) _ (by rfl)) (by rfl) ⟨⟨s, rfl, ?_⟩, ?_, ?_⟩
  · exact (HST.out.kept (Kept.of_grown hg3 fun g e hf => by have := Option.some.inj e; have hf' : W.heap.size ≤ g := hf; omega)).mono fun i _ hf => Nat.le_trans HB.out.size hf
  · exact (HL.out.keep (Kept.of_grown hg3 fun g e hf => by have := Option.some.inj e; have := hf.2; omega)).mono fun i hi => hi.1
  · have h1 := (Turned.of_below HB.out (fun _ => False)).trans HT.out
    exact ⟨hg3.os.trans h1.os, hg3.tape.trans h1.tape, hg3.output.trans h1.output, Nat.le_trans h1.size hg3.size, fun i hi hn => (hg3.block i (Nat.lt_of_lt_of_le hi h1.size) (fun e => by have := Option.some.inj e; omega)).trans (h1.block i hi hn)⟩
end
end Go.Proofs.Ytehcaigkohkbnaa
