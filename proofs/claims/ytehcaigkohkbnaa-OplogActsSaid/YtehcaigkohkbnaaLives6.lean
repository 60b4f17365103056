/- What is small; the document's examples of package oplog. -/
import Derived.Test.YtehcaigkohkbnaaLg
import Derived.Test.YtehcaigkohkbnaaWeighN
import Derived.Test.YtehcaigkohkbnaaLit2
namespace Go.Proofs.Ytehcaigkohkbnaa
open Go.RowKit

/-- Not too many operations, none of too many steps. -/
def SmallOps (l : List OpD) : Prop := l.length ≤ 300 ∧ ∀ o ∈ l, o.steps.length ≤ 300
theorem SmallOps.mild {l : List OpD} (h : SmallOps l) : Mild l := fun o ho => by have := h.2 o ho; omega
/-- What small tells. -/
def Smalls (l : List OpD) (w : World) (e : Ending) (w' : World) : Prop := ∃ b : Bool, e = .returned (.bool b) ∧ (b = true → SmallOps l) ∧ Later w w'
def opsMsg (l : List OpD) : MsgD := ⟨0, 0, 0, 0, 0, 0, 0, 0, 0, false, false, false, ⟨0, 0, 0, ⟨#[]⟩, [], 0, 0, 0, false, false⟩, 0, 0, 0, 0, 0, 0, 0, 0, 0, false, l, []⟩
theorem opsMsg_wf {l : List OpD} (h : ∀ o ∈ l, o.wf) : (opsMsg l).wf := by
  simp only [MsgD.wf, opsMsg, OpD.wf, I64]
  exact ⟨by decide, by decide, by decide, by decide, by decide, by decide, by decide, by decide, by decide, ⟨by decide, by decide, by decide, by decide, by simp, by decide, by decide, by decide⟩, by decide, by decide, by decide, by decide, by decide, by decide, by decide, by decide, by decide, h, by simp⟩

set_option maxHeartbeats 1000000 in
set_option maxRecDepth 100000 in
theorem small_any (F : Nat → Prop) (v : Value) (l : List OpD) (w : World) (h : OpsAt F w v l) (hw : ∀ o ∈ l, o.wf) : Calls Try.prog 55 #[v] w (Smalls l w) := by
  have C : Hid (Calls Try.prog 46 #[.agg ((opsMsg l).cells (.slice none 0 0) v (.slice none 0 0)).toArray, .int .i64 300] w (CountsN 300 (opsMsg l) w)) := hide (stepsn_any 300 (by decide) (by decide) F (opsMsg l) _ v _ w (opsMsg_wf hw) ⟨StepsAt.nil_ F w, h, IncsAt.nil_ F w⟩)
  obtain ⟨ps, hps, hop⟩ := h
  obtain ⟨A, c, rfl, _, _, _⟩ := hop.1.shape
  unfold MsgD.cells opsMsg at C
  simp only at C
  clear hps hop hw
  go_enter Try.func55, Try.ntmps55
  go_wp2_with (fail)
  refine C.out.mono ?_
  rintro e w1 ⟨n, rfl, hl, hb⟩
  have HB := hide hb
  have HL := hide hl
  clear hb hl C
  by_cases hn : n ≤ 300
  · go_wp2
    go_ret
    refine ⟨true, ret_bool (by simp), fun _ => ?_, HB.out⟩
    have := HL.out hn
    exact ⟨by have h3 : ((opsMsg l).ops.length : Int) ≤ 300 := this.2.1; have h4 : (opsMsg l).ops = l := rfl; rw [h4] at h3; omega, fun o ho => by have := this.2.2 o ho; omega⟩
  · go_wp2
    go_ret
    exact ⟨false, ret_bool (by simpa using hn), (fun h => by cases h), HB.out⟩

/-- An operation of a saga, and nothing else. -/
def sagaOp (k : Int) : OpD := ⟨0, 0, 0, ⟨#[]⟩, [], k, 0, 0, false, false⟩
theorem saga_flat (w : World) (a b : Int) : OpsAt (fun _ => True) (w.alloc (.cells (((sagaOp a).cells (.slice none 0 0)).toArray ++ ((sagaOp b).cells (.slice none 0 0)).toArray) 33 (0, 0))) (.slice (some ⟨w.heap.size, 0, none⟩) 2 2) [sagaOp a, sagaOp b] := by
  have hb : (w.alloc (.cells (((sagaOp a).cells (.slice none 0 0)).toArray ++ ((sagaOp b).cells (.slice none 0 0)).toArray) 33 (0, 0))).heap[w.heap.size]? = _ := heap_alloc_new _ _
  refine ⟨[(sagaOp a, .slice none 0 0), (sagaOp b, .slice none 0 0)], rfl, ⟨rfl, ?_, some ⟨w.heap.size, 0, none⟩, 2, rfl, Nat.le_refl _, by decide, (fun h => by cases h), fun _ => ⟨w.heap.size, 0, rfl, trivial, lt_of_block hb, fun j u hj => ?_⟩⟩, ?_⟩
  · intro u hu
    obtain ⟨p, hp, h1⟩ := List.mem_flatMap.1 hu
    refine p.1.one ?_ u h1
    rcases List.mem_cons.1 hp with rfl | hp
    · rfl
    · obtain rfl : p = _ := List.mem_singleton.1 hp
      rfl
  · rw [Nat.zero_add, cell_of_row _ _ j _ _ _ hb]
    simpa [OpD.cells] using hj
  · intro p hp
    rcases List.mem_cons.1 hp with rfl | hp
    · exact StepsAt.nil_ _ _
    · obtain rfl : p = _ := List.mem_singleton.1 hp
      exact StepsAt.nil_ _ _

/-- A log that was made behind the world w0, and nothing older has turned. -/
def LgB (w0 w : World) (l : Nat) (L : List OpD) (c : Nat) : Prop := (∃ S, Lg w0.heap.size S w l L c) ∧ Below w0.heap.size w0 w
section
variable {F : Nat → Prop} {w0 w w' : World} {l : Nat} {L : List OpD} {c : Nat}
theorem LgB.below (h : LgB w0 w l L c) (hb : Below w.heap.size w w') : LgB w0 w' l L c := by
  obtain ⟨⟨S, hS⟩, h1⟩ := h
  exact ⟨⟨S, hS.below hb⟩, h1.trans (hb.mono h1.size)⟩
theorem LgB.next {S : Nat → Prop} {L' : List OpD} {c' : Nat} (hb : Below w0.heap.size w0 w) (hS : Lg w0.heap.size S w l L c) (h : LgNew w0.heap.size S w w' l L' c') : LgB w0 w' l L' c' := by
  obtain ⟨S', h1, _, h3⟩ := h
  exact ⟨⟨S', h1⟩, hb.trans (h3.below (fun i hi => (hS.1 i hi).1) hS.base)⟩
theorem LgB.told {S : Nat → Prop} {c' : Nat} (hb : Below w0.heap.size w0 w) (hS : Lg w0.heap.size S w l L c) (h : Lg w0.heap.size S w' l L c') (ht : Turned S w w') : LgB w0 w' l L c' :=
  ⟨⟨S, h⟩, hb.trans (ht.below (fun i hi => (hS.1 i hi).1) hS.base)⟩
theorem lb_new (w : World) : Calls Try.prog 27 #[] w fun e w' => ∃ l, e = .returned (.pointer (some ⟨l, 0, none⟩)) ∧ LgB w w' l [] 0 :=
  (lg_new w).mono fun _ _ ⟨l, S, he, h, hb⟩ => ⟨l, he, ⟨S, h⟩, hb⟩
theorem lb_add (o : OpD) (s : Value) (h : LgB w0 w l L c) (hs : StepsAt F w s o.steps) (ho : o.steps.length ≤ 1000000) :
    Calls Try.prog 28 #[.pointer (some ⟨l, 0, none⟩), .agg (o.cells s).toArray] w fun e w' => e = .returned (.tuple #[.int .i64 (addR L o).2.1, .int .i64 (addR L o).2.2]) ∧ LgB w0 w' l (addR L o).1 c := by
  obtain ⟨⟨S, hS⟩, hb⟩ := h
  exact (lg_add o s hS hs ho).mono fun _ _ ⟨he, hn⟩ => ⟨he, LgB.next hb hS hn⟩
theorem lb_cut (n : Int) (h : LgB w0 w l L c) : Calls Try.prog 33 #[.pointer (some ⟨l, 0, none⟩), .int .i64 n] w fun e w' => e = .returned (.int .i64 (cutR L c n).2) ∧ LgB w0 w' l (cutR L c n).1 c := by
  obtain ⟨⟨S, hS⟩, hb⟩ := h
  exact (lg_cut n hS).mono fun _ _ ⟨he, hn⟩ => ⟨he, LgB.next hb hS hn⟩
theorem lb_join (n : Int) (v2 : Value) (M : List OpD) (h : LgB w0 w l L c) (hM : OpsAt F w v2 M) (hm : Mild M) : Calls Try.prog 35 #[.pointer (some ⟨l, 0, none⟩), .int .i64 n, v2] w fun e w' => e = .returned (.int .i64 (joinR L c n M).2) ∧ LgB w0 w' l (joinR L c n M).1 c := by
  obtain ⟨⟨S, hS⟩, hb⟩ := h
  exact (lg_join n v2 M hS hM hm).mono fun _ _ ⟨he, hn⟩ => ⟨he, LgB.next hb hS hn⟩
theorem lb_replace (n : Int) (v2 : Value) (M : List OpD) (h : LgB w0 w l L c) (hM : OpsAt F w v2 M) (hm : Mild M) : Calls Try.prog 37 #[.pointer (some ⟨l, 0, none⟩), v2, .int .i64 n] w fun e w' => e = .returned (.int .i64 (replR L c M n).2.2) ∧ LgB w0 w' l (replR L c M n).1 (replR L c M n).2.1 := by
  obtain ⟨⟨S, hS⟩, hb⟩ := h
  exact (lg_replace n v2 M hS hM hm).mono fun _ _ ⟨he, hn⟩ => ⟨he, LgB.next hb hS hn⟩
theorem lb_commit (n : Int) (h : LgB w0 w l L c) : Calls Try.prog 31 #[.pointer (some ⟨l, 0, none⟩), .int .i64 n] w fun e w' => Tells w ((L.take (comTo c L.length n)).drop c) e w' ∧ LgB w0 w' l L (comTo c L.length n) := by
  obtain ⟨⟨S, hS⟩, hb⟩ := h
  exact (lg_commit n hS).mono fun _ _ ⟨he, hn, ht⟩ => ⟨he, LgB.told hb hS hn ht⟩
theorem lb_since (n : Int) (h : LgB w0 w l L c) : Calls Try.prog 44 #[.pointer (some ⟨l, 0, none⟩), .int .i64 n] w fun e w' => Tells w (L.drop (fromOf L.length n)) e w' ∧ LgB w0 w' l L c := by
  obtain ⟨⟨S, hS⟩, hb⟩ := h
  exact (lg_since n hS).mono fun _ _ ⟨he, hn, ht⟩ => ⟨he, LgB.told hb hS hn ht⟩
theorem lb_last (h : LgB w0 w l L c) : Calls Try.prog 42 #[.pointer (some ⟨l, 0, none⟩)] w fun e w' => e = .returned (.int .i64 (L.length : Int)) ∧ w = w' := by
  obtain ⟨⟨S, hS⟩, hb⟩ := h
  exact lg_last hS
theorem lb_committed (h : LgB w0 w l L c) : Calls Try.prog 43 #[.pointer (some ⟨l, 0, none⟩)] w fun e w' => e = .returned (.int .i64 (c : Int)) ∧ w = w' := by
  obtain ⟨⟨S, hS⟩, hb⟩ := h
  exact lg_committed hS
theorem Tells.one {M : List OpD} {e : Ending} (h : Tells w M e w') : ∃ A cp rs, e = .returned (.slice A M.length cp) ∧ rs.map (·.1) = M ∧ OpsFree (w.heap.size ≤ ·) w' (.slice A M.length cp) rs := by
  obtain ⟨v, rs, he, hs, hf, _⟩ := h
  obtain ⟨A, cp, hv, _⟩ := hf.ops.1.shape
  have hl : rs.length = M.length := by rw [← hs, List.length_map]
  rw [hl] at hv
  subst hv
  exact ⟨A, cp, rs, he, hs, hf⟩
theorem Tells.own {M : List OpD} {e : Ending} (h : Tells w M e w') : ∃ A cp rs, e = .returned (.slice A M.length cp) ∧ M.length ≤ cp ∧ rs.map (·.1) = M ∧ rs.length = M.length ∧ OpsFree (w.heap.size ≤ ·) w' (.slice A M.length cp) rs ∧ w'.ownsRow w.heap.size 33 10 (.slice A M.length cp) rs.length (opcells rs) := by
  obtain ⟨v, rs, he, hs, hf, ho⟩ := h
  obtain ⟨A, cp, hv, hc, _⟩ := hf.ops.1.shape
  have hl : rs.length = M.length := by rw [← hs, List.length_map]
  rw [hl] at hv hc
  subst hv
  exact ⟨A, cp, rs, he, hc, hs, hl, hf, ho⟩
end

set_option maxHeartbeats 2000000 in
set_option maxRecDepth 100000 in
theorem lives_any (w : World) : Calls Try.prog 26 #[] w fun e w' => e = .returned (.bool true) ∧ Below w.heap.size w w' := by
  obtain ⟨i0, hi, hz0, hz1, hz2⟩ := info_parts Try.infoOp
  go_enter Try.func26, Try.ntmps26
  go_wp2_with (fail)
  refine (lb_new w).mono ?_
  rintro e w1 ⟨l, rfl, hl⟩
  have H2 := hide (lb_add (F := fun _ => True) (sagaOp 1) (.slice none 0 0) hl (StepsAt.nil_ _ _) (by decide))
  rw [show addR [] (sagaOp 1) = ([sagaOp 1], 1, 0) from rfl] at H2
  clear hl
  go_wp2_with (fail)
  refine H2.out.mono ?_
  rintro e w2 ⟨rfl, hl⟩
  have H3 := hide (lb_add (F := fun _ => True) (sagaOp 2) (.slice none 0 0) hl (StepsAt.nil_ _ _) (by decide))
  rw [show addR [sagaOp 1] (sagaOp 2) = ([sagaOp 1, sagaOp 2], 2, 0) from rfl] at H3
  clear hl H2
  go_wp2_with (fail)
  refine H3.out.mono ?_
  rintro e w3 ⟨rfl, hl⟩
  have H4 := hide (lb_commit 1 hl)
  rw [show comTo 0 [sagaOp 1, sagaOp 2].length 1 = 1 from rfl, show ([sagaOp 1, sagaOp 2].take 1).drop 0 = [sagaOp 1] from rfl] at H4
  clear hl H3
  go_wp2_with (fail)
  refine H4.out.mono ?_
  rintro e w4 ⟨ht, hl⟩
  obtain ⟨A4, c4, rs, rfl, _, _⟩ := ht.one
  have H5 := hide (lb_cut 0 hl)
  rw [show cutR [sagaOp 1, sagaOp 2] 1 0 = ([sagaOp 1, sagaOp 2], 2) from rfl] at H5
  clear hl ht H4
  simp only [List.length_singleton]
  go_wp2_with (fail)
  refine H5.out.mono ?_
  rintro e w5 ⟨rfl, hl⟩
  have H6 := hide (lb_join 1 _ [sagaOp 3, sagaOp 4] (hl.below ((Below.refl _ _).alloc (Nat.le_refl _) _)) (saga_flat w5 3 4) (by intro o ho; simp at ho; rcases ho with rfl | rfl <;> decide))
  rw [show joinR [sagaOp 1, sagaOp 2] 1 1 [sagaOp 3, sagaOp 4] = ([sagaOp 1, sagaOp 3, sagaOp 4], 0) from rfl] at H6
  clear hl H5
  go_wp2_with (refine wpList_buildSlice_two (by rfl) 39 33 _ _ (by rfl) i0 _ 10 Try.underlying39 hi hz0 hz1 (by decide) (by decide) ((sagaOp 3).cells (.slice none 0 0)).toArray ((sagaOp 4).cells (.slice none 0 0)).toArray (by rfl) (by rfl) (by rfl) (by rfl) ?_)
  refine H6.out.mono ?_
  rintro e w6 ⟨rfl, hl⟩
  have H7 := hide (lb_last hl)
  rw [show [sagaOp 1, sagaOp 3, sagaOp 4].length = 3 from rfl] at H7
  have HB := hide hl.2
  clear hl H6
  go_wp2_with (fail)
  refine H7.out.mono ?_
  rintro e w7 ⟨rfl, rfl⟩
  go_wp2
  go_ret
  exact ⟨rfl, HB.out⟩
end Go.Proofs.Ytehcaigkohkbnaa
