/- tell of package oplog, at its three closures. -/
import Derived.Test.YtehcaigkohkbnaaTellC
namespace Go.Proofs.Ytehcaigkohkbnaa
open Go.RowKit

section
variable {S F : Nat → Prop} {l k base c : Nat} {v : Value} {ps : List (OpD × Value)}
set_option maxHeartbeats 1000000 in
theorem tell_commit (n : Int) (b : Nat) (w : World) (h : LogAt S w l k base v ps c) (hb : w.heap[b]? = some (.cells #[.int .i64 n] 3 (0, 0))) :
    Calls Try.prog 58 #[.pointer (some ⟨l, 0, none⟩), .func (.func 59) #[] #[.pointer (some ⟨b, 0, none⟩)]] w (Told (fun i => i = k) S w l k base v ps (comTo c ps.length n) ((ps.take (comTo c ps.length n)).drop c)) := by
  have C0 := hide (made_yes w h)
  have c0 := h.lcell
  have C := hide (commit_closure n b w h hb)
  have hsm : ∀ q ∈ ((ps.take (comTo c ps.length n)).drop c), q.1.steps.length ≤ 1000000 := fun q hq => h.parts.small q (List.mem_of_mem_take (List.mem_of_mem_drop hq))
  have hln : (((ps.take (comTo c ps.length n)).drop c)).length ≤ 1000000 := by have := h.parts.len; simp; try omega
  generalize ((ps.take (comTo c ps.length n)).drop c) = qs at C hsm hln ⊢
  have HS := hide hsm
  have HL := hide hln
  have HW := hide h
  clear h hsm hln hb
  go_enter Try.func58, Try.ntmps58
  go_wp2_with (fail)
  refine C0.out.mono ?_
  rintro e w1 ⟨rfl, rfl⟩
  go_wp2_with (fail)
  refine C.out.mono ?_
  rintro e w1 ⟨v1, rfl, ho, hl1, ht⟩
  have C2 := hide (copies_own S _ v1 w1 ho HL.out HS.out)
  obtain ⟨A1, c1, rfl, _, _, _⟩ := ho.1.shape
  have H1 := hide hl1
  have HT := hide ht
  clear ho C hl1 ht
  go_wp2_with (fail)
  refine C2.out.mono ?_
  rintro e w2 ⟨v2, rs, rfl, hsame, hfree, hown, hb2⟩
  obtain ⟨A2, c2, rfl, _, _, _⟩ := hfree.ops.1.shape
  have HF := hide hfree
  have HB := hide hb2
  have HSA := hide hsame
  have HOW := hide hown
  clear hfree hb2 hsame hown C2
  go_wp2
  go_ret
  exact ⟨_, rs, rfl, HSA.out, HF.out.mono fun i _ hf => Nat.le_trans HT.out.size hf, own_low HOW.out HT.out.size, H1.out.later HB.out, HT.out.trans (Turned.of_below HB.out _)⟩

set_option maxHeartbeats 1000000 in
theorem tell_since (n : Int) (b : Nat) (w : World) (h : LogAt S w l k base v ps c) (hb : w.heap[b]? = some (.cells #[.int .i64 n] 3 (0, 0))) :
    Calls Try.prog 58 #[.pointer (some ⟨l, 0, none⟩), .func (.func 66) #[] #[.pointer (some ⟨b, 0, none⟩)]] w (Told (fun _ => False) S w l k base v ps c (ps.drop (fromOf ps.length n))) := by
  have C0 := hide (made_yes w h)
  have c0 := h.lcell
  have C := hide (since_closure n b w h hb)
  have hsm : ∀ q ∈ (ps.drop (fromOf ps.length n)), q.1.steps.length ≤ 1000000 := fun q hq => h.parts.small q (List.mem_of_mem_drop hq)
  have hln : ((ps.drop (fromOf ps.length n))).length ≤ 1000000 := by have := h.parts.len; simp; try omega
  generalize (ps.drop (fromOf ps.length n)) = qs at C hsm hln ⊢
  have HS := hide hsm
  have HL := hide hln
  have HW := hide h
  clear h hsm hln hb
  go_enter Try.func58, Try.ntmps58
  go_wp2_with (fail)
  refine C0.out.mono ?_
  rintro e w1 ⟨rfl, rfl⟩
  go_wp2_with (fail)
  refine C.out.mono ?_
  rintro e w1 ⟨v1, rfl, ho, hl1, ht⟩
  have C2 := hide (copies_own S _ v1 w1 ho HL.out HS.out)
  obtain ⟨A1, c1, rfl, _, _, _⟩ := ho.1.shape
  have H1 := hide hl1
  have HT := hide ht
  clear ho C hl1 ht
  go_wp2_with (fail)
  refine C2.out.mono ?_
  rintro e w2 ⟨v2, rs, rfl, hsame, hfree, hown, hb2⟩
  obtain ⟨A2, c2, rfl, _, _, _⟩ := hfree.ops.1.shape
  have HF := hide hfree
  have HB := hide hb2
  have HSA := hide hsame
  have HOW := hide hown
  clear hfree hb2 hsame hown C2
  go_wp2
  go_ret
  exact ⟨_, rs, rfl, HSA.out, HF.out.mono fun i _ hf => Nat.le_trans HT.out.size hf, own_low HOW.out HT.out.size, H1.out.later HB.out, HT.out.trans (Turned.of_below HB.out _)⟩

set_option maxHeartbeats 1000000 in
theorem tell_at_yes (n : Nat) (x : Int) (b : Nat) (w : World) (h : LogAt S w l k base v ps c) (hb : w.heap[b]? = some (.cells #[.int .i64 x] 3 (0, 0))) (hx : x = (n : Int) + 1) (hn : n < ps.length) :
    Calls Try.prog 58 #[.pointer (some ⟨l, 0, none⟩), .func (.func 64) #[] #[.pointer (some ⟨b, 0, none⟩)]] w (Told (fun _ => False) S w l k base v ps c ((ps.take (n + 1)).drop n)) := by
  have C0 := hide (made_yes w h)
  have c0 := h.lcell
  have C := hide (at_closure_yes n x b w h hb hx hn)
  have hsm : ∀ q ∈ ((ps.take (n + 1)).drop n), q.1.steps.length ≤ 1000000 := fun q hq => h.parts.small q (List.mem_of_mem_take (List.mem_of_mem_drop hq))
  have hln : (((ps.take (n + 1)).drop n)).length ≤ 1000000 := by have := h.parts.len; simp; try omega
  generalize ((ps.take (n + 1)).drop n) = qs at C hsm hln ⊢
  have HS := hide hsm
  have HL := hide hln
  have HW := hide h
  clear h hsm hln hb
  go_enter Try.func58, Try.ntmps58
  go_wp2_with (fail)
  refine C0.out.mono ?_
  rintro e w1 ⟨rfl, rfl⟩
  go_wp2_with (fail)
  refine C.out.mono ?_
  rintro e w1 ⟨v1, rfl, ho, hl1, ht⟩
  have C2 := hide (copies_own S _ v1 w1 ho HL.out HS.out)
  obtain ⟨A1, c1, rfl, _, _, _⟩ := ho.1.shape
  have H1 := hide hl1
  have HT := hide ht
  clear ho C hl1 ht
  go_wp2_with (fail)
  refine C2.out.mono ?_
  rintro e w2 ⟨v2, rs, rfl, hsame, hfree, hown, hb2⟩
  obtain ⟨A2, c2, rfl, _, _, _⟩ := hfree.ops.1.shape
  have HF := hide hfree
  have HB := hide hb2
  have HSA := hide hsame
  have HOW := hide hown
  clear hfree hb2 hsame hown C2
  go_wp2
  go_ret
  exact ⟨_, rs, rfl, HSA.out, HF.out.mono fun i _ hf => Nat.le_trans HT.out.size hf, own_low HOW.out HT.out.size, H1.out.later HB.out, HT.out.trans (Turned.of_below HB.out _)⟩

set_option maxHeartbeats 1000000 in
theorem tell_at_no (n : Int) (b : Nat) (w : World) (h : LogAt S w l k base v ps c) (hb : w.heap[b]? = some (.cells #[.int .i64 n] 3 (0, 0))) (hn : n < 1 ∨ (ps.length : Int) < n) :
    Calls Try.prog 58 #[.pointer (some ⟨l, 0, none⟩), .func (.func 64) #[] #[.pointer (some ⟨b, 0, none⟩)]] w (Told (fun _ => False) S w l k base v ps c ([] : List (OpD × Value))) := by
  have C0 := hide (made_yes w h)
  have c0 := h.lcell
  have C := hide (at_closure_no n b w h hb hn)
  have hsm : ∀ q ∈ ([] : List (OpD × Value)), q.1.steps.length ≤ 1000000 := fun q hq => h.parts.small q (by cases hq)
  have hln : (([] : List (OpD × Value))).length ≤ 1000000 := by have := h.parts.len; simp; try omega
  generalize ([] : List (OpD × Value)) = qs at C hsm hln ⊢
  have HS := hide hsm
  have HL := hide hln
  have HW := hide h
  clear h hsm hln hb
  go_enter Try.func58, Try.ntmps58
  go_wp2_with (fail)
  refine C0.out.mono ?_
  rintro e w1 ⟨rfl, rfl⟩
  go_wp2_with (fail)
  refine C.out.mono ?_
  rintro e w1 ⟨v1, rfl, ho, hl1, ht⟩
  have C2 := hide (copies_own S _ v1 w1 ho HL.out HS.out)
  obtain ⟨A1, c1, rfl, _, _, _⟩ := ho.1.shape
  have H1 := hide hl1
  have HT := hide ht
  clear ho C hl1 ht
  go_wp2_with (fail)
  refine C2.out.mono ?_
  rintro e w2 ⟨v2, rs, rfl, hsame, hfree, hown, hb2⟩
  obtain ⟨A2, c2, rfl, _, _, _⟩ := hfree.ops.1.shape
  have HF := hide hfree
  have HB := hide hb2
  have HSA := hide hsame
  have HOW := hide hown
  clear hfree hb2 hsame hown C2
  go_wp2
  go_ret
  exact ⟨_, rs, rfl, HSA.out, HF.out.mono fun i _ hf => Nat.le_trans HT.out.size hf, own_low HOW.out HT.out.size, H1.out.later HB.out, HT.out.trans (Turned.of_below HB.out _)⟩

theorem tell_no (p : Value) (f : Value) (w : World) (h : NoLog w p) : Calls Try.prog 58 #[p, f] w fun e w' => e = .returned (.slice none 0 0) ∧ w = w' := by
  have C := hide (made_no p w h)
  have hp : ∃ a, p = .pointer a := by rcases h with rfl | ⟨g, rfl, _⟩ <;> exact ⟨_, rfl⟩
  obtain ⟨a, rfl⟩ := hp
  clear h
  go_enter Try.func58, Try.ntmps58
  go_wp2_with (fail)
  refine C.out.mono ?_
  rintro e w1 ⟨rfl, rfl⟩
  go_wp2
  go_ret
  exact ⟨rfl, rfl⟩
end
end Go.Proofs.Ytehcaigkohkbnaa
