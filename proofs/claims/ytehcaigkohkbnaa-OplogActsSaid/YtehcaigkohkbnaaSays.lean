/- Commit, Since and At of package oplog. -/
import Derived.Test.YtehcaigkohkbnaaTell
import Derived.Test.YtehcaigkohkbnaaCopyOp
namespace Go.Proofs.Ytehcaigkohkbnaa
open Go.RowKit

section
variable {S F : Nat → Prop} {l k base c : Nat} {v : Value} {ps : List (OpD × Value)}
theorem boxed (n : Int) (w : World) : Below w.heap.size w (w.alloc (.cells #[.int .i64 n] 3 (0, 0))) ∧ (w.alloc (.cells #[.int .i64 n] 3 (0, 0))).heap[w.heap.size]? = some (.cells #[.int .i64 n] 3 (0, 0)) :=
  ⟨(Below.refl _ _).alloc (Nat.le_refl _) _, heap_alloc_new _ _⟩
set_option maxHeartbeats 1000000 in
theorem commit_yes (n : Int) (w : World) (h : LogAt S w l k base v ps c) :
    Calls Try.prog 31 #[.pointer (some ⟨l, 0, none⟩), .int .i64 n] w (Told (fun i => i = k) S w l k base v ps (comTo c ps.length n) ((ps.take (comTo c ps.length n)).drop c)) := by
  obtain ⟨hb, hx⟩ := boxed n w
  have hmf : ∀ (fn : Fn) (first cap : Array Value) (w : World), (Instr.makeFunc fn first cap).run Try.prog w = .ok (.func fn first cap) w := fun _ _ _ _ => rfl
  have C := hide (tell_commit n w.heap.size _ (h.later hb) hx)
  generalize (ps.take (comTo c ps.length n)).drop c = qs at C ⊢
  generalize comTo c ps.length n = c' at C ⊢
  have HB := hide hb
  clear h hb hx
  go_enter Try.func31, Try.ntmps31
  go_wp2_with (fail)
  refine C.out.mono ?_
  rintro e w2 ⟨v2, rs, rfl, hsame, hfree, hown, hl, ht⟩
  obtain ⟨A2, c2, rfl, _, _, _⟩ := hfree.ops.1.shape
  have HF := hide hfree
  have HL := hide hl
  have HT := hide ht
  have HSA := hide hsame
  have HOW := hide hown
  clear hfree hl ht hsame hown C
  go_wp2
  go_ret
  exact ⟨_, rs, rfl, HSA.out, HF.out.mono fun i _ hf => Nat.le_trans HB.out.size hf, own_low HOW.out HB.out.size, HL.out, (Turned.of_below HB.out _).trans HT.out⟩
set_option maxHeartbeats 1000000 in
theorem since_yes (n : Int) (w : World) (h : LogAt S w l k base v ps c) :
    Calls Try.prog 44 #[.pointer (some ⟨l, 0, none⟩), .int .i64 n] w (Told (fun _ => False) S w l k base v ps c (ps.drop (fromOf ps.length n))) := by
  obtain ⟨hb, hx⟩ := boxed n w
  have hmf : ∀ (fn : Fn) (first cap : Array Value) (w : World), (Instr.makeFunc fn first cap).run Try.prog w = .ok (.func fn first cap) w := fun _ _ _ _ => rfl
  have C := hide (tell_since n w.heap.size _ (h.later hb) hx)
  generalize ps.drop (fromOf ps.length n) = qs at C ⊢
  have HB := hide hb
  clear h hb hx
  go_enter Try.func44, Try.ntmps44
  go_wp2_with (fail)
  refine C.out.mono ?_
  rintro e w2 ⟨v2, rs, rfl, hsame, hfree, hown, hl, ht⟩
  obtain ⟨A2, c2, rfl, _, _, _⟩ := hfree.ops.1.shape
  have HF := hide hfree
  have HL := hide hl
  have HT := hide ht
  have HSA := hide hsame
  have HOW := hide hown
  clear hfree hl ht hsame hown C
  go_wp2
  go_ret
  exact ⟨_, rs, rfl, HSA.out, HF.out.mono fun i _ hf => Nat.le_trans HB.out.size hf, own_low HOW.out HB.out.size, HL.out, (Turned.of_below HB.out _).trans HT.out⟩
theorem commit_no (p : Value) (n : Int) (w : World) (h : NoLog w p) : Calls Try.prog 31 #[p, .int .i64 n] w fun e w' => e = .returned (.slice none 0 0) ∧ Below w.heap.size w w' := by
  obtain ⟨hb, hx⟩ := boxed n w
  have hmf : ∀ (fn : Fn) (first cap : Array Value) (w : World), (Instr.makeFunc fn first cap).run Try.prog w = .ok (.func fn first cap) w := fun _ _ _ _ => rfl
  have C := hide (fun f => tell_no p f _ (h.later hb))
  have hp : ∃ a, p = .pointer a := by rcases h with rfl | ⟨g, rfl, _⟩ <;> exact ⟨_, rfl⟩
  obtain ⟨a, rfl⟩ := hp
  have HB := hide hb
  clear h hb hx
  go_enter Try.func31, Try.ntmps31
  go_wp2_with (fail)
  refine (C.out _).mono ?_
  rintro e w2 ⟨rfl, rfl⟩
  go_wp2
  go_ret
  exact ⟨rfl, HB.out⟩
theorem since_no (p : Value) (n : Int) (w : World) (h : NoLog w p) : Calls Try.prog 44 #[p, .int .i64 n] w fun e w' => e = .returned (.slice none 0 0) ∧ Below w.heap.size w w' := by
  obtain ⟨hb, hx⟩ := boxed n w
  have hmf : ∀ (fn : Fn) (first cap : Array Value) (w : World), (Instr.makeFunc fn first cap).run Try.prog w = .ok (.func fn first cap) w := fun _ _ _ _ => rfl
  have C := hide (fun f => tell_no p f _ (h.later hb))
  have hp : ∃ a, p = .pointer a := by rcases h with rfl | ⟨g, rfl, _⟩ <;> exact ⟨_, rfl⟩
  obtain ⟨a, rfl⟩ := hp
  have HB := hide hb
  clear h hb hx
  go_enter Try.func44, Try.ntmps44
  go_wp2_with (fail)
  refine (C.out _).mono ?_
  rintro e w2 ⟨rfl, rfl⟩
  go_wp2
  go_ret
  exact ⟨rfl, HB.out⟩

/-- An operation that is none, and one. -/
def zOp : Array Value := (OpD.zero.cells (.slice none 0 0)).toArray
theorem zOp_one : ∀ u ∈ zOp.toList, u.oneCell' = true := by
  intro u hu
  exact OpD.zero.one rfl u (by simpa [zOp] using hu)
/-- What At hands back: no operation. -/
def NoOp (e : Ending) : Prop := e = .returned (.tuple #[.agg zOp, .bool false])

/-- The two worlds that At begins with. -/
theorem boxed2 (n : Int) (w : World) : ∃ W, W = (w.alloc (.cells #[.int .i64 n] 3 (0, 0))).alloc (.cells zOp 33 (0, 0)) ∧ Below w.heap.size w W ∧ W.heap[w.heap.size]? = some (.cells #[.int .i64 n] 3 (0, 0)) ∧ W.heap[w.heap.size + 1]? = some (.cells zOp 33 (0, 0)) :=
  ⟨_, rfl, ((Below.refl _ _).alloc (Nat.le_refl _) _).alloc (by simp) _, (heap_alloc_old _ _ (by simp)).trans (heap_alloc_new _ _), heap_at _ (by simp)⟩

set_option maxHeartbeats 1000000 in
set_option maxRecDepth 100000 in
theorem at_none (p : Value) (hp : ∃ a, p = .pointer a) (n : Int) (w : World) (R : World → Prop) (B : Nat → Prop)
    (C : ∀ W, Below w.heap.size w W → W.heap[w.heap.size]? = some (.cells #[.int .i64 n] 3 (0, 0)) → Calls Try.prog 58 #[p, .func (.func 64) #[] #[.pointer (some ⟨w.heap.size, 0, none⟩)]] W fun e w' => (∃ A c, e = .returned (.slice A 0 c)) ∧ R w' ∧ Turned B W w')
    (hR : ∀ a b, R a → a.grownBy b (some (w.heap.size + 1)) → R b) (hB : ∀ i, B i → i < w.heap.size) :
    Calls Try.prog 39 #[p, .int .i64 n] w fun e w' => NoOp e ∧ R w' ∧ Turned B w w' := by
  obtain ⟨W, hW, hb, hx, hz⟩ := boxed2 n w
  have hmf : ∀ (fn : Fn) (first cap : Array Value) (w : World), (Instr.makeFunc fn first cap).run Try.prog w = .ok (.func fn first cap) w := fun _ _ _ _ => rfl
  have C1 := hide (C W hb hx)
  have HB := hide hb
  have HZ := hide hz
  have HR := hide hR
  have HBB := hide hB
  obtain ⟨a, rfl⟩ := hp
  clear hb hx hz C hR hB
  unfold zOp OpD.cells at hW
  simp only [OpD.zero] at hW
  go_enter Try.func39, Try.ntmps39
  go_wp2_with (fail)
  rw [← hW]
  clear hW
  refine C1.out.mono ?_
  rintro e w2 ⟨⟨A2, c2, rfl⟩, hr, ht⟩
  have hz2 : Hid (w2.heap[w.heap.size + 1]? = some (.cells zOp 33 (0, 0))) := (ht.block _ (lt_of_block HZ.out) (fun e => by have := HBB.out _ e; omega)).trans HZ.out
  have HT := hide ht
  have HRR := hide hr
  clear ht hr C1
  go_wp2_with (refine wpList_store_box (by rfl) 33 _ _ (by rfl) (w.heap.size + 1) 0 zOp (by rfl) (by rfl) 33 zOp hz2.out (by kernel_rfl) (by exact Nat.le_refl 10) (by exact zOp_one) ?_; intro w3 hb3 hg3)
  have hb4 : w3.heap[w.heap.size + 1]? = some (.cells zOp 33 (0, 0)) := by simpa [putAt, zOp, OpD.cells] using hb3
  refine bodyPost_ret (results_box2 Try.results39 _ _ (w.heap.size + 1) 33 _ _ (by rfl) hb4 Try.underlying33 (by rfl) (by kernel_rfl) _ (by rfl)) (by rfl) ⟨rfl, HR.out _ _ HRR.out hg3, ?_⟩
  have h1 := (Turned.of_below HB.out B).trans HT.out
  refine ⟨hg3.os.trans h1.os, hg3.tape.trans h1.tape, hg3.output.trans h1.output, Nat.le_trans h1.size hg3.size, fun i hi hn => (hg3.block i (Nat.lt_of_lt_of_le hi h1.size) (fun e => by have := Option.some.inj e; omega)).trans (h1.block i hi hn)⟩
end
end Go.Proofs.Ytehcaigkohkbnaa
