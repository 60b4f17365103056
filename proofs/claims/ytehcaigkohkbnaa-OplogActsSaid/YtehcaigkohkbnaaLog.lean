/- A log in memory: its operations in a row of its own, and how many are committed; New, made, Last, Committed, part. -/
import Derived.Test.YtehcaigkohkbnaaConcat
import Derived.Test.YtehcaigkohkbnaaCopies
import Derived.Test.YtehcaigkohkbnaaTurned
namespace Go.Proofs.Ytehcaigkohkbnaa
open Go.RowKit

/-- The block k holds the parts of a log: the operations ps in a row of its own, the first c committed. S holds of all blocks that it lies in. -/
structure PartsAt (S : Nat → Prop) (w : World) (k base : Nat) (v : Value) (ps : List (OpD × Value)) (c : Nat) : Prop where
  kept : w.heap[k]? = some (.cells #[v, .int .i64 (c : Int)] 104 (0, 0))
  own : w.ownsRow base 33 10 v ps.length (opcells ps)
  steps : ∀ p ∈ ps, StepsAt (fun i => S i ∧ i ≠ k ∧ some i ≠ v.ownBlock) w p.2 p.1.steps
  inn : S k ∧ ∀ q, v.ownBlock = some q → S q
  com : c ≤ ps.length
  len : ps.length ≤ 2000
  small : ∀ p ∈ ps, p.1.steps.length ≤ 1000000
  base : base ≤ w.heap.size
/-- The block l holds a log. -/
structure LogAt (S : Nat → Prop) (w : World) (l k base : Nat) (v : Value) (ps : List (OpD × Value)) (c : Nat) : Prop where
  cell : w.heap[l]? = some (.cells #[.pointer (some ⟨k, 0, none⟩)] 106 (0, 0))
  parts : PartsAt S w k base v ps c
  inn : S l

section
variable {S T : Nat → Prop} {w w' : World} {l k base c : Nat} {v : Value} {ps : List (OpD × Value)}
theorem own_kept {e n : Nat} {xs : List Value} (h : w.ownsRow base e 10 v n xs) (hk : ∀ q, v.ownBlock = some q → w'.heap[q]? = w.heap[q]?) : w'.ownsRow base e 10 v n xs := by
  refine ⟨h.1, ?_⟩
  rcases h.2 with h0 | ⟨g, cap, cur, hv, h1, h2, h3⟩
  · exact .inl h0
  · exact .inr ⟨g, cap, cur, hv, h1, (hk g (by rw [hv]; rfl)).trans h2, h3⟩
theorem own_in {e n : Nat} {xs : List Value} (h : w.ownsRow base e 10 v n xs) : ∀ q, v.ownBlock = some q → q < w.heap.size := by
  rcases h.2 with ⟨h0, _⟩ | ⟨g, cap, cur, hv, h1, h2, h3⟩
  · intro q hq
    rw [h0] at hq
    cases hq
  · intro q hq
    rw [hv] at hq
    obtain rfl : g = q := Option.some.inj hq
    exact lt_of_block h2
theorem PartsAt.one (h : PartsAt S w k base v ps c) : ∀ p ∈ ps, p.2.oneCell' = true := fun p hp => FlatAt.oneCell (h.steps p hp)
theorem PartsAt.k_ne (h : PartsAt S w k base v ps c) : some k ≠ v.ownBlock := by
  intro e
  rcases h.own.2 with ⟨h0, _⟩ | ⟨g, cap, cur, hv, h1, h2, h3⟩
  · rw [h0] at e
    cases e
  · rw [hv] at e
    obtain rfl : k = g := Option.some.inj e
    have := h.kept
    rw [h2] at this
    injection this with this
    injection this with _ e2
    exact absurd e2 (by decide)
theorem PartsAt.keep (h : PartsAt S w k base v ps c) (hk : Kept S w w') : PartsAt S w' k base v ps c :=
  ⟨(hk.2 k (lt_of_block h.kept) h.inn.1).trans h.kept, own_kept h.own fun q hq => hk.2 q (own_in h.own q hq) (h.inn.2 q hq), fun p hp => (h.steps p hp).kept (hk.mono fun _ _ hi => hi.1), h.inn, h.com, h.len, h.small, Nat.le_trans h.base hk.1⟩
theorem PartsAt.mono (h : PartsAt S w k base v ps c) (hs : ∀ i, S i → T i) : PartsAt T w k base v ps c :=
  ⟨h.kept, h.own, fun p hp => (h.steps p hp).mono fun _ _ hi => ⟨hs _ hi.1, hi.2⟩, ⟨hs _ h.inn.1, fun q e => hs q (h.inn.2 q e)⟩, h.com, h.len, h.small, h.base⟩
theorem PartsAt.cells (h : PartsAt S w k base v ps c) : w.cell? ⟨k, 0, none⟩ = some v ∧ w.cell? ⟨k, 1, none⟩ = some (.int .i64 (c : Int)) ∧ w.frozen? ⟨k, 0, none⟩ = false ∧ w.frozen? ⟨k, 1, none⟩ = false :=
  ⟨cell_of_row w k 0 _ _ _ h.kept, cell_of_row w k 1 _ _ _ h.kept, frozen_of_row w k 0 _ _ h.kept, frozen_of_row w k 1 _ _ h.kept⟩
theorem PartsAt.shape (h : PartsAt S w k base v ps c) : ∃ A cp, v = .slice A ps.length cp ∧ ps.length ≤ cp ∧ cp ≤ maxLen := by
  obtain ⟨A, cp, hv, h1, h2, _⟩ := FlatAt.shape (FlatAt.of_own h.own (ops_one h.one))
  exact ⟨A, cp, hv, h1, h2⟩
theorem PartsAt.ops (h : PartsAt S w k base v ps c) : OpsIn S w v ps := by
  refine ⟨?_, fun p hp => (h.steps p hp).mono fun _ _ hi => hi.1⟩
  obtain ⟨x1, x2, A, cp, e, x3, x4, x5, x6⟩ := FlatAt.of_own h.own (ops_one h.one)
  refine ⟨x1, x2, A, cp, e, x3, x4, x5, fun hn => ?_⟩
  obtain ⟨b, off, hA, hf, hb, hr⟩ := x6 hn
  refine ⟨b, off, hA, ?_, hb, hr⟩
  rcases h.own.2 with ⟨h0, _⟩ | ⟨g, cap, cur, hv, h1, h2, h3⟩
  · rw [h0] at e
    injection e with e1 _ _
    rw [← e1] at hA
    cases hA
  · rw [hv] at e
    injection e with e1 _ _
    rw [← e1] at hA
    injection hA with hA
    injection hA with hA _ _
    subst hA
    exact h.inn.2 _ (by rw [hv]; rfl)
theorem LogAt.keep (h : LogAt S w l k base v ps c) (hk : Kept S w w') : LogAt S w' l k base v ps c := ⟨(hk.2 l (lt_of_block h.cell) h.inn).trans h.cell, h.parts.keep hk, h.inn⟩
theorem LogAt.later (h : LogAt S w l k base v ps c) (hb : Below w.heap.size w w') : LogAt S w' l k base v ps c := h.keep (Kept.of_below hb _)
theorem LogAt.mono (h : LogAt S w l k base v ps c) (hs : ∀ i, S i → T i) : LogAt T w l k base v ps c := ⟨h.cell, h.parts.mono hs, hs _ h.inn⟩
theorem LogAt.lcell (h : LogAt S w l k base v ps c) : w.cell? ⟨l, 0, none⟩ = some (.pointer (some ⟨k, 0, none⟩)) := cell_of_row w l 0 _ _ _ h.cell
theorem LogAt.ne (h : LogAt S w l k base v ps c) : l ≠ k := by
  rintro rfl
  have := h.cell
  rw [h.parts.kept] at this
  injection this with this
  injection this with _ e2
  exact absurd e2 (by decide)
theorem LogAt.l_ne (h : LogAt S w l k base v ps c) : some l ≠ v.ownBlock := by
  intro e
  rcases h.parts.own.2 with ⟨h0, _⟩ | ⟨g, cap, cur, hv, h1, h2, h3⟩
  · rw [h0] at e
    cases e
  · rw [hv] at e
    obtain rfl : l = g := Option.some.inj e
    have := h.cell
    rw [h2] at this
    injection this with this
    injection this with _ e2
    exact absurd e2 (by decide)
end

/-- A log that no call made: nil, or one without its parts. -/
def NoLog (w : World) (p : Value) : Prop := p = .pointer none ∨ ∃ c, p = .pointer (some ⟨c, 0, none⟩) ∧ w.heap[c]? = some (.cells #[.pointer none] 106 (0, 0))
theorem NoLog.later {w w' : World} {p : Value} (h : NoLog w p) (hb : Below w.heap.size w w') : NoLog w' p :=
  h.imp id fun ⟨c, e, hc⟩ => ⟨c, e, (hb.block c (lt_of_block hc)).trans hc⟩

theorem made_no (p : Value) (w : World) (h : NoLog w p) : Calls Try.prog 56 #[p] w fun e w' => e = .returned (.bool false) ∧ w = w' := by
  rcases h with rfl | ⟨c, rfl, hc⟩
  · go_enter Try.func56, Try.ntmps56
    go_wp2
    go_ret
    exact ⟨rfl, rfl⟩
  · have c0 := cell_of_row w c 0 _ _ _ hc
    simp only [List.getElem?_toArray, List.getElem?_cons_zero] at c0
    clear hc
    go_enter Try.func56, Try.ntmps56
    go_wp2
    go_ret
    exact ⟨rfl, rfl⟩
section
variable {S : Nat → Prop} {l k base c : Nat} {v : Value} {ps : List (OpD × Value)}
theorem made_yes (w : World) (h : LogAt S w l k base v ps c) : Calls Try.prog 56 #[.pointer (some ⟨l, 0, none⟩)] w fun e w' => e = .returned (.bool true) ∧ w = w' := by
  have c0 := h.lcell
  clear h
  go_enter Try.func56, Try.ntmps56
  go_wp2
  go_ret
  exact ⟨rfl, rfl⟩
theorem last_yes (w : World) (h : LogAt S w l k base v ps c) : Calls Try.prog 42 #[.pointer (some ⟨l, 0, none⟩)] w fun e w' => e = .returned (.int .i64 (ps.length : Int)) ∧ w = w' := by
  have C := hide (made_yes w h)
  have c0 := h.lcell
  obtain ⟨A, cp, rfl, h1, h2⟩ := h.parts.shape
  obtain ⟨k0, k1, _, _⟩ := h.parts.cells
  have hl := h.parts.len
  unfold maxLen at h2
  clear h
  go_enter Try.func42, Try.ntmps42
  go_wp2_with (fail)
  refine C.out.mono ?_
  rintro e w1 ⟨rfl, rfl⟩
  go_wp2
  go_ret
  exact ⟨rfl, rfl⟩
theorem committed_yes (w : World) (h : LogAt S w l k base v ps c) : Calls Try.prog 43 #[.pointer (some ⟨l, 0, none⟩)] w fun e w' => e = .returned (.int .i64 (c : Int)) ∧ w = w' := by
  have C := hide (made_yes w h)
  have c0 := h.lcell
  obtain ⟨k0, k1, _, _⟩ := h.parts.cells
  clear h
  go_enter Try.func43, Try.ntmps43
  go_wp2_with (fail)
  refine C.out.mono ?_
  rintro e w1 ⟨rfl, rfl⟩
  go_wp2
  go_ret
  exact ⟨rfl, rfl⟩
theorem last_no (p : Value) (w : World) (h : NoLog w p) : Calls Try.prog 42 #[p] w fun e w' => e = .returned (.int .i64 0) ∧ w = w' := by
  have C := hide (made_no p w h)
  have hp : ∃ a, p = .pointer a := by rcases h with rfl | ⟨g, rfl, _⟩ <;> exact ⟨_, rfl⟩
  obtain ⟨a, rfl⟩ := hp
  clear h
  go_enter Try.func42, Try.ntmps42
  go_wp2_with (fail)
  refine C.out.mono ?_
  rintro e w1 ⟨rfl, rfl⟩
  go_wp2
  go_ret
  exact ⟨rfl, rfl⟩
theorem committed_no (p : Value) (w : World) (h : NoLog w p) : Calls Try.prog 43 #[p] w fun e w' => e = .returned (.int .i64 0) ∧ w = w' := by
  have C := hide (made_no p w h)
  have hp : ∃ a, p = .pointer a := by rcases h with rfl | ⟨g, rfl, _⟩ <;> exact ⟨_, rfl⟩
  obtain ⟨a, rfl⟩ := hp
  clear h
  go_enter Try.func43, Try.ntmps43
  go_wp2_with (fail)
  refine C.out.mono ?_
  rintro e w1 ⟨rfl, rfl⟩
  go_wp2
  go_ret
  exact ⟨rfl, rfl⟩
/-- part: the operations behind number a, up to number b. -/
theorem part_any (a b : Nat) (w : World) (h : PartsAt S w k base v ps c) (hab : a ≤ b) (hb : b ≤ ps.length) :
    Calls Try.prog 60 #[.pointer (some ⟨k, 0, none⟩), .int .i64 (a : Int), .int .i64 (b : Int)] w fun e w' => ∃ v', e = .returned v' ∧ OpsIn S w v' ((ps.take b).drop a) ∧ w = w' := by
  have hops := h.ops
  obtain ⟨A, cp, rfl, h1, h2⟩ := h.shape
  obtain ⟨k0, k1, _, _⟩ := h.cells
  have HO := hide (hops.cut hab hb)
  have hl := h.len
  have hs : (Try.prog.info? (Try.prog.elem 39)).map (·.size) = some 10 := by kernel_rfl
  unfold maxLen at h2
  clear h hops
  by_cases hba : b = a
  · subst hba
    have HO2 : Hid (OpsIn S w (.slice A 0 0) []) := by simpa [sliced, Hid] using HO.out
    clear HO
    go_enter Try.func60, Try.ntmps60
    go_wp2
    go_ret
    exact ⟨_, rfl, by simpa using HO2.out, rfl⟩
  · have HO2 : Hid (OpsIn S w (.slice (A.map (·.add (a * 10))) (b - a) (b - a)) ((ps.take b).drop a)) := by
      have := HO.out
      unfold sliced at this
      rwa [if_neg hba] at this
    clear HO
    go_enter Try.func60, Try.ntmps60
    go_wp2
    go_ret
    exact ⟨_, rfl, HO2.out, rfl⟩
end

theorem heap_at {w : World} {n : Nat} (o : Obj) (h : n = w.heap.size) : (w.alloc o).heap[n]? = some o := by
  subst h
  exact heap_alloc_new _ _
/-- What New hands back. -/
def NewLog (w : World) (e : Ending) (w' : World) : Prop :=
  ∃ l k, e = .returned (.pointer (some ⟨l, 0, none⟩)) ∧ Below w.heap.size w w' ∧ LogAt (fun i => w.heap.size ≤ i ∧ i < w'.heap.size) w' l k w'.heap.size (.slice none 0 0) [] 0
theorem new_any (w : World) : Calls Try.prog 27 #[] w (NewLog w) := by
  go_enter Try.func27, Try.ntmps27
  go_wp2
  go_ret
  have hsz : ∀ o1 o2 : Obj, ((w.alloc o1).alloc o2).heap.size = w.heap.size + 2 := fun _ _ => by simp
  refine ⟨w.heap.size + 1, w.heap.size, rfl, ((Below.refl _ _).alloc (Nat.le_refl _) _).alloc (by simp) _, ?_, ⟨?_, World.ownsRow_nil _ _ _ _, by simp, ⟨?_, fun q e => by simp [Value.ownBlock] at e⟩, Nat.le_refl _, by simp, by simp, Nat.le_refl _⟩, ?_⟩
  · exact heap_at _ (by simp)
  · exact (heap_alloc_old _ _ (by simp)).trans (heap_at _ (by simp))
  · simp only [hsz]; omega
  · simp only [hsz]; omega
end Go.Proofs.Ytehcaigkohkbnaa
