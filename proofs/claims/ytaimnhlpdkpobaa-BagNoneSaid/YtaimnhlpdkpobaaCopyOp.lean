/- Copy of package op: an operation, its steps in new memory. -/
import Derived.Test.YtaimnhlpdkpobaaClone
import Derived.Test.YtaimnhlpdkpobaaBox
namespace Go.Proofs.Ytaimnhlpdkpobaa
open Go.RowKit

/-- The block of a slice is a row of cells that may be written, F holds of it. -/
def Free (F : Nat → Prop) (w : World) (v : Value) : Prop := ∀ b o n c, v = .slice (some ⟨b, o, none⟩) n c → F b ∧ ∃ cs t, w.heap[b]? = some (.cells cs t (0, 0))
section
variable {F G : Nat → Prop} {w w' : World} {v : Value}
theorem Free.kept (h : Free F w v) (hk : Kept F w w') : Free F w' v := fun b o n c e => by
  obtain ⟨h1, cs, t, h2⟩ := h b o n c e
  exact ⟨h1, cs, t, (hk.2 b (lt_of_block h2) h1).trans h2⟩
theorem Free.mono (h : Free F w v) (hg : ∀ i, i < w.heap.size → F i → G i) : Free G w v := fun b o n c e => by
  obtain ⟨h1, cs, t, h2⟩ := h b o n c e
  exact ⟨hg b (lt_of_block h2) h1, cs, t, h2⟩
theorem Free.of_own {base e k n : Nat} {xs : List Value} (h : w.ownsRow base e k v n xs) : Free (fun b => base ≤ b ∧ some b = v.ownBlock) w v := fun b o n' c e' => by
  rcases h.2 with ⟨rfl, _⟩ | ⟨g, cap, cur, rfl, hg, hc, _⟩
  · cases e'
  · injection e' with e1 _ _
    injection e1 with e1
    injection e1 with e1 _ _
    subst e1
    exact ⟨⟨hg, rfl⟩, cur, e, hc⟩
theorem Free.frozen (h : Free F w v) : ∀ b o n c, v = .slice (some ⟨b, o, none⟩) n c → ∀ j, w.frozen? ⟨b, j, none⟩ = false := fun b o n c e j => by
  obtain ⟨_, cs, t, h2⟩ := h b o n c e
  exact frozen_of_row w b j cs t h2
end
/-- What Copy hands back; its steps may be written. -/
def OpOwned (o : OpD) (w : World) (e : Ending) (w' : World) : Prop :=
  ∃ s, e = .returned (.agg (o.cells s).toArray) ∧ (StepsAt (w.heap.size ≤ ·) w' s o.steps ∧ Free (w.heap.size ≤ ·) w' s) ∧ Below w.heap.size w w'
/-- What Copy hands back. -/
def OpCopied (o : OpD) (w : World) (e : Ending) (w' : World) : Prop :=
  ∃ s, e = .returned (.agg (o.cells s).toArray) ∧ StepsAt (w.heap.size ≤ ·) w' s o.steps ∧ Below w.heap.size w w'

theorem own_slice {w : World} {base e k n : Nat} {v : Value} {xs : List Value} (h : w.ownsRow base e k v n xs) : ∃ A c, v = .slice A n c ∧ n ≤ c := by
  rcases h.2 with ⟨rfl, rfl⟩ | ⟨g, cap, cur, rfl, _, _, hnc, _⟩
  · exact ⟨none, 0, rfl, Nat.le_refl _⟩
  · exact ⟨_, cap, rfl, hnc⟩

theorem steps_one (l : List StepD) : ∀ u ∈ l.flatMap StepD.cells, u.oneCell' = true := by
  intro u hu
  obtain ⟨s, _, h⟩ := List.mem_flatMap.1 hu
  exact s.one u h

set_option maxHeartbeats 600000 in
set_option maxRecDepth 100000 in
theorem copyop_own (F : Nat → Prop) (o : OpD) (s : Value) (w : World) (h : StepsAt F w s o.steps) (hn : o.steps.length ≤ 1000000) :
    Calls Try.prog 55 #[.agg (o.cells s).toArray] w (OpOwned o w) := by
  have C := hide (fun w' (hb : Below w.heap.size w w') => clone_steps F s _ _ w' (FlatAt.kept h (Kept.of_below hb F)) hn)
  obtain ⟨A, c, rfl, _, _, _⟩ := FlatAt.shape h
  clear h
  unfold OpD.cells
  go_enter Try.func55, Try.ntmps55
  go_wp2_with (fail)
  refine (C.out _ (((Below.refl _ _).alloc (Nat.le_refl _) _).alloc (by simp) _)).mono ?_
  rintro e w1 ⟨s', rfl, ho, hb⟩
  have b1 := (hb.block w.heap.size (by simp; omega)).trans (heap_alloc2_old w _ _)
  have b2 := (hb.block (w.heap.size + 1) (by simp)).trans (heap_alloc2_new w _ _)
  have HB : Hid (Below w.heap.size w w1) := (((Below.refl _ _).alloc (Nat.le_refl _) _).alloc (by simp) _).trans (hb.mono (by simp; omega))
  have hs' := hide ((FlatAt.of_own ho (steps_one _)).mono (G := (w.heap.size + 2 ≤ ·)) (fun i _ h => by simp at h; omega))
  have fr' := hide ((Free.of_own ho).mono (G := (w.heap.size + 2 ≤ ·)) (fun i _ h => by have := h.1; simp at this; omega))
  obtain ⟨A', c', rfl, _, _, _⟩ := hs'.out.shape
  obtain ⟨c0, c1, c2, c3, c4, c5, c6, c7, c8, c9⟩ := box10 b1
  have f1 := box_free b1 4
  have B1 : Hid ((w1.setCell ⟨w.heap.size, 4, none⟩ (.slice A' o.steps.length c')).heap[w.heap.size]? = some (.cells (o.cells (.slice A' o.steps.length c')).toArray 33 (0, 0))) := heap_setCell_same w1 _ 4 _ _ _ b1
  have B2 : Hid ((w1.setCell ⟨w.heap.size, 4, none⟩ (.slice A' o.steps.length c')).heap[w.heap.size + 1]? = _) := (heap_setCell_other _ _ _ _ (by simp)).trans b2
  have HB2 : Hid (Below w.heap.size w (w1.setCell ⟨w.heap.size, 4, none⟩ (.slice A' o.steps.length c'))) := HB.out.setCell (by simp) _
  have hs2 := hide (hs'.out.kept (Kept.of_grown (F := (w.heap.size + 2 ≤ ·)) (grown_set w1 w.heap.size 4 (.slice A' o.steps.length c')) (fun g e h => by have e2 := Option.some.inj e; have h2 : w.heap.size + 2 ≤ g := h; omega)))
  have fr2 := hide (fr'.out.kept (Kept.of_grown (F := (w.heap.size + 2 ≤ ·)) (grown_set w1 w.heap.size 4 (.slice A' o.steps.length c')) (fun g e h => by have e2 := Option.some.inj e; have h2 : w.heap.size + 2 ≤ g := h; omega)))
  clear b1 b2 hb ho fr' c0 c1 c2 c3 c5 c6 c7 c8 c9 hs'
  go_wp2_with (refine wpList_load_box (by rfl) 33 _ (by rfl) w.heap.size 0 (by rfl) 33 _ B1.out 10 _ Try.underlying33 (by rfl) (by kernel_rfl) _ (by rfl) (by rfl) ?_; refine wpList_store_box (by rfl) 33 _ _ (by rfl) (w.heap.size + 1) 0 _ (by rfl) (by rfl) 33 _ B2.out (by kernel_rfl) (by exact Nat.le_refl 10) (by exact o.one rfl) ?_; intro w2 hb2 hg2)
  have hb3 : w2.heap[w.heap.size + 1]? = some (.cells (o.cells (.slice A' o.steps.length c')).toArray 33 (0, 0)) := by simpa [putAt, OpD.cells] using hb2
  clear hb2
  refine bodyPost_ret (results_cell_row Try.results55 _ _ (w.heap.size + 1) 33 _ (0, 0) _ (by rfl) hb3 Try.underlying33 (by rfl) (by kernel_rfl)) (by rfl) ⟨_, rfl, ⟨?_, ?_⟩, ?_⟩
  · exact (FlatAt.kept hs2.out (Kept.of_grown hg2 (fun g e h => by have e2 := Option.some.inj e; have h2 : w.heap.size + 2 ≤ g := h; omega))).mono (fun i _ h => by omega)
  · exact (Free.kept fr2.out (Kept.of_grown hg2 (fun g e h => by have e2 := Option.some.inj e; have h2 : w.heap.size + 2 ≤ g := h; omega))).mono (fun i _ h => by omega)
  · exact HB2.out.grown hg2 HB2.out.size (fun k hk => by have := Option.some.inj hk; omega)
theorem copyop_any (F : Nat → Prop) (o : OpD) (s : Value) (w : World) (h : StepsAt F w s o.steps) (hn : o.steps.length ≤ 1000000) :
    Calls Try.prog 55 #[.agg (o.cells s).toArray] w (OpCopied o w) :=
  (copyop_own F o s w h hn).mono fun _ _ ⟨s', e, h, hb⟩ => ⟨s', e, h.1, hb⟩
end Go.Proofs.Ytaimnhlpdkpobaa
