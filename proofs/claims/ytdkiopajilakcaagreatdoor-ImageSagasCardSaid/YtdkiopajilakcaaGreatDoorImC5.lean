/- Texts merged: ImI, ImJ, ImK, ImL, MapHeld, BkM, BkA, BkB, BkC, BkD, ShelfD, Ints, RefInts, BkE, NtOpenE, ImR, ImS, NtRefNum, NtRefRow, NtRefFind, NtRefRow2, NtRefVal, ImN, NtRefDef. -/
import Derived.Test.YtdkiopajilakcaaGreatDoorImC1
import Derived.Test.YtdkiopajilakcaaGreatDoorImC2
import Derived.Test.YtdkiopajilakcaaGreatDoorImC3
import Derived.Test.YtdkiopajilakcaaGreatDoorImC4
import Derived.Maps.OwnSet
import Derived.Shelf.SlIterI.Nil
import Derived.Maps.RangeWalk
import Derived.Shelf.SortM.Plain
import Derived.Shelf.SortM.SortNone
import Derived.Ground.GgzProg
import Derived.Ground.SlgmProg
import Derived.Test.YtdkiopajilakcaaGreatDoorProg
import Derived.Laws.CopyOwn
import Derived.Deep.QuietTactic
import Derived.BigQuiet
import Derived.Handy
import Derived.Laws.AppendOwn
/- What ReadSaga makes of one field. -/
namespace Go.Proofs.YtdkiopajilakcaaGreatDoor
open Go.RowKit Go.Shelf
def SagaD.withD (s : SagaD) (name : ByteArray) (p : Option Addr) (n c : Nat) : SagaD := ⟨name, p, n, c, s.st, s.step, s.tr, s.hit⟩
section
variable {w : World} {T : TypeId} {g : Nat} {s : SagaD}
theorem SBox.st17 (h : SBox T g s w) (v : Int) : SBox T g ⟨s.name, s.p, s.n, s.c, v, s.step, s.tr, s.hit⟩ (w.setCell ⟨g, 2, none⟩ (.int .i64 v)) := heap_setCell_same w g 2 _ _ _ h
theorem SBox.step17 (h : SBox T g s w) (v : Int) : SBox T g ⟨s.name, s.p, s.n, s.c, s.st, v, s.tr, s.hit⟩ (w.setCell ⟨g, 3, none⟩ (.int .i64 v)) := heap_setCell_same w g 3 _ _ _ h
theorem SBox.tr17 (h : SBox T g s w) (v : Int) : SBox T g ⟨s.name, s.p, s.n, s.c, s.st, s.step, v, s.hit⟩ (w.setCell ⟨g, 4, none⟩ (.int .i64 v)) := heap_setCell_same w g 4 _ _ _ h
theorem hit17_cells (s : SagaD) : ∀ (k : Nat), k < 8 → s.cells.toArray.setIfInBounds (5 + k) (.bool true) = (⟨s.name, s.p, s.n, s.c, s.st, s.step, s.tr, s.hit.set k true⟩ : SagaD).cells.toArray
  | 0, _ => rfl
  | 1, _ => rfl
  | 2, _ => rfl
  | 3, _ => rfl
  | 4, _ => rfl
  | 5, _ => rfl
  | 6, _ => rfl
  | 7, _ => rfl
theorem SBox.hit17 (h : SBox T g s w) {k : Nat} (hk : k < 8) : SBox T g ⟨s.name, s.p, s.n, s.c, s.st, s.step, s.tr, s.hit.set k true⟩ (w.setCell ⟨g, 5 + k, none⟩ (.bool true)) := by
  have h1 := heap_setCell_same w g (5 + k) _ _ (.bool true) h
  rw [hit17_cells s k hk] at h1
  exact h1
end
section
variable {ops : Array Oper} {rest : List Oper} {op : Oper} {a : Act} {W : World} {Q : Exit → Act → World → Prop} {g : Nat} {s : SagaD} {T : TypeId}
theorem sdef_put (s : SagaD) (n : ByteArray) (p : Option Addr) (m c : Nat) : putAt s.cells.toArray 0 [.string n, .slice p m c] = (s.withD n p m c).cells.toArray := by simp [putAt, SagaD.cells, SagaD.withD]
theorem wpList_store_sdef (hgd : op.guard = none) (x v : Operand) (ho : op.op = .store 24 x v) (hx : a.eval x = .pointer (some ⟨g, 0, none⟩)) (hg : SBox T g s W) (n : ByteArray) (p : Option Addr) (m c : Nat) (hy : a.eval v = .agg #[.string n, .slice p m c])
    (h : ∀ w', SBox T g (s.withD n p m c) w' → W.grownBy w' (some g) → wpList Tryz.prog ops Q rest (a.put op.dst undef) w') : wpList Tryz.prog ops Q (op :: rest) a W :=
  wpList_store_box hgd 24 x v ho g 0 #[.string n, .slice p m c] hx hy _ _ hg (by kernel_rfl) (by exact Nat.le_of_ble_eq_true rfl) (by intro u hu; simp at hu; rcases hu with rfl | rfl <;> rfl) (fun w' hb hg' => h w' (by rw [show (#[Value.string n, .slice p m c] : Array Value).toList = [.string n, .slice p m c] from rfl, sdef_put] at hb; exact hb) hg')
end
def SagAt (g : Nat) (q : SagaQ) (w : World) : Prop := ∃ (s : SagaD) (l : List StepD), SBox 27 g s w ∧ s.q l = q ∧ StepsAt (fun i => g < i) w s.v l ∧ (∀ x ∈ l, x.wf) ∧ q.fits
theorem step_wf {s : StepD} (h : stepG s = true) : s.wf := by
  unfold stepG mayB at h
  simp at h
  unfold StepD.wf I64
  omega
theorem readDef_wf (l : List Nat) : ∀ x ∈ (readDef l).2.steps, x.wf := by
  unfold readDef
  split
  · intro x hx; cases hx
  · split
    · rename_i h
      intro x hx
      have h1 := h.1
      unfold defG at h1
      simp only [Bool.and_eq_true, List.all_eq_true] at h1
      exact step_wf (h1.2 x hx)
    · intro x hx; cases hx
theorem SagAt.turned {g : Nat} {q : SagaQ} {w w' : World} {S : Nat → Prop} (h : SagAt g q w) (ht : Turned S w w') (hg : ¬ S g) (hs : ∀ i, g < i → ¬ S i) : SagAt g q w' := by
  obtain ⟨s, l, h1, h2, h3, h4, h5⟩ := h
  exact ⟨s, l, (ht.block g (lt_of_block h1) hg).trans h1, h2, StepsAt.kept h3 (ht.kept hs), h4, h5⟩
theorem SagAt.later {g : Nat} {q : SagaQ} {w w' : World} (h : SagAt g q w) (hl : Later w w') : SagAt g q w' := h.turned (Turned.of_below hl (fun _ => False)) id (fun _ _ => id)
section
variable {w : World} {g : Nat} {q : SagaQ}
set_option maxHeartbeats 4000000 in
set_option maxRecDepth 100000 in
theorem take_2 (h : SagAt g q w) (f : Fd) (hf : f.ok w w.heap.size) (hn : f.n ≤ 950000) (hk : f.num = 2) :
    Calls Tryz.prog 15 #[f.val, .pointer (some ⟨g, 0, none⟩)] w fun e w' => e = .returned (.tuple #[]) ∧ SagAt g (sagOn q f.pf) w' ∧ Turned (fun i => i = g) w w' := by
  rw [show f.val = .agg #[.int .i64 f.num, .bool f.text, .int .u64 f.v, .slice f.a f.n f.c] from rfl]
  obtain ⟨W1, hW1⟩ : ∃ W1, W1 = w.alloc (.cells #[.int .i64 f.num, .bool f.text, .int .u64 f.v, .slice f.a f.n f.c] 51 (0, 0)) := ⟨_, rfl⟩
  obtain ⟨d, hd⟩ : ∃ d, d = w.heap.size := ⟨_, rfl⟩
  have X1 : Hid (FBox d f W1) := by rw [hW1, hd]; exact heap_alloc_new _ _
  have L1 : Hid (Later w W1) := by rw [hW1]; exact (Below.refl _ _).alloc (Nat.le_refl _) _
  obtain ⟨s, l, hb, hq, hst, hwf, hfi⟩ := h.later L1.out
  have HB := hide hb
  have HQ := hide hq
  have HST := hide hst
  have HWF := hide hwf
  have HFI := hide hfi
  have HZL := hide (zag_lt f.v hf.2.1)
  have C := hide (zag_any f.v W1 hf.2.1)
  have HGL := hide (lt_of_block hb)
  have c0 : W1.cell? ⟨d, 0, none⟩ = some (.int .i64 f.num) := cell_of_row W1 _ 0 _ _ _ X1.out
  have c2 : W1.cell? ⟨d, 2, none⟩ = some (.int .u64 f.v) := cell_of_row W1 _ 2 _ _ _ X1.out
  have c3 : W1.cell? ⟨d, 3, none⟩ = some (.slice f.a f.n f.c) := cell_of_row W1 _ 3 _ _ _ X1.out
  have c2e := c2
  rw [hW1, hd] at c2e
  have HHF : Hid (Holds W1 W1.heap.size f.a f.n f.b) := (hf.2.2.2.below (show Below w.heap.size w W1 from L1.out)).more (Below.size L1.out)
  have HNC : Hid (f.n ≤ 950000 ∧ f.n ≤ f.c) := ⟨hn, hf.2.2.1⟩
  have HE : Hid (sagOn q f.pf = ⟨q.d, zag f.v, q.step, q.tr, q.hit⟩) := by show sagOn q (f.num, f.text, f.v, f.b) = _; unfold sagOn; simp [hk]
  obtain ⟨nu, hnu⟩ : ∃ nu, f.num = nu := ⟨_, rfl⟩
  have HNU := hide hnu
  rw [hnu] at c0
  rw [← hnu, hk] at c0
  clear hnu hk
  have HW1 := hide hW1.symm
  have HG := hide hd.symm
  clear h hf hn hW1 hd hb hq hst hwf hfi c2
  go_enter Tryz.func15, Tryz.ntmps15
  go_wp2_with (fail)
  simp only [HW1.out, HG.out]
  refine C.out.mono ?_
  rintro e w2 ⟨rfl, hq2⟩
  obtain rfl := hq2
  clear C c2e
  have d2 := HB.out.c2
  have d3 := HB.out.thaw 2
  have HF := hide (HB.out.st17 (zag f.v))
  go_wp2
  go_end0
  refine ⟨rfl, ?_, (Turned.of_below L1.out _).trans (Turned.of_grown (grown_setCells g [.int .i64 (zag f.v)] 2 W1) (fun g e => (Option.some.inj e).symm))⟩
  rw [HE.out]
  refine ⟨_, l, HF.out, ?_, StepsAt.kept HST.out (Turned.kept (Turned.of_grown (grown_setCells g [.int .i64 (zag f.v)] 2 W1) (fun g e => (Option.some.inj e).symm)) (fun i hi e => by have a1 : g < i := hi; have a2 : i = g := e; omega)), HWF.out, ⟨⟨HZL.out.1, HZL.out.2⟩, HFI.out.2.1, HFI.out.2.2⟩⟩
  rw [← HQ.out]
  rfl
set_option maxHeartbeats 4000000 in
set_option maxRecDepth 100000 in
theorem take_3 (h : SagAt g q w) (f : Fd) (hf : f.ok w w.heap.size) (hn : f.n ≤ 950000) (hk : f.num = 3) :
    Calls Tryz.prog 15 #[f.val, .pointer (some ⟨g, 0, none⟩)] w fun e w' => e = .returned (.tuple #[]) ∧ SagAt g (sagOn q f.pf) w' ∧ Turned (fun i => i = g) w w' := by
  rw [show f.val = .agg #[.int .i64 f.num, .bool f.text, .int .u64 f.v, .slice f.a f.n f.c] from rfl]
  obtain ⟨W1, hW1⟩ : ∃ W1, W1 = w.alloc (.cells #[.int .i64 f.num, .bool f.text, .int .u64 f.v, .slice f.a f.n f.c] 51 (0, 0)) := ⟨_, rfl⟩
  obtain ⟨d, hd⟩ : ∃ d, d = w.heap.size := ⟨_, rfl⟩
  have X1 : Hid (FBox d f W1) := by rw [hW1, hd]; exact heap_alloc_new _ _
  have L1 : Hid (Later w W1) := by rw [hW1]; exact (Below.refl _ _).alloc (Nat.le_refl _) _
  obtain ⟨s, l, hb, hq, hst, hwf, hfi⟩ := h.later L1.out
  have HB := hide hb
  have HQ := hide hq
  have HST := hide hst
  have HWF := hide hwf
  have HFI := hide hfi
  have HZL := hide (zag_lt f.v hf.2.1)
  have C := hide (zag_any f.v W1 hf.2.1)
  have HGL := hide (lt_of_block hb)
  have c0 : W1.cell? ⟨d, 0, none⟩ = some (.int .i64 f.num) := cell_of_row W1 _ 0 _ _ _ X1.out
  have c2 : W1.cell? ⟨d, 2, none⟩ = some (.int .u64 f.v) := cell_of_row W1 _ 2 _ _ _ X1.out
  have c3 : W1.cell? ⟨d, 3, none⟩ = some (.slice f.a f.n f.c) := cell_of_row W1 _ 3 _ _ _ X1.out
  have c2e := c2
  rw [hW1, hd] at c2e
  have HHF : Hid (Holds W1 W1.heap.size f.a f.n f.b) := (hf.2.2.2.below (show Below w.heap.size w W1 from L1.out)).more (Below.size L1.out)
  have HNC : Hid (f.n ≤ 950000 ∧ f.n ≤ f.c) := ⟨hn, hf.2.2.1⟩
  have HE : Hid (sagOn q f.pf = ⟨q.d, q.st, zag f.v, q.tr, q.hit⟩) := by show sagOn q (f.num, f.text, f.v, f.b) = _; unfold sagOn; simp [hk]
  obtain ⟨nu, hnu⟩ : ∃ nu, f.num = nu := ⟨_, rfl⟩
  have HNU := hide hnu
  rw [hnu] at c0
  rw [← hnu, hk] at c0
  clear hnu hk
  have HW1 := hide hW1.symm
  have HG := hide hd.symm
  clear h hf hn hW1 hd hb hq hst hwf hfi c2
  go_enter Tryz.func15, Tryz.ntmps15
  go_wp2_with (fail)
  simp only [HW1.out, HG.out]
  refine C.out.mono ?_
  rintro e w2 ⟨rfl, hq2⟩
  obtain rfl := hq2
  clear C c2e
  have d2 := HB.out.c3
  have d3 := HB.out.thaw 3
  have HF := hide (HB.out.step17 (zag f.v))
  go_wp2
  go_end0
  refine ⟨rfl, ?_, (Turned.of_below L1.out _).trans (Turned.of_grown (grown_setCells g [.int .i64 (zag f.v)] 3 W1) (fun g e => (Option.some.inj e).symm))⟩
  rw [HE.out]
  refine ⟨_, l, HF.out, ?_, StepsAt.kept HST.out (Turned.kept (Turned.of_grown (grown_setCells g [.int .i64 (zag f.v)] 3 W1) (fun g e => (Option.some.inj e).symm)) (fun i hi e => by have a1 : g < i := hi; have a2 : i = g := e; omega)), HWF.out, ⟨HFI.out.1, ⟨HZL.out.1, HZL.out.2⟩, HFI.out.2.2⟩⟩
  rw [← HQ.out]
  rfl
set_option maxHeartbeats 4000000 in
set_option maxRecDepth 100000 in
theorem take_4 (h : SagAt g q w) (f : Fd) (hf : f.ok w w.heap.size) (hn : f.n ≤ 950000) (hk : f.num = 4) :
    Calls Tryz.prog 15 #[f.val, .pointer (some ⟨g, 0, none⟩)] w fun e w' => e = .returned (.tuple #[]) ∧ SagAt g (sagOn q f.pf) w' ∧ Turned (fun i => i = g) w w' := by
  rw [show f.val = .agg #[.int .i64 f.num, .bool f.text, .int .u64 f.v, .slice f.a f.n f.c] from rfl]
  obtain ⟨W1, hW1⟩ : ∃ W1, W1 = w.alloc (.cells #[.int .i64 f.num, .bool f.text, .int .u64 f.v, .slice f.a f.n f.c] 51 (0, 0)) := ⟨_, rfl⟩
  obtain ⟨d, hd⟩ : ∃ d, d = w.heap.size := ⟨_, rfl⟩
  have X1 : Hid (FBox d f W1) := by rw [hW1, hd]; exact heap_alloc_new _ _
  have L1 : Hid (Later w W1) := by rw [hW1]; exact (Below.refl _ _).alloc (Nat.le_refl _) _
  obtain ⟨s, l, hb, hq, hst, hwf, hfi⟩ := h.later L1.out
  have HB := hide hb
  have HQ := hide hq
  have HST := hide hst
  have HWF := hide hwf
  have HFI := hide hfi
  have HZL := hide (zag_lt f.v hf.2.1)
  have C := hide (zag_any f.v W1 hf.2.1)
  have HGL := hide (lt_of_block hb)
  have c0 : W1.cell? ⟨d, 0, none⟩ = some (.int .i64 f.num) := cell_of_row W1 _ 0 _ _ _ X1.out
  have c2 : W1.cell? ⟨d, 2, none⟩ = some (.int .u64 f.v) := cell_of_row W1 _ 2 _ _ _ X1.out
  have c3 : W1.cell? ⟨d, 3, none⟩ = some (.slice f.a f.n f.c) := cell_of_row W1 _ 3 _ _ _ X1.out
  have c2e := c2
  rw [hW1, hd] at c2e
  have HHF : Hid (Holds W1 W1.heap.size f.a f.n f.b) := (hf.2.2.2.below (show Below w.heap.size w W1 from L1.out)).more (Below.size L1.out)
  have HNC : Hid (f.n ≤ 950000 ∧ f.n ≤ f.c) := ⟨hn, hf.2.2.1⟩
  have HE : Hid (sagOn q f.pf = ⟨q.d, q.st, q.step, zag f.v, q.hit⟩) := by show sagOn q (f.num, f.text, f.v, f.b) = _; unfold sagOn; simp [hk]
  obtain ⟨nu, hnu⟩ : ∃ nu, f.num = nu := ⟨_, rfl⟩
  have HNU := hide hnu
  rw [hnu] at c0
  rw [← hnu, hk] at c0
  clear hnu hk
  have HW1 := hide hW1.symm
  have HG := hide hd.symm
  clear h hf hn hW1 hd hb hq hst hwf hfi c2
  go_enter Tryz.func15, Tryz.ntmps15
  go_wp2_with (fail)
  simp only [HW1.out, HG.out]
  refine C.out.mono ?_
  rintro e w2 ⟨rfl, hq2⟩
  obtain rfl := hq2
  clear C c2e
  have d2 := HB.out.c4
  have d3 := HB.out.thaw 4
  have HF := hide (HB.out.tr17 (zag f.v))
  go_wp2
  go_end0
  refine ⟨rfl, ?_, (Turned.of_below L1.out _).trans (Turned.of_grown (grown_setCells g [.int .i64 (zag f.v)] 4 W1) (fun g e => (Option.some.inj e).symm))⟩
  rw [HE.out]
  refine ⟨_, l, HF.out, ?_, StepsAt.kept HST.out (Turned.kept (Turned.of_grown (grown_setCells g [.int .i64 (zag f.v)] 4 W1) (fun g e => (Option.some.inj e).symm)) (fun i hi e => by have a1 : g < i := hi; have a2 : i = g := e; omega)), HWF.out, ⟨HFI.out.1, HFI.out.2.1, ⟨HZL.out.1, HZL.out.2⟩⟩⟩
  rw [← HQ.out]
  rfl
set_option maxHeartbeats 4000000 in
set_option maxRecDepth 100000 in
theorem take_x (h : SagAt g q w) (f : Fd) (hf : f.ok w w.heap.size) (hn : f.n ≤ 950000) (k1 : f.num ≠ 1) (k2 : f.num ≠ 2) (k3 : f.num ≠ 3) (k4 : f.num ≠ 4) (k5 : f.num ≠ 5) :
    Calls Tryz.prog 15 #[f.val, .pointer (some ⟨g, 0, none⟩)] w fun e w' => e = .returned (.tuple #[]) ∧ SagAt g (sagOn q f.pf) w' ∧ Turned (fun i => i = g) w w' := by
  rw [show f.val = .agg #[.int .i64 f.num, .bool f.text, .int .u64 f.v, .slice f.a f.n f.c] from rfl]
  obtain ⟨W1, hW1⟩ : ∃ W1, W1 = w.alloc (.cells #[.int .i64 f.num, .bool f.text, .int .u64 f.v, .slice f.a f.n f.c] 51 (0, 0)) := ⟨_, rfl⟩
  obtain ⟨d, hd⟩ : ∃ d, d = w.heap.size := ⟨_, rfl⟩
  have X1 : Hid (FBox d f W1) := by rw [hW1, hd]; exact heap_alloc_new _ _
  have L1 : Hid (Later w W1) := by rw [hW1]; exact (Below.refl _ _).alloc (Nat.le_refl _) _
  obtain ⟨s, l, hb, hq, hst, hwf, hfi⟩ := h.later L1.out
  have HB := hide hb
  have HQ := hide hq
  have HST := hide hst
  have HWF := hide hwf
  have HFI := hide hfi
  have HZL := hide (zag_lt f.v hf.2.1)
  have C := hide (zag_any f.v W1 hf.2.1)
  have HGL := hide (lt_of_block hb)
  have c0 : W1.cell? ⟨d, 0, none⟩ = some (.int .i64 f.num) := cell_of_row W1 _ 0 _ _ _ X1.out
  have c2 : W1.cell? ⟨d, 2, none⟩ = some (.int .u64 f.v) := cell_of_row W1 _ 2 _ _ _ X1.out
  have c3 : W1.cell? ⟨d, 3, none⟩ = some (.slice f.a f.n f.c) := cell_of_row W1 _ 3 _ _ _ X1.out
  have c2e := c2
  rw [hW1, hd] at c2e
  have HHF : Hid (Holds W1 W1.heap.size f.a f.n f.b) := (hf.2.2.2.below (show Below w.heap.size w W1 from L1.out)).more (Below.size L1.out)
  have HNC : Hid (f.n ≤ 950000 ∧ f.n ≤ f.c) := ⟨hn, hf.2.2.1⟩
  have HE : Hid (sagOn q f.pf = q) := by show sagOn q (f.num, f.text, f.v, f.b) = _; unfold sagOn hitOn; simp [k1, k2, k3, k4, k5]
  obtain ⟨nu, hnu⟩ : ∃ nu, f.num = nu := ⟨_, rfl⟩
  have HNU := hide hnu
  rw [hnu] at c0
  have t1 : (nu == 1) = false := by rw [← hnu]; rw [beq_eq_false_iff_ne]; exact k1
  have t2 : (nu == 2) = false := by rw [← hnu]; rw [beq_eq_false_iff_ne]; exact k2
  have t3 : (nu == 3) = false := by rw [← hnu]; rw [beq_eq_false_iff_ne]; exact k3
  have t4 : (nu == 4) = false := by rw [← hnu]; rw [beq_eq_false_iff_ne]; exact k4
  have t5 : (nu == 5) = false := by rw [← hnu]; rw [beq_eq_false_iff_ne]; exact k5
  clear hnu k1 k2 k3 k4 k5
  have HW1 := hide hW1.symm
  have HG := hide hd.symm
  clear h hf hn hW1 hd hb hq hst hwf hfi c2
  go_enter Tryz.func15, Tryz.ntmps15
  go_wp2_with (fail)
  simp only [HW1.out, HG.out]
  refine C.out.mono ?_
  rintro e w2 ⟨rfl, hq2⟩
  obtain rfl := hq2
  clear C c2e
  go_wp2
  go_end0
  refine ⟨rfl, ?_, Turned.of_below L1.out _⟩
  rw [HE.out]
  exact ⟨s, l, HB.out, HQ.out, HST.out, HWF.out, HFI.out⟩
set_option maxHeartbeats 4000000 in
set_option maxRecDepth 100000 in
theorem take_5lo (h : SagAt g q w) (f : Fd) (hf : f.ok w w.heap.size) (hn : f.n ≤ 950000) (hk : f.num = 5) (hz : zag f.v < 1) :
    Calls Tryz.prog 15 #[f.val, .pointer (some ⟨g, 0, none⟩)] w fun e w' => e = .returned (.tuple #[]) ∧ SagAt g (sagOn q f.pf) w' ∧ Turned (fun i => i = g) w w' := by
  rw [show f.val = .agg #[.int .i64 f.num, .bool f.text, .int .u64 f.v, .slice f.a f.n f.c] from rfl]
  obtain ⟨W1, hW1⟩ : ∃ W1, W1 = w.alloc (.cells #[.int .i64 f.num, .bool f.text, .int .u64 f.v, .slice f.a f.n f.c] 51 (0, 0)) := ⟨_, rfl⟩
  obtain ⟨d, hd⟩ : ∃ d, d = w.heap.size := ⟨_, rfl⟩
  have X1 : Hid (FBox d f W1) := by rw [hW1, hd]; exact heap_alloc_new _ _
  have L1 : Hid (Later w W1) := by rw [hW1]; exact (Below.refl _ _).alloc (Nat.le_refl _) _
  obtain ⟨s, l, hb, hq, hst, hwf, hfi⟩ := h.later L1.out
  have HB := hide hb
  have HQ := hide hq
  have HST := hide hst
  have HWF := hide hwf
  have HFI := hide hfi
  have HZL := hide (zag_lt f.v hf.2.1)
  have C := hide (zag_any f.v W1 hf.2.1)
  have HGL := hide (lt_of_block hb)
  have c0 : W1.cell? ⟨d, 0, none⟩ = some (.int .i64 f.num) := cell_of_row W1 _ 0 _ _ _ X1.out
  have c2 : W1.cell? ⟨d, 2, none⟩ = some (.int .u64 f.v) := cell_of_row W1 _ 2 _ _ _ X1.out
  have c3 : W1.cell? ⟨d, 3, none⟩ = some (.slice f.a f.n f.c) := cell_of_row W1 _ 3 _ _ _ X1.out
  have c2e := c2
  rw [hW1, hd] at c2e
  have HHF : Hid (Holds W1 W1.heap.size f.a f.n f.b) := (hf.2.2.2.below (show Below w.heap.size w W1 from L1.out)).more (Below.size L1.out)
  have HNC : Hid (f.n ≤ 950000 ∧ f.n ≤ f.c) := ⟨hn, hf.2.2.1⟩
  have HE : Hid (sagOn q f.pf = q) := by
    show sagOn q (f.num, f.text, f.v, f.b) = _
    unfold sagOn hitOn hitSet
    simp [hk]
    rw [if_neg (by omega)]
  obtain ⟨nu, hnu⟩ : ∃ nu, f.num = nu := ⟨_, rfl⟩
  have HNU := hide hnu
  rw [hnu] at c0
  rw [← hnu, hk] at c0
  clear hnu hk
  have z1 : decide (1 ≤ zag f.v) = false := by simp; omega
  have z8 : decide (zag f.v ≤ 8) = true := by simp; omega
  clear hz
  have HW1 := hide hW1.symm
  have HG := hide hd.symm
  clear h hf hn hW1 hd hb hq hst hwf hfi c2
  go_enter Tryz.func15, Tryz.ntmps15
  go_wp2_with (fail)
  simp only [HW1.out, HG.out]
  refine C.out.mono ?_
  rintro e w2 ⟨rfl, hq2⟩
  obtain rfl := hq2
  clear C c2e
  go_wp2
  go_end0
  refine ⟨rfl, ?_, Turned.of_below L1.out _⟩
  rw [HE.out]
  exact ⟨s, l, HB.out, HQ.out, HST.out, HWF.out, HFI.out⟩
set_option maxHeartbeats 4000000 in
set_option maxRecDepth 100000 in
theorem take_5hi (h : SagAt g q w) (f : Fd) (hf : f.ok w w.heap.size) (hn : f.n ≤ 950000) (hk : f.num = 5) (hz0 : 1 ≤ zag f.v) (hz : 8 < zag f.v) :
    Calls Tryz.prog 15 #[f.val, .pointer (some ⟨g, 0, none⟩)] w fun e w' => e = .returned (.tuple #[]) ∧ SagAt g (sagOn q f.pf) w' ∧ Turned (fun i => i = g) w w' := by
  rw [show f.val = .agg #[.int .i64 f.num, .bool f.text, .int .u64 f.v, .slice f.a f.n f.c] from rfl]
  obtain ⟨W1, hW1⟩ : ∃ W1, W1 = w.alloc (.cells #[.int .i64 f.num, .bool f.text, .int .u64 f.v, .slice f.a f.n f.c] 51 (0, 0)) := ⟨_, rfl⟩
  obtain ⟨d, hd⟩ : ∃ d, d = w.heap.size := ⟨_, rfl⟩
  have X1 : Hid (FBox d f W1) := by rw [hW1, hd]; exact heap_alloc_new _ _
  have L1 : Hid (Later w W1) := by rw [hW1]; exact (Below.refl _ _).alloc (Nat.le_refl _) _
  obtain ⟨s, l, hb, hq, hst, hwf, hfi⟩ := h.later L1.out
  have HB := hide hb
  have HQ := hide hq
  have HST := hide hst
  have HWF := hide hwf
  have HFI := hide hfi
  have HZL := hide (zag_lt f.v hf.2.1)
  have C := hide (zag_any f.v W1 hf.2.1)
  have HGL := hide (lt_of_block hb)
  have c0 : W1.cell? ⟨d, 0, none⟩ = some (.int .i64 f.num) := cell_of_row W1 _ 0 _ _ _ X1.out
  have c2 : W1.cell? ⟨d, 2, none⟩ = some (.int .u64 f.v) := cell_of_row W1 _ 2 _ _ _ X1.out
  have c3 : W1.cell? ⟨d, 3, none⟩ = some (.slice f.a f.n f.c) := cell_of_row W1 _ 3 _ _ _ X1.out
  have c2e := c2
  rw [hW1, hd] at c2e
  have HHF : Hid (Holds W1 W1.heap.size f.a f.n f.b) := (hf.2.2.2.below (show Below w.heap.size w W1 from L1.out)).more (Below.size L1.out)
  have HNC : Hid (f.n ≤ 950000 ∧ f.n ≤ f.c) := ⟨hn, hf.2.2.1⟩
  have HE : Hid (sagOn q f.pf = q) := by
    show sagOn q (f.num, f.text, f.v, f.b) = _
    unfold sagOn hitOn hitSet
    simp [hk]
    rw [if_neg (by omega)]
  obtain ⟨nu, hnu⟩ : ∃ nu, f.num = nu := ⟨_, rfl⟩
  have HNU := hide hnu
  rw [hnu] at c0
  rw [← hnu, hk] at c0
  clear hnu hk
  have z1 : decide (1 ≤ zag f.v) = true := by simp; omega
  have z8 : decide (zag f.v ≤ 8) = false := by simp; omega
  clear hz hz0
  have HW1 := hide hW1.symm
  have HG := hide hd.symm
  clear h hf hn hW1 hd hb hq hst hwf hfi c2
  go_enter Tryz.func15, Tryz.ntmps15
  go_wp2_with (fail)
  simp only [HW1.out, HG.out]
  refine C.out.mono ?_
  rintro e w2 ⟨rfl, hq2⟩
  obtain rfl := hq2
  clear C c2e
  go_wp2
  go_end0
  refine ⟨rfl, ?_, Turned.of_below L1.out _⟩
  rw [HE.out]
  exact ⟨s, l, HB.out, HQ.out, HST.out, HWF.out, HFI.out⟩
set_option maxHeartbeats 4000000 in
set_option maxRecDepth 100000 in
theorem take_5 (h : SagAt g q w) (f : Fd) (hf : f.ok w w.heap.size) (hn : f.n ≤ 950000) (hk : f.num = 5) (hz1 : 1 ≤ zag f.v) (hz8 : zag f.v ≤ 8) :
    Calls Tryz.prog 15 #[f.val, .pointer (some ⟨g, 0, none⟩)] w fun e w' => e = .returned (.tuple #[]) ∧ SagAt g (sagOn q f.pf) w' ∧ Turned (fun i => i = g) w w' := by
  rw [show f.val = .agg #[.int .i64 f.num, .bool f.text, .int .u64 f.v, .slice f.a f.n f.c] from rfl]
  obtain ⟨W1, hW1⟩ : ∃ W1, W1 = w.alloc (.cells #[.int .i64 f.num, .bool f.text, .int .u64 f.v, .slice f.a f.n f.c] 51 (0, 0)) := ⟨_, rfl⟩
  obtain ⟨d, hd⟩ : ∃ d, d = w.heap.size := ⟨_, rfl⟩
  have X1 : Hid (FBox d f W1) := by rw [hW1, hd]; exact heap_alloc_new _ _
  have L1 : Hid (Later w W1) := by rw [hW1]; exact (Below.refl _ _).alloc (Nat.le_refl _) _
  obtain ⟨s, l, hb, hq, hst, hwf, hfi⟩ := h.later L1.out
  have HB := hide hb
  have HQ := hide hq
  have HST := hide hst
  have HWF := hide hwf
  have HFI := hide hfi
  have HZL := hide (zag_lt f.v hf.2.1)
  have C := hide (zag_any f.v W1 hf.2.1)
  have HGL := hide (lt_of_block hb)
  have c0 : W1.cell? ⟨d, 0, none⟩ = some (.int .i64 f.num) := cell_of_row W1 _ 0 _ _ _ X1.out
  have c2 : W1.cell? ⟨d, 2, none⟩ = some (.int .u64 f.v) := cell_of_row W1 _ 2 _ _ _ X1.out
  have c3 : W1.cell? ⟨d, 3, none⟩ = some (.slice f.a f.n f.c) := cell_of_row W1 _ 3 _ _ _ X1.out
  have c2e := c2
  rw [hW1, hd] at c2e
  have HHF : Hid (Holds W1 W1.heap.size f.a f.n f.b) := (hf.2.2.2.below (show Below w.heap.size w W1 from L1.out)).more (Below.size L1.out)
  have HNC : Hid (f.n ≤ 950000 ∧ f.n ≤ f.c) := ⟨hn, hf.2.2.1⟩
  obtain ⟨k, hk8, hkz⟩ : ∃ k : Nat, k < 8 ∧ zag f.v = (k : Int) + 1 := ⟨(zag f.v - 1).toNat, by omega, by omega⟩
  have HE : Hid (sagOn q f.pf = ⟨q.d, q.st, q.step, q.tr, q.hit.set k true⟩) := by
    show sagOn q (f.num, f.text, f.v, f.b) = _
    unfold sagOn hitOn hitSet
    simp [hk]
    rw [if_pos (by omega), show (zag f.v).toNat - 1 = k from by omega]
  obtain ⟨nu, hnu⟩ : ∃ nu, f.num = nu := ⟨_, rfl⟩
  have HNU := hide hnu
  rw [hnu] at c0
  rw [← hnu, hk] at c0
  clear hnu hk
  rw [hkz] at C
  clear hz1 hz8 hkz
  have HW1 := hide hW1.symm
  have HG := hide hd.symm
  clear h hf hn hW1 hd hb hq hst hwf hfi c2
  go_enter Tryz.func15, Tryz.ntmps15
  go_wp2_with (fail)
  simp only [HW1.out, HG.out]
  refine C.out.mono ?_
  rintro e w2 ⟨rfl, hq2⟩
  obtain rfl := hq2
  clear C c2e
  have d3 := HB.out.thaw (5 + k)
  obtain ⟨b0, d2⟩ : ∃ b0, W1.cell? ⟨g, 5 + k, none⟩ = some (.bool b0) := ⟨_, HB.out.hitAt hk8⟩
  have HF := hide (HB.out.hit17 hk8)
  go_wp2
  go_end0
  refine ⟨rfl, ?_, (Turned.of_below L1.out _).trans (Turned.of_grown (grown_setCells g [.bool true] (5 + k) W1) (fun g e => (Option.some.inj e).symm))⟩
  rw [HE.out]
  refine ⟨_, l, HF.out, ?_, StepsAt.kept HST.out (Turned.kept (Turned.of_grown (grown_setCells g [.bool true] (5 + k) W1) (fun g e => (Option.some.inj e).symm)) (fun i hi e => by have a1 : g < i := hi; have a2 : i = g := e; omega)), HWF.out, HFI.out⟩
  rw [← HQ.out]
  rfl
set_option maxHeartbeats 4000000 in
set_option maxRecDepth 100000 in
theorem take_1 (h : SagAt g q w) (f : Fd) (hf : f.ok w w.heap.size) (hn : f.n ≤ 950000) (hk : f.num = 1) :
    Calls Tryz.prog 15 #[f.val, .pointer (some ⟨g, 0, none⟩)] w fun e w' => e = .returned (.tuple #[]) ∧ SagAt g (sagOn q f.pf) w' ∧ Turned (fun i => i = g) w w' := by
  rw [show f.val = .agg #[.int .i64 f.num, .bool f.text, .int .u64 f.v, .slice f.a f.n f.c] from rfl]
  obtain ⟨W1, hW1⟩ : ∃ W1, W1 = w.alloc (.cells #[.int .i64 f.num, .bool f.text, .int .u64 f.v, .slice f.a f.n f.c] 51 (0, 0)) := ⟨_, rfl⟩
  obtain ⟨d, hd⟩ : ∃ d, d = w.heap.size := ⟨_, rfl⟩
  have X1 : Hid (FBox d f W1) := by rw [hW1, hd]; exact heap_alloc_new _ _
  have L1 : Hid (Later w W1) := by rw [hW1]; exact (Below.refl _ _).alloc (Nat.le_refl _) _
  obtain ⟨s, l, hb, hq, hst, hwf, hfi⟩ := h.later L1.out
  have HB := hide hb
  have HQ := hide hq
  have HST := hide hst
  have HWF := hide hwf
  have HFI := hide hfi
  have HZL := hide (zag_lt f.v hf.2.1)
  have C := hide (zag_any f.v W1 hf.2.1)
  have HGL := hide (lt_of_block hb)
  have c0 : W1.cell? ⟨d, 0, none⟩ = some (.int .i64 f.num) := cell_of_row W1 _ 0 _ _ _ X1.out
  have c2 : W1.cell? ⟨d, 2, none⟩ = some (.int .u64 f.v) := cell_of_row W1 _ 2 _ _ _ X1.out
  have c3 : W1.cell? ⟨d, 3, none⟩ = some (.slice f.a f.n f.c) := cell_of_row W1 _ 3 _ _ _ X1.out
  have c2e := c2
  rw [hW1, hd] at c2e
  have HHF : Hid (Holds W1 W1.heap.size f.a f.n f.b) := (hf.2.2.2.below (show Below w.heap.size w W1 from L1.out)).more (Below.size L1.out)
  have HNC : Hid (f.n ≤ 950000 ∧ f.n ≤ f.c) := ⟨hn, hf.2.2.1⟩
  have HE : Hid (sagOn q f.pf = ⟨(readDef f.b).2, q.st, q.step, q.tr, q.hit⟩) := by show sagOn q (f.num, f.text, f.v, f.b) = _; unfold sagOn; simp [hk]
  have CR := hide (readDef_any HHF.out HNC.out.1 HNC.out.2)
  obtain ⟨nu, hnu⟩ : ∃ nu, f.num = nu := ⟨_, rfl⟩
  have HNU := hide hnu
  rw [hnu] at c0
  rw [← hnu, hk] at c0
  clear hnu hk
  have HW1 := hide hW1.symm
  have HG := hide hd.symm
  clear h hf hn hW1 hd hb hq hst hwf hfi c2
  go_enter Tryz.func15, Tryz.ntmps15
  go_wp2_with (fail)
  simp only [HW1.out, HG.out]
  refine C.out.mono ?_
  rintro e w2 ⟨rfl, hq2⟩
  obtain rfl := hq2
  clear C c2e
  go_wp2_with (fail)
  refine CR.out.mono ?_
  rintro e w3 ⟨x, er, sA, sc, hx, _, rfl, hs3, hl3⟩
  have HX := hide hx
  have HS3 := hide hs3
  have L3 : Hid (Later W1 w3) := hl3
  have B3 : Hid (SBox 27 g s w3) := HB.out.below hl3
  clear hx hs3 hl3 CR
  go_wp2_with (refine wpList_store_sdef (by rfl) _ _ (by rfl) (by rfl) B3.out x.name sA x.steps.length sc (by rfl) ?_)
  intro w4 Z4 G4
  have HZ4 := hide Z4
  have T4 : Hid (Turned (fun i => i = g) w3 w4) := Turned.of_grown G4 (fun g e => (Option.some.inj e).symm)
  clear Z4 G4
  go_wp2
  go_end0
  refine ⟨rfl, ?_, ((Turned.of_below L1.out _).trans (Turned.of_below L3.out _)).trans T4.out⟩
  rw [HE.out]
  refine ⟨_, x.steps, HZ4.out, ?_, ?_, ?_, HFI.out⟩
  · rw [← HQ.out, ← HX.out]
    rfl
  · have a1 : StepsAt (fun i => g < i) w3 (.slice sA x.steps.length sc) x.steps := StepsAt.mono HS3.out (fun i _ hi => by have a1 : W1.heap.size ≤ i := hi; have := HGL.out; omega)
    exact StepsAt.kept a1 (T4.out.kept (fun i hi e => by have a1 : g < i := hi; have a2 : i = g := e; omega))
  · rw [HX.out]
    exact readDef_wf f.b
theorem take_any (h : SagAt g q w) (f : Fd) (hf : f.ok w w.heap.size) (hn : f.n ≤ 950000) :
    Calls Tryz.prog 15 #[f.val, .pointer (some ⟨g, 0, none⟩)] w fun e w' => e = .returned (.tuple #[]) ∧ SagAt g (sagOn q f.pf) w' ∧ Turned (fun i => i = g) w w' := by
  by_cases k1 : f.num = 1
  · exact take_1 h f hf hn k1
  by_cases k2 : f.num = 2
  · exact take_2 h f hf hn k2
  by_cases k3 : f.num = 3
  · exact take_3 h f hf hn k3
  by_cases k4 : f.num = 4
  · exact take_4 h f hf hn k4
  by_cases k5 : f.num = 5
  · by_cases z1 : zag f.v < 1
    · exact take_5lo h f hf hn k5 z1
    by_cases z8 : 8 < zag f.v
    · exact take_5hi h f hf hn k5 (by omega) z8
    exact take_5 h f hf hn k5 (by omega) (by omega)
  exact take_x h f hf hn k1 k2 k3 k4 k5
end
end Go.Proofs.YtdkiopajilakcaaGreatDoor
/- same: are two texts of bytes the same? -/
namespace Go.Proofs.YtdkiopajilakcaaGreatDoor
open Go.RowKit
section
variable {w : World}
set_option maxHeartbeats 4000000 in
set_option maxRecDepth 100000 in
theorem same17_any {A A2 : Option Addr} {n c n2 c2 B B2 : Nat} {l m : List Nat} (hl : Holds w B A n l) (hm : Holds w B2 A2 n2 m) :
    Calls Tryz.prog 19 #[.slice A n c, .slice A2 n2 c2] w fun e w' => e = .returned (.bool (decide (l = m))) ∧ w = w' := by
  have d1 := run_str w B A n c l hl
  have d2 := run_str w B2 A2 n2 c2 m hm
  have hq : ((str l).toList == (str m).toList) = decide (l = m) := by
    by_cases h : l = m
    · rw [h]; simp
    · rw [decide_eq_false h, beq_eq_false_iff_ne]
      intro e
      rw [str_toList, str_toList] at e
      refine h (str_inj hl.2.1 hm.2.1 ?_)
      unfold str
      rw [e]
  obtain ⟨q, hqq⟩ : ∃ q, decide (l = m) = q := ⟨_, rfl⟩
  rw [hqq] at hq ⊢
  generalize str l = s1 at d1 hq
  generalize str m = s2 at d2 hq
  clear hl hm hqq
  go_enter Tryz.func19, Tryz.ntmps19
  go_wp2
  go_ret
  exact ⟨rfl, rfl⟩
end
end Go.Proofs.YtdkiopajilakcaaGreatDoor
/- ReadSaga of package image. -/
namespace Go.Proofs.YtdkiopajilakcaaGreatDoor
open Go.RowKit Go.Shelf
theorem fsum_mem : ∀ {l : List PF} {p : PF}, p ∈ l → 1 + p.2.2.2.length ≤ fsum l
  | [], _, h => by cases h
  | x :: r, p, h => by
    unfold fsum
    rw [List.map_cons, List.sum_cons]
    rcases List.mem_cons.1 h with rfl | h
    · omega
    · have := fsum_mem h
      unfold fsum at this
      omega
theorem fsum_count : ∀ (l : List PF), l.length ≤ fsum l
  | [] => by simp [fsum]
  | x :: r => by
    have := fsum_count r
    unfold fsum at this ⊢
    rw [List.map_cons, List.sum_cons, List.length_cons]
    omega
section
variable {w : World} {g : Nat} {q0 : SagaQ}
set_option maxHeartbeats 8000000 in
set_option maxRecDepth 100000 in
theorem rdsaga_any (h : SagAt g q0 w) {A : Option Addr} {n c : Nat} {b : List Nat} (hl : Holds w w.heap.size A n b) (hn : n ≤ 900000) (hc : n ≤ c) :
    Calls Tryz.prog 14 #[.slice A n c, .func (.func 15) #[] #[.pointer (some ⟨g, 0, none⟩)]] w fun e w' =>
      e = .returned (.int .i64 ((pread b).1 : Nat)) ∧ SagAt g ((pread b).2.foldl sagOn q0) w' ∧ Turned (fun i => i = g) w w' := by
  have C := hide (read_any A n c b w hl (by omega) hc)
  have HS := hide h
  have HLN : Hid (b.length ≤ 900000) := by have := hl.1; show _ ≤ _; omega
  have HGL : Hid (g < w.heap.size) := by obtain ⟨s, l, h1, _⟩ := h; exact lt_of_block h1
  obtain ⟨er, her⟩ : ∃ er, (((pread b).1 : Nat) : Int) = er := ⟨_, rfl⟩
  obtain ⟨L, hL⟩ : ∃ L, (pread b).2 = L := ⟨_, rfl⟩
  have HFS : Hid (fsum L ≤ 900000) := by have := fsum_pread b; rw [hL] at this; have h2 := HLN.out; show _ ≤ _; omega
  unfold ReadIs at C
  rw [her, hL] at C
  rw [her, hL]
  clear h hl hn hc her hL
  go_enter Tryz.func14, Tryz.ntmps14
  go_wp2_with (fail)
  refine C.out.mono ?_
  rintro e w1 ⟨A1, n1, c1, fs, rfl, hpf, hfh, hnc, hb, hown, hfo⟩
  have HPF := hide hpf
  have HFN := hide hfh.1
  have hn1 : n1 ≤ 900000 := by
    have h1 := HFS.out
    have h2 := fsum_count L
    have h3 : fs.length = L.length := by rw [← hpf, List.length_map]
    have h4 := hfh.1
    omega
  have HFB : Hid (∀ f ∈ fs, f.n ≤ 900000) := fun f hf => by
    have h1 : f.pf ∈ L := by rw [← hpf]; exact List.mem_map.2 ⟨f, hf, rfl⟩
    have h2 := fsum_mem h1
    have h3 := HFS.out
    have h4 := (hfh.2.1 f hf).2.2.2.1
    have h5 : f.pf.2.2.2.length = f.b.length := rfl
    omega
  have L1 : Hid (Later w w1) := hb
  have HOW := hide hown
  have HFO := hide hfo
  have HS1 := hide (HS.out.later L1.out)
  clear hpf hfh hnc hb hown hfo C
  go_wp2
  go_loopw [16] (fun s16 wr => ∃ k : Nat, k ≤ n1 ∧ s16 = .int .i64 (k : Int) ∧ Hid (SagAt g (((fs.take k).map Fd.pf).foldl sagOn q0) wr) ∧ Hid (wr.ownsRow w.heap.size 51 4 (.slice A1 n1 c1) n1 (fcells fs)) ∧ Hid (∀ f ∈ fs, FdOwn wr w.heap.size f) ∧ Hid (Turned (fun i => i = g) w wr)) (fun s16 _ => n1 - (Go.RowKit.intOf s16).toNat)
  case atStart => exact ⟨0, by omega, rfl, HS1.out, HOW.out, HFO.out, Turned.of_below L1.out _⟩
  case round =>
    obtain ⟨k, hk, rfl, HA, HO, HF, TR⟩ := hrel
    by_cases hkn : k < n1
    · obtain ⟨f, hf⟩ : ∃ f, fs[k]? = some f := ⟨fs[k]'(by rw [HFN.out]; exact hkn), List.getElem?_eq_getElem _⟩
      obtain ⟨g3, c3, rs3, hv, hg3, _, hb3, _⟩ := own_fblk HO.out (by omega)
      obtain ⟨rfl, rfl⟩ : A1 = some ⟨g3, 0, none⟩ ∧ c1 = c3 := by injection hv with e1 _ e3; exact ⟨e1, e3⟩
      have HR := hide (hb3.range hf)
      have HFM : Hid (f ∈ fs) := List.mem_of_getElem? hf
      have HT : Hid (fs.take (k + 1) = fs.take k ++ [f]) := take_snoc hf
      have I5 : Hid (FBox wr.heap.size fdZ (wr.alloc (.cells #[.int .i64 0, .bool false, .int .u64 0, .slice none 0 0] 51 (0, 0)))) := heap_alloc_new _ _
      have L5a : Hid (Later wr (wr.alloc (.cells #[.int .i64 0, .bool false, .int .u64 0, .slice none 0 0] 51 (0, 0)))) := (Below.refl _ _).alloc (Nat.le_refl _) _
      clear hf hv hg3 hb3
      go_wp2_with (first | (refine wpList_val rfl (by rfl) (exec_load_fd _ (by rfl) (by rfl) HR.out) ?_) | (refine wpList_store_fd (f := f) (by rfl) _ _ (by rfl) (by rfl) I5.out (by rfl) ?_))
      intro w5 Z5 G5
      have L5 : Hid (Later wr w5) := L5a.out.grown G5 (by simp) (fun k hk => by have b1 := Option.some.inj hk; omega)
      have HZR := hide Z5.range
      have T5 : Hid (Turned (fun i => i = g) w w5) := TR.out.trans (Turned.of_below L5.out _)
      have HO5 := hide (own_below_any HO.out L5.out)
      have HF5 : Hid (∀ f ∈ fs, FdOwn w5 w.heap.size f) := fun f hf => (HF.out f hf).below L5.out
      have CT := hide (take_any (HA.out.later L5.out) f (HF5.out f HFM.out).ok (by have := HFB.out f HFM.out; omega))
      clear Z5 G5 I5 L5a
      go_wp2_with (refine wpList_val rfl (by rfl) (exec_load_fd _ (by rfl) (by rfl) HZR.out) ?_)
      refine CT.out.mono ?_
      rintro e w6 ⟨rfl, ha6, ht6⟩
      have HA6 : Hid (SagAt g (((fs.take (k + 1)).map Fd.pf).foldl sagOn q0) w6) := by
        rw [HT.out, List.map_append, List.foldl_append]
        exact ha6
      have hlow : ∀ i, w.heap.size ≤ i → i < w5.heap.size → w6.heap[i]? = w5.heap[i]? := fun i h1 h2 => ht6.block i h2 (fun e => by have := HGL.out; omega)
      have HO6 := hide (own_same_low HO5.out hlow)
      have HF6 : Hid (∀ f ∈ fs, FdOwn w6 w.heap.size f) := fun f hf => (HF5.out f hf).low hlow
      have T6 : Hid (Turned (fun i => i = g) w w6) := T5.out.trans ht6
      clear ha6 ht6 hlow CT
      go_wp2
      go_roundw
      case rel => exact ⟨k + 1, by omega, by go_num, HA6, HO6, HF6, T6⟩
      case measure => simp [Go.RowKit.intOf]; omega
    · obtain rfl : k = n1 := by omega
      have HA9 : Hid (SagAt g (L.foldl sagOn q0) wr) := by
        have h1 := HA.out
        rw [List.take_of_length_le (by rw [HFN.out]; omega), HPF.out] at h1
        exact h1
      go_wp2
      go_ret
      exact ⟨rfl, HA9.out, TR.out⟩
def GotS (w : World) (r : Nat × SagaQ) (e : Ending) (w' : World) : Prop :=
  ∃ (s : SagaD) (l : List StepD), e = .returned (.tuple #[s.val, .int .i64 (r.1 : Nat)]) ∧ s.q l = r.2 ∧ (∃ F : Nat → Prop, StepsAt F w' s.v l) ∧ (∀ x ∈ l, x.wf) ∧ r.2.fits ∧ Later w w'
theorem zero_fits : SagaQ.zero.fits := ⟨⟨by decide, by decide⟩, ⟨by decide, by decide⟩, ⟨by decide, by decide⟩⟩
theorem sagB_O {q : SagaQ} (h : q.good = true) : sagaO q = q.B := by unfold sagaO; rw [h, if_pos rfl]
end
end Go.Proofs.YtdkiopajilakcaaGreatDoor
/- ReadSaga of package image, whole. -/
namespace Go.Proofs.YtdkiopajilakcaaGreatDoor
open Go.RowKit Go.Shelf
section
variable {w : World}
set_option maxHeartbeats 8000000 in
set_option maxRecDepth 100000 in
theorem readsaga_err {A : Option Addr} {n c : Nat} {b : List Nat} (hl : Holds w w.heap.size A n b) (hn : n ≤ 900000) (hc : n ≤ c) (he : (pread b).1 ≠ 0) :
    Calls Tryz.prog 6 #[.slice A n c] w (GotS w ((pread b).1, .zero)) := by
  obtain ⟨y, hy⟩ : ∃ y, y = w.heap.size := ⟨_, rfl⟩
  obtain ⟨W1, hW1⟩ : ∃ W1, W1 = (w.alloc (.cells #[.string ⟨#[]⟩, .slice none 0 0, .int .i64 0, .int .i64 0, .int .i64 0, .bool false, .bool false, .bool false, .bool false, .bool false, .bool false, .bool false, .bool false] 27 (0, 0))).alloc (.cells #[.string ⟨#[]⟩, .slice none 0 0, .int .i64 0, .int .i64 0, .int .i64 0, .bool false, .bool false, .bool false, .bool false, .bool false, .bool false, .bool false, .bool false] 27 (0, 0)) := ⟨_, rfl⟩
  have Y1 : Hid (SBox 27 y SagaD.zero W1) := by rw [hW1, hy]; exact (heap_alloc_old _ _ (by simp)).trans (heap_alloc_new _ _)
  have S1 : Hid (SBox 27 (y + 1) SagaD.zero W1) := by rw [hW1, hy]; exact heap_second _ _ _
  have L1 : Hid (Later w W1) := by rw [hW1]; exact ((Below.refl _ _).alloc (Nat.le_refl _) _).alloc (by simp) _
  have HY : Hid (w.heap.size = y) := hy.symm
  have HA1 : Hid (SagAt (y + 1) SagaQ.zero W1) := ⟨SagaD.zero, [], S1.out, rfl, StepsAt.nil_ _ _, (by simp), zero_fits⟩
  have CR := hide (rdsaga_any HA1.out ((hl.below (show Below w.heap.size w W1 from L1.out)).more (Below.size L1.out)) hn hc)
  have HL := hide hl
  have HW1 := hide hW1.symm
  have HG := hide hy.symm
  obtain ⟨er, her⟩ : ∃ er : Nat, (pread b).1 = er := ⟨_, rfl⟩
  rw [her] at CR he
  rw [her]
  have e0 : (((er : Nat) : Int) != 0) = true := by simp; omega
  have e1 : (((er : Nat) : Int) == 0) = false := by simp; omega
  clear her he
  clear hl hn hc hW1 hy
  go_enter Tryz.func6, Tryz.ntmps6
  go_wp2_with (fail)
  simp only [HW1.out, HG.out]
  refine CR.out.mono ?_
  rintro e w2 ⟨rfl, ha2, ht2⟩
  have HA2 := hide ha2
  have T2 := hide ht2
  have Y2 : Hid (SBox 27 y SagaD.zero w2) := (ht2.block y (lt_of_block Y1.out) (by omega)).trans Y1.out
  have L2 : Hid (Later w w2) := ((Turned.of_below L1.out (fun i => i = y + 1)).trans ht2).below (fun i hi => by have := HY.out; omega) (Nat.le_refl _)
  clear ha2 ht2 CR
  go_wp2_with (refine wpList_store_saga (s := SagaD.zero) (by rfl) _ _ (by rfl) (by rfl) Y2.out (by rfl) ?_)
  intro w9 Z9 G9
  have HZ := hide Z9
  have L9 : Hid (Later w w9) := L2.out.grown G9 (Below.size L2.out) (fun k hk => by have a1 := Option.some.inj hk; have a2 := HY.out; omega)
  clear Z9
  go_wp2
  refine bodyPost_ret (results_box2 Tryz.results6 _ _ y 27 _ _ (by rfl) HZ.out Tryz.underlying27 (by rfl) (by kernel_rfl) (.int .i64 (er : Int)) (by rfl)) (by rfl) ?_
  exact ⟨SagaD.zero, [], rfl, rfl, ⟨fun _ => True, StepsAt.nil_ _ _⟩, (by simp), zero_fits, L9.out⟩
set_option maxHeartbeats 8000000 in
set_option maxRecDepth 100000 in
theorem readsaga_bad {A : Option Addr} {n c : Nat} {b : List Nat} (hl : Holds w w.heap.size A n b) (hn : n ≤ 900000) (hc : n ≤ c) (he : (pread b).1 = 0) (hg : (sagC (pread b).2).good = false) :
    Calls Tryz.prog 6 #[.slice A n c] w (GotS w (4, .zero)) := by
  obtain ⟨y, hy⟩ : ∃ y, y = w.heap.size := ⟨_, rfl⟩
  obtain ⟨W1, hW1⟩ : ∃ W1, W1 = (w.alloc (.cells #[.string ⟨#[]⟩, .slice none 0 0, .int .i64 0, .int .i64 0, .int .i64 0, .bool false, .bool false, .bool false, .bool false, .bool false, .bool false, .bool false, .bool false] 27 (0, 0))).alloc (.cells #[.string ⟨#[]⟩, .slice none 0 0, .int .i64 0, .int .i64 0, .int .i64 0, .bool false, .bool false, .bool false, .bool false, .bool false, .bool false, .bool false, .bool false] 27 (0, 0)) := ⟨_, rfl⟩
  have Y1 : Hid (SBox 27 y SagaD.zero W1) := by rw [hW1, hy]; exact (heap_alloc_old _ _ (by simp)).trans (heap_alloc_new _ _)
  have S1 : Hid (SBox 27 (y + 1) SagaD.zero W1) := by rw [hW1, hy]; exact heap_second _ _ _
  have L1 : Hid (Later w W1) := by rw [hW1]; exact ((Below.refl _ _).alloc (Nat.le_refl _) _).alloc (by simp) _
  have HY : Hid (w.heap.size = y) := hy.symm
  have HA1 : Hid (SagAt (y + 1) SagaQ.zero W1) := ⟨SagaD.zero, [], S1.out, rfl, StepsAt.nil_ _ _, (by simp), zero_fits⟩
  have CR := hide (rdsaga_any HA1.out ((hl.below (show Below w.heap.size w W1 from L1.out)).more (Below.size L1.out)) hn hc)
  have HL := hide hl
  have HW1 := hide hW1.symm
  have HG := hide hy.symm
  obtain ⟨Q, hQ⟩ : ∃ Q, sagC (pread b).2 = Q := ⟨_, rfl⟩
  have hQ2 : (pread b).2.foldl sagOn SagaQ.zero = Q := hQ
  rw [he, hQ2] at CR
  rw [hQ] at hg
  have HGD := hide hg
  clear hQ hQ2 he hg
  clear hl hn hc hW1 hy
  go_enter Tryz.func6, Tryz.ntmps6
  go_wp2_with (fail)
  simp only [HW1.out, HG.out]
  refine CR.out.mono ?_
  rintro e w2 ⟨rfl, ha2, ht2⟩
  have HA2 := hide ha2
  have T2 := hide ht2
  have Y2 : Hid (SBox 27 y SagaD.zero w2) := (ht2.block y (lt_of_block Y1.out) (by omega)).trans Y1.out
  have L2 : Hid (Later w w2) := ((Turned.of_below L1.out (fun i => i = y + 1)).trans ht2).below (fun i hi => by have := HY.out; omega) (Nat.le_refl _)
  clear ha2 ht2 CR
  have hlw : Holds w2 w2.heap.size A n b := (HL.out.below (show Below w.heap.size w w2 from L2.out)).more (Below.size L2.out)
  have HL2 := hide hlw
  obtain ⟨s, l, hs, hq, hst, hwf, hfi⟩ := HA2.out
  have HS := hide hs
  have HST := hide hst
  have HWF := hide hwf
  have HQ : Hid (s.q l = Q) := hq
  have HST1 : Hid (I64 s.step) := by
    have a1 : s.step = (s.q l).step := rfl
    show I64 s.step
    rw [a1, hq]
    exact hfi.2.1
  have HFI : Hid (Q.fits) := hfi
  have CG := hide (good_any hst hwf HST1.out)
  rw [show goodF l s = (s.q l).good from rfl, hq] at CG
  clear hlw hs hst hwf hfi hq
  rw [HGD.out] at CG
  go_wp2_with (refine wpList_val rfl (by rfl) (exec_load_saga _ (by rfl) (by rfl) HS.out) ?_)
  refine CG.out.mono ?_
  rintro e w3 ⟨rfl, hl3⟩
  have Y3 := hide (Y2.out.below hl3)
  have L2a : Later w w2 := L2.out
  have L3 : Hid (Later w w3) := Later.trans L2a hl3
  clear hl3 CG L2a
  go_wp2_with (refine wpList_store_saga (s := SagaD.zero) (by rfl) _ _ (by rfl) (by rfl) Y3.out (by rfl) ?_)
  intro w9 Z9 G9
  have HZ := hide Z9
  have L9 : Hid (Later w w9) := L3.out.grown G9 (Below.size L3.out) (fun k hk => by have a1 := Option.some.inj hk; have a2 := HY.out; omega)
  clear Z9
  go_wp2
  refine bodyPost_ret (results_box2 Tryz.results6 _ _ y 27 _ _ (by rfl) HZ.out Tryz.underlying27 (by rfl) (by kernel_rfl) (.int .i64 4) (by rfl)) (by rfl) ?_
  exact ⟨SagaD.zero, [], rfl, rfl, ⟨fun _ => True, StepsAt.nil_ _ _⟩, (by simp), zero_fits, L9.out⟩
set_option maxHeartbeats 8000000 in
set_option maxRecDepth 100000 in
theorem readsaga_no {A : Option Addr} {n c : Nat} {b : List Nat} (hl : Holds w w.heap.size A n b) (hn : n ≤ 900000) (hc : n ≤ c) (he : (pread b).1 = 0) (hg : (sagC (pread b).2).good = true) (hB : (sagC (pread b).2).B ≠ b) :
    Calls Tryz.prog 6 #[.slice A n c] w (GotS w (4, .zero)) := by
  obtain ⟨y, hy⟩ : ∃ y, y = w.heap.size := ⟨_, rfl⟩
  obtain ⟨W1, hW1⟩ : ∃ W1, W1 = (w.alloc (.cells #[.string ⟨#[]⟩, .slice none 0 0, .int .i64 0, .int .i64 0, .int .i64 0, .bool false, .bool false, .bool false, .bool false, .bool false, .bool false, .bool false, .bool false] 27 (0, 0))).alloc (.cells #[.string ⟨#[]⟩, .slice none 0 0, .int .i64 0, .int .i64 0, .int .i64 0, .bool false, .bool false, .bool false, .bool false, .bool false, .bool false, .bool false, .bool false] 27 (0, 0)) := ⟨_, rfl⟩
  have Y1 : Hid (SBox 27 y SagaD.zero W1) := by rw [hW1, hy]; exact (heap_alloc_old _ _ (by simp)).trans (heap_alloc_new _ _)
  have S1 : Hid (SBox 27 (y + 1) SagaD.zero W1) := by rw [hW1, hy]; exact heap_second _ _ _
  have L1 : Hid (Later w W1) := by rw [hW1]; exact ((Below.refl _ _).alloc (Nat.le_refl _) _).alloc (by simp) _
  have HY : Hid (w.heap.size = y) := hy.symm
  have HA1 : Hid (SagAt (y + 1) SagaQ.zero W1) := ⟨SagaD.zero, [], S1.out, rfl, StepsAt.nil_ _ _, (by simp), zero_fits⟩
  have CR := hide (rdsaga_any HA1.out ((hl.below (show Below w.heap.size w W1 from L1.out)).more (Below.size L1.out)) hn hc)
  have HL := hide hl
  have HW1 := hide hW1.symm
  have HG := hide hy.symm
  obtain ⟨Q, hQ⟩ : ∃ Q, sagC (pread b).2 = Q := ⟨_, rfl⟩
  have hQ2 : (pread b).2.foldl sagOn SagaQ.zero = Q := hQ
  rw [he, hQ2] at CR
  rw [hQ] at hg hB
  have HGD := hide hg
  have HEQ : Hid (decide (Q.B = b) = false) := decide_eq_false hB
  clear hQ hQ2 he hg hB
  clear hl hn hc hW1 hy
  go_enter Tryz.func6, Tryz.ntmps6
  go_wp2_with (fail)
  simp only [HW1.out, HG.out]
  refine CR.out.mono ?_
  rintro e w2 ⟨rfl, ha2, ht2⟩
  have HA2 := hide ha2
  have T2 := hide ht2
  have Y2 : Hid (SBox 27 y SagaD.zero w2) := (ht2.block y (lt_of_block Y1.out) (by omega)).trans Y1.out
  have L2 : Hid (Later w w2) := ((Turned.of_below L1.out (fun i => i = y + 1)).trans ht2).below (fun i hi => by have := HY.out; omega) (Nat.le_refl _)
  clear ha2 ht2 CR
  have hlw : Holds w2 w2.heap.size A n b := (HL.out.below (show Below w.heap.size w w2 from L2.out)).more (Below.size L2.out)
  have HL2 := hide hlw
  obtain ⟨s, l, hs, hq, hst, hwf, hfi⟩ := HA2.out
  have HS := hide hs
  have HST := hide hst
  have HWF := hide hwf
  have HQ : Hid (s.q l = Q) := hq
  have HST1 : Hid (I64 s.step) := by
    have a1 : s.step = (s.q l).step := rfl
    show I64 s.step
    rw [a1, hq]
    exact hfi.2.1
  have HFI : Hid (Q.fits) := hfi
  have CG := hide (good_any hst hwf HST1.out)
  rw [show goodF l s = (s.q l).good from rfl, hq] at CG
  clear hlw hs hst hwf hfi hq
  rw [HGD.out] at CG
  go_wp2_with (refine wpList_val rfl (by rfl) (exec_load_saga _ (by rfl) (by rfl) HS.out) ?_)
  refine CG.out.mono ?_
  rintro e w3 ⟨rfl, hl3⟩
  have Y3 := hide (Y2.out.below hl3)
  have S3 := hide (HS.out.below hl3)
  have L2a : Later w w2 := L2.out
  have L3 : Hid (Later w w3) := Later.trans L2a hl3
  have HL3 : Hid (Holds w3 w3.heap.size A n b) := (HL2.out.below (show Below w2.heap.size w2 w3 from hl3)).more (Below.size hl3)
  have HST3 := hide (StepsAt.kept HST.out (Kept.of_below hl3 _))
  have CS := hide (isaga_any HST3.out HWF.out HST1.out)
  rw [HQ.out, sagB_O HGD.out] at CS
  clear hl3 CG L2a
  go_wp2_with (refine wpList_val rfl (by rfl) (exec_load_saga _ (by rfl) (by rfl) S3.out) ?_)
  refine CS.out.mono ?_
  rintro e w4 ⟨A4, n4, c4, rfl, _, hh4, _, hl4⟩
  have L34 : Hid (Later w3 w4) := hl4
  have L3a : Later w w3 := L3.out
  have L4 : Hid (Later w w4) := Later.trans L3a hl4
  have Y4 := hide (Y3.out.below hl4)
  have S4 := hide (S3.out.below hl4)
  have HST4 := hide (StepsAt.kept HST3.out (Kept.of_below hl4 _))
  have CM := hide (same17_any (n := n4) (c := c4) (n2 := n) (c2 := c) hh4 ((HL3.out.below (show Below w3.heap.size w3 w4 from hl4)).more (Below.size hl4)))
  rw [HEQ.out] at CM
  clear hh4 hl4 CS L3a
  go_wp2_with (fail)
  refine CM.out.mono ?_
  rintro e w5 ⟨rfl, hq5⟩
  obtain rfl := hq5
  clear CM
  go_wp2_with (refine wpList_store_saga (s := SagaD.zero) (by rfl) _ _ (by rfl) (by rfl) Y4.out (by rfl) ?_)
  intro w9 Z9 G9
  have HZ := hide Z9
  have L9 : Hid (Later w w9) := L4.out.grown G9 (Below.size L4.out) (fun k hk => by have a1 := Option.some.inj hk; have a2 := HY.out; omega)
  clear Z9
  go_wp2
  refine bodyPost_ret (results_box2 Tryz.results6 _ _ y 27 _ _ (by rfl) HZ.out Tryz.underlying27 (by rfl) (by kernel_rfl) (.int .i64 4) (by rfl)) (by rfl) ?_
  exact ⟨SagaD.zero, [], rfl, rfl, ⟨fun _ => True, StepsAt.nil_ _ _⟩, (by simp), zero_fits, L9.out⟩
set_option maxHeartbeats 8000000 in
set_option maxRecDepth 100000 in
theorem readsaga_ok {A : Option Addr} {n c : Nat} {b : List Nat} (hl : Holds w w.heap.size A n b) (hn : n ≤ 900000) (hc : n ≤ c) (he : (pread b).1 = 0) (hg : (sagC (pread b).2).good = true) (hB : (sagC (pread b).2).B = b) :
    Calls Tryz.prog 6 #[.slice A n c] w (GotS w (0, sagC (pread b).2)) := by
  obtain ⟨y, hy⟩ : ∃ y, y = w.heap.size := ⟨_, rfl⟩
  obtain ⟨W1, hW1⟩ : ∃ W1, W1 = (w.alloc (.cells #[.string ⟨#[]⟩, .slice none 0 0, .int .i64 0, .int .i64 0, .int .i64 0, .bool false, .bool false, .bool false, .bool false, .bool false, .bool false, .bool false, .bool false] 27 (0, 0))).alloc (.cells #[.string ⟨#[]⟩, .slice none 0 0, .int .i64 0, .int .i64 0, .int .i64 0, .bool false, .bool false, .bool false, .bool false, .bool false, .bool false, .bool false, .bool false] 27 (0, 0)) := ⟨_, rfl⟩
  have Y1 : Hid (SBox 27 y SagaD.zero W1) := by rw [hW1, hy]; exact (heap_alloc_old _ _ (by simp)).trans (heap_alloc_new _ _)
  have S1 : Hid (SBox 27 (y + 1) SagaD.zero W1) := by rw [hW1, hy]; exact heap_second _ _ _
  have L1 : Hid (Later w W1) := by rw [hW1]; exact ((Below.refl _ _).alloc (Nat.le_refl _) _).alloc (by simp) _
  have HY : Hid (w.heap.size = y) := hy.symm
  have HA1 : Hid (SagAt (y + 1) SagaQ.zero W1) := ⟨SagaD.zero, [], S1.out, rfl, StepsAt.nil_ _ _, (by simp), zero_fits⟩
  have CR := hide (rdsaga_any HA1.out ((hl.below (show Below w.heap.size w W1 from L1.out)).more (Below.size L1.out)) hn hc)
  have HL := hide hl
  have HW1 := hide hW1.symm
  have HG := hide hy.symm
  obtain ⟨Q, hQ⟩ : ∃ Q, sagC (pread b).2 = Q := ⟨_, rfl⟩
  have hQ2 : (pread b).2.foldl sagOn SagaQ.zero = Q := hQ
  rw [he, hQ2] at CR
  rw [hQ] at hg hB
  rw [hQ]
  have HGD := hide hg
  have HEQ : Hid (decide (Q.B = b) = true) := decide_eq_true hB
  clear hQ hQ2 he hg hB
  clear hl hn hc hW1 hy
  go_enter Tryz.func6, Tryz.ntmps6
  go_wp2_with (fail)
  simp only [HW1.out, HG.out]
  refine CR.out.mono ?_
  rintro e w2 ⟨rfl, ha2, ht2⟩
  have HA2 := hide ha2
  have T2 := hide ht2
  have Y2 : Hid (SBox 27 y SagaD.zero w2) := (ht2.block y (lt_of_block Y1.out) (by omega)).trans Y1.out
  have L2 : Hid (Later w w2) := ((Turned.of_below L1.out (fun i => i = y + 1)).trans ht2).below (fun i hi => by have := HY.out; omega) (Nat.le_refl _)
  clear ha2 ht2 CR
  have hlw : Holds w2 w2.heap.size A n b := (HL.out.below (show Below w.heap.size w w2 from L2.out)).more (Below.size L2.out)
  have HL2 := hide hlw
  obtain ⟨s, l, hs, hq, hst, hwf, hfi⟩ := HA2.out
  have HS := hide hs
  have HST := hide hst
  have HWF := hide hwf
  have HQ : Hid (s.q l = Q) := hq
  have HST1 : Hid (I64 s.step) := by
    have a1 : s.step = (s.q l).step := rfl
    show I64 s.step
    rw [a1, hq]
    exact hfi.2.1
  have HFI : Hid (Q.fits) := hfi
  have CG := hide (good_any hst hwf HST1.out)
  rw [show goodF l s = (s.q l).good from rfl, hq] at CG
  clear hlw hs hst hwf hfi hq
  rw [HGD.out] at CG
  go_wp2_with (refine wpList_val rfl (by rfl) (exec_load_saga _ (by rfl) (by rfl) HS.out) ?_)
  refine CG.out.mono ?_
  rintro e w3 ⟨rfl, hl3⟩
  have Y3 := hide (Y2.out.below hl3)
  have S3 := hide (HS.out.below hl3)
  have L2a : Later w w2 := L2.out
  have L3 : Hid (Later w w3) := Later.trans L2a hl3
  have HL3 : Hid (Holds w3 w3.heap.size A n b) := (HL2.out.below (show Below w2.heap.size w2 w3 from hl3)).more (Below.size hl3)
  have HST3 := hide (StepsAt.kept HST.out (Kept.of_below hl3 _))
  have CS := hide (isaga_any HST3.out HWF.out HST1.out)
  rw [HQ.out, sagB_O HGD.out] at CS
  clear hl3 CG L2a
  go_wp2_with (refine wpList_val rfl (by rfl) (exec_load_saga _ (by rfl) (by rfl) S3.out) ?_)
  refine CS.out.mono ?_
  rintro e w4 ⟨A4, n4, c4, rfl, _, hh4, _, hl4⟩
  have L34 : Hid (Later w3 w4) := hl4
  have L3a : Later w w3 := L3.out
  have L4 : Hid (Later w w4) := Later.trans L3a hl4
  have Y4 := hide (Y3.out.below hl4)
  have S4 := hide (S3.out.below hl4)
  have HST4 := hide (StepsAt.kept HST3.out (Kept.of_below hl4 _))
  have CM := hide (same17_any (n := n4) (c := c4) (n2 := n) (c2 := c) hh4 ((HL3.out.below (show Below w3.heap.size w3 w4 from hl4)).more (Below.size hl4)))
  rw [HEQ.out] at CM
  clear hh4 hl4 CS L3a
  go_wp2_with (fail)
  refine CM.out.mono ?_
  rintro e w5 ⟨rfl, hq5⟩
  obtain rfl := hq5
  clear CM
  go_wp2_with (first | (refine wpList_val rfl (by rfl) (exec_load_saga _ (by rfl) (by rfl) S4.out) ?_) | (refine wpList_store_saga (s := s) (by rfl) _ _ (by rfl) (by rfl) Y4.out (by rfl) ?_))
  intro w9 Z9 G9
  have HZ := hide Z9
  have L9 : Hid (Later w w9) := L4.out.grown G9 (Below.size L4.out) (fun k hk => by have a1 := Option.some.inj hk; have a2 := HY.out; omega)
  clear Z9
  go_wp2
  refine bodyPost_ret (results_box2 Tryz.results6 _ _ y 27 _ _ (by rfl) HZ.out Tryz.underlying27 (by rfl) (by kernel_rfl) (.int .i64 0) (by rfl)) (by rfl) ?_
  exact ⟨s, l, rfl, HQ.out, ⟨_, StepsAt.kept HST4.out (Turned.kept (Turned.of_grown G9 (fun g e => (Option.some.inj e).symm) : Turned (fun i => i = y) w4 w9) (fun i hi e => by have a1 : y + 1 < i := hi; have a2 : i = y := e; omega))⟩, HWF.out, HFI.out, L9.out⟩
theorem readsaga_any {A : Option Addr} {n c : Nat} {b : List Nat} (hl : Holds w w.heap.size A n b) (hn : n ≤ 900000) (hc : n ≤ c) :
    Calls Tryz.prog 6 #[.slice A n c] w (GotS w (readS b)) := by
  unfold readS
  by_cases he : (pread b).1 = 0
  · rw [if_neg (by simpa using he)]
    cases hg : (sagC (pread b).2).good with
    | false =>
      rw [if_neg (fun h => by cases h.1)]
      exact readsaga_bad hl hn hc he hg
    | true =>
      by_cases hB : (sagC (pread b).2).B = b
      · rw [if_pos ⟨rfl, hB⟩]
        exact readsaga_ok hl hn hc he hg hB
      · rw [if_neg (fun h => hB h.2)]
        exact readsaga_no hl hn hc he hg hB
  · rw [if_pos (by simpa using he)]
    exact readsaga_err hl hn hc he
end
end Go.Proofs.YtdkiopajilakcaaGreatDoor
/- A map keyed by integers, whatever its elements: what it holds, as the list of its keys, rising, with the values as they stand. -/
namespace Go.Proofs.YtdkiopajilakcaaGreatDoor
open Go.RowKit

def heldR (v : Value) : Option (DataW Value × List MemPlace) := some (.held v, [])
def mapD (L : List (Int × Value)) : DataW Value := .map (L.map fun p => (.int .i64 p.1, .held p.2))

theorem has_mapD (L : List (Int × Value)) (a : Int) : Maps.has (mapD L) (.int .i64 a) = L.any (fun p => p.1 == a) := by
  unfold mapD
  rw [Maps.has_eq, List.any_map]
  congr 1
  funext p
  simp [Lit.sameKey, Function.comp]
  rfl
theorem size_mapD (L : List (Int × Value)) : Maps.size (mapD L) = L.length := by simp [mapD, Maps.size]
theorem find_mapD (L : List (Int × Value)) (a : Int) : (L.map fun p : Int × Value => ((.int .i64 p.1, .held p.2) : Lit × DataW Value)).find? (fun p => p.1.sameKey (.int .i64 a)) = (L.find? (fun p => p.1 == a)).map fun p => (.int .i64 p.1, .held p.2) := by
  rw [List.find?_map]
  congr 2
  funext p
  simp [Lit.sameKey, Function.comp]
  rfl
theorem at_mapD (L : List (Int × Value)) (a : Int) (z : DataW Value) : (mapD L).atKey (.int .i64 a) z = match L.find? (fun p => p.1 == a) with | some p => .held p.2 | none => z := by
  unfold mapD DataW.atKey
  simp only [find_mapD]
  cases L.find? (fun p => p.1 == a) <;> rfl
section
variable {P : Program} {w : World} {ops : Array Oper} {rest : List Oper} {o : Oper} {a : Act} {Q : Exit → Act → World → Prop}
def foundIn (L : List (Int × Value)) (z : Value) (key : Int) : Value × Bool := match L.find? (fun p => p.1 == key) with | some p => (p.2, true) | none => (z, false)
theorem look_held (c : Bool) {k e t : TypeId} (K : Maps.Keyed P k) (ht : P.underlying t = some (.map k e)) {z : Value} (hz : (zeroValue e).run P w = .ok z w) {b n : Nat} {L : List (Int × Value)} (hown : w.ownsMap P k heldR b n (mapD L)) {key : Int}
    (hkey : keyOf P k (Value.int .i64 key) = some (Lit.int .i64 key)) :
    (Instr.lookup t (.map (some b)) (.int .i64 key) c).run P w = .ok (if c then .tuple #[(foundIn L z key).1, .bool (foundIn L z key).2] else (foundIn L z key).1) w := by
  have hh := has_mapD L key
  have hat := at_mapD L key (.held z)
  have hf : (L.any fun p => p.1 == key) = (L.find? (fun p => p.1 == key)).isSome := by
    rw [Bool.eq_iff_iff, List.find?_isSome]
    simp [List.any_eq_true]
  cases c with
  | true =>
    obtain ⟨v, ps, hr, hv⟩ := hown.look_ok K ht hz (zd := .held z) (zp := []) rfl hkey
    rw [hat] at hv
    rw [hr, hh, hf]
    unfold foundIn
    cases h : L.find? (fun p => p.1 == key) with
    | some p => rw [h] at hv; simp only [heldR, Option.some.injEq, Prod.mk.injEq, DataW.held.injEq] at hv; simp [hv.1]
    | none => rw [h] at hv; simp only [heldR, Option.some.injEq, Prod.mk.injEq, DataW.held.injEq] at hv; simp [hv.1]
  | false =>
    obtain ⟨v, ps, hr, hv⟩ := hown.lookup K ht hz (zd := .held z) (zp := []) rfl hkey
    rw [hat] at hv
    rw [hr]
    unfold foundIn
    cases h : L.find? (fun p => p.1 == key) with
    | some p => rw [h] at hv; simp only [heldR, Option.some.injEq, Prod.mk.injEq, DataW.held.injEq] at hv; simp [hv.1]
    | none => rw [h] at hv; simp only [heldR, Option.some.injEq, Prod.mk.injEq, DataW.held.injEq] at hv; simp [hv.1]
theorem wpList_lookup_held (hg : o.guard = none) (m x : Operand) (t : TypeId) (hop : o.op = Op.lookup t m x true)
    (k e : TypeId) (K : Maps.Keyed P k) (ht : P.underlying t = some (.map k e)) (z : Value) (hz : (zeroValue e).run P w = .ok z w) (b n : Nat) (L : List (Int × Value))
    (hm : a.eval m = .map (some b)) (hown : w.ownsMap P k heldR b n (mapD L)) (key : Int) (hx : a.eval x = .int .i64 key) (hkey : keyOf P k (Value.int .i64 key) = some (Lit.int .i64 key))
    (v : Value) (ok : Bool) (hres : foundIn L z key = (v, ok)) (hK : wpList P ops Q rest (a.put o.dst (.tuple #[v, .bool ok])) w) : wpList P ops Q (o :: rest) a w := by
  refine wpList_plain hg fun K' hK' => ?_
  have hr := look_held true K ht hz hown hkey
  rw [hres] at hr
  unfold Oper.wp
  simp [execOp, hop, hm, hx, hr, Result.andThen]
  exact hK' _ _ hK
end
end Go.Proofs.YtdkiopajilakcaaGreatDoor
/- A book, as data: its sagas by numbers, and what each operation tells and leaves. -/
namespace Go.Proofs.YtdkiopajilakcaaGreatDoor
open Go.RowKit

structure Ent where
  id : Int
  s : SagaD
  l : List StepD
def Ent.isOpen (x : Ent) : Bool := decide (x.s.st = 1) || decide (x.s.st = 2)
def entAt (L : List Ent) (id : Int) : Option Ent := L.find? (fun x => x.id == id)
def RiseE (L : List Ent) : Prop := L.Pairwise (fun x y => x.id < y.id)
theorem entAt_mem {L : List Ent} {id : Int} {x : Ent} (h : entAt L id = some x) : x ∈ L ∧ x.id = id := by
  unfold entAt at h
  exact ⟨List.mem_of_find?_eq_some h, by simpa using List.find?_some h⟩
structure RepD where
  err : Int
  saga : Int
  st : Int
  step : Int
  deriving DecidableEq
def RepD.cells (r : RepD) : List Value := [.int .i64 r.err, .int .i64 r.saga, .int .i64 r.st, .int .i64 r.step]
abbrev RepD.val (r : RepD) : Value := .agg r.cells.toArray
def errR (e : Int) : RepD := ⟨e, 0, 0, 0⟩

structure BkS where
  last : Int
  L : List Ent
def statusF (L : List Ent) (id : Int) : RepD := match entAt L id with | none => errR 8 | some x => ⟨0, id, x.s.st, x.s.step⟩
end Go.Proofs.YtdkiopajilakcaaGreatDoor
/- A book in memory; made, at, own, Saga, Status of package book. -/
namespace Go.Proofs.YtdkiopajilakcaaGreatDoor
open Go.RowKit Go.Maps

structure Loc where
  p : Option Addr
  n : Nat
  c : Nat
abbrev Loc.v (x : Loc) : Value := .slice x.p x.n x.c
def Ent.sd (f : Int → Loc) (x : Ent) : SagaD := x.s.withV (f x.id).p (f x.id).n (f x.id).c
abbrev Ent.val (f : Int → Loc) (x : Ent) : Value := (x.sd f).val
def pairE (f : Int → Loc) (x : Ent) : Int × Value := (x.id, x.val f)
def EntOk (x : Ent) : Prop := (∀ a ∈ x.l, a.wf) ∧ x.l.length ≤ 8 ∧ (0 ≤ x.s.step ∧ x.s.step ≤ 9) ∧ 1 ≤ x.id
def BkOk (t : BkS) : Prop := RiseE t.L ∧ (∀ x ∈ t.L, EntOk x ∧ x.id ≤ 4611686018427387904) ∧ 0 ≤ t.last ∧ t.last ≤ 4611686018427387904
theorem found_ent (f : Int → Loc) (L : List Ent) (z : Value) (id : Int) : foundIn (L.map (pairE f)) z id = match entAt L id with | some x => (x.val f, true) | none => (z, false) := by
  unfold foundIn entAt
  rw [List.find?_map]
  show (match (L.find? (fun x => x.id == id)).map (pairE f) with | some p => (p.2, true) | none => (z, false)) = _
  cases L.find? (fun x => x.id == id) <;> rfl

structure BookAt (F : Nat → Prop) (w : World) (g b k : Nat) (most : Int) (t : BkS) : Prop where
  cell : w.heap[g]? = some (.cells #[.int .i64 most, .int .i64 t.last, .map (some b)] 85 (0, 0))
  body : ∃ f : Int → Loc, w.ownsMap Tryz.prog 3 heldR b k (mapD (t.L.map (pairE f))) ∧ ∀ x ∈ t.L, StepsAt F w (f x.id).v x.l
  ok : BkOk t
  apart : g ≠ b ∧ ¬ F g ∧ ¬ F b
section
variable {F G : Nat → Prop} {w w' : World} {g b k : Nat} {most : Int} {t : BkS}
theorem BookAt.kept (h : BookAt F w g b k most t) (hk : Kept (fun i => i = g ∨ i = b ∨ F i) w w') : BookAt F w' g b k most t := by
  obtain ⟨f, ⟨es, clock, hb, rest⟩, hs⟩ := h.body
  exact ⟨(hk.2 g (lt_of_block h.cell) (.inl rfl)).trans h.cell, ⟨f, ⟨es, clock, (hk.2 b (lt_of_block hb) (.inr (.inl rfl))).trans hb, rest⟩, fun x hx => (hs x hx).kept (hk.mono fun i _ hi => .inr (.inr hi))⟩, h.ok, h.apart⟩
theorem BookAt.later (h : BookAt F w g b k most t) (hl : Later w w') : BookAt F w' g b k most t := h.kept (Kept.of_below hl _)
theorem BookAt.mono (h : BookAt F w g b k most t) (hg : ∀ i, i < w.heap.size → F i → G i) (h1 : ¬ G g) (h2 : ¬ G b) : BookAt G w g b k most t := by
  obtain ⟨f, hm, hs⟩ := h.body
  exact ⟨h.cell, ⟨f, hm, fun x hx => (hs x hx).mono hg⟩, h.ok, h.apart.1, h1, h2⟩
theorem BookAt.lt (h : BookAt F w g b k most t) : g < w.heap.size ∧ b < w.heap.size := by
  obtain ⟨f, hm, hs⟩ := h.body
  exact ⟨lt_of_block h.cell, hm.lt⟩
theorem BookAt.c0 (h : BookAt F w g b k most t) : w.cell? ⟨g, 0, none⟩ = some (.int .i64 most) := cell_of_row w g 0 _ _ _ h.cell
theorem BookAt.c1 (h : BookAt F w g b k most t) : w.cell? ⟨g, 1, none⟩ = some (.int .i64 t.last) := cell_of_row w g 1 _ _ _ h.cell
theorem BookAt.c2 (h : BookAt F w g b k most t) : w.cell? ⟨g, 2, none⟩ = some (.map (some b)) := cell_of_row w g 2 _ _ _ h.cell
theorem BookAt.thaw (h : BookAt F w g b k most t) (i : Nat) : w.frozen? ⟨g, i, none⟩ = false := frozen_of_row w g i _ _ h.cell
theorem BookAt.turned {Q : Nat → Prop} (h : BookAt F w g b k most t) (ht : Turned Q w w') (h1 : ¬ Q g) (h2 : ¬ Q b) (h3 : ∀ i, F i → ¬ Q i) : BookAt F w' g b k most t :=
  h.kept (ht.kept fun i hi => hi.elim (fun e => e ▸ h1) fun hi => hi.elim (fun e => e ▸ h2) (h3 i))
end
theorem Tryz.int_law : Keyed Tryz.prog 3 := int_keyed Tryz.underlying3
theorem int_key {a : Int} (h : I64 a) : keyOf Tryz.prog 3 (.int .i64 a) = some (.int .i64 a) := keyOf_int_mk Tryz.underlying3 (WalkArith.wf_i64 (by obtain ⟨h1, h2⟩ := h; omega))

section
variable {F : Nat → Prop} {w : World} {g b k : Nat} {most : Int} {t : BkS}
set_option maxHeartbeats 400000 in
theorem made_yes (h : BookAt F w g b k most t) : Calls Tryz.prog 68 #[.pointer (some ⟨g, 0, none⟩)] w fun e w' => e = .returned (.bool true) ∧ w = w' := by
  have hq := fun w r => run_neq_map_nil (P := Tryz.prog) w 83 _ _ r Tryz.underlying83
  have c2 := h.c2
  clear h
  go_enter Tryz.func68, Tryz.ntmps68
  go_wp2
  go_ret
  exact ⟨rfl, rfl⟩
def AtE (F : Nat → Prop) (x : Ent) (w : World) (e : Ending) (w' : World) : Prop := ∃ p n c, e = .returned (.tuple #[(x.s.withV p n c).val, .bool true]) ∧ StepsAt F w' (.slice p n c) x.l ∧ Later w w'
def NoE (w : World) (e : Ending) (w' : World) : Prop := e = .returned (.tuple #[SagaD.zero.val, .bool false]) ∧ Later w w'
set_option maxHeartbeats 4000000 in
set_option maxRecDepth 100000 in
theorem at_some (h : BookAt F w g b k most t) {x : Ent} {id : Int} (hid : I64 id) (hx : entAt t.L id = some x) : Calls Tryz.prog 71 #[.pointer (some ⟨g, 0, none⟩), .int .i64 id] w (AtE F x w) := by
  obtain ⟨W1, hW1⟩ : ∃ W1, W1 = w.alloc (.cells #[.string ⟨#[]⟩, .slice none 0 0, .int .i64 0, .int .i64 0, .int .i64 0, .bool false, .bool false, .bool false, .bool false, .bool false, .bool false, .bool false, .bool false] 27 (0, 0)) := ⟨_, rfl⟩
  obtain ⟨y, hy⟩ : ∃ y, y = w.heap.size := ⟨_, rfl⟩
  have Y1 : Hid (SBox 27 y SagaD.zero W1) := by rw [hW1, hy]; exact heap_alloc_new _ _
  have L1 : Hid (Later w W1) := by rw [hW1]; exact (Below.refl _ _).alloc (Nat.le_refl _) _
  have HY : Hid (w.heap.size ≤ y) := Nat.le_of_eq hy.symm
  have H1 := h.later L1.out
  obtain ⟨f, hm0, hs⟩ := h.body
  have hm : W1.ownsMap Tryz.prog 3 heldR b k (mapD (t.L.map (pairE f))) := by rw [hW1]; exact hm0.alloc _
  have HM := hide hm
  clear hm0
  have c2 := H1.c2
  have C := hide (made_yes H1)
  have HI := hide (int_key hid)
  have T1 : Hid (SBox 27 W1.heap.size SagaD.zero (W1.alloc (.cells #[.string ⟨#[]⟩, .slice none 0 0, .int .i64 0, .int .i64 0, .int .i64 0, .bool false, .bool false, .bool false, .bool false, .bool false, .bool false, .bool false, .bool false] 27 (0, 0)))) := heap_alloc_new _ _
  have Y2 : Hid (SBox 27 y SagaD.zero (W1.alloc (.cells #[.string ⟨#[]⟩, .slice none 0 0, .int .i64 0, .int .i64 0, .int .i64 0, .bool false, .bool false, .bool false, .bool false, .bool false, .bool false, .bool false, .bool false] 27 (0, 0)))) := Y1.out.below ((Below.refl _ _).alloc (Nat.le_refl _) _)
  have HLT := hide (SBox.lt Y1.out)
  have HR : Hid (foundIn (t.L.map (pairE f)) SagaD.zero.val id = ((x.sd f).val, true)) := by
    show _ = _
    rw [found_ent, hx]
  have HS : Hid (StepsAt F w (f x.id).v x.l) := hs x (entAt_mem hx).1
  clear hs hx
  have HW1 := hide hW1.symm
  have HG := hide hy.symm
  clear h hid hW1 hy hm H1
  go_enter Tryz.func71, Tryz.ntmps71
  go_wp2_with (fail)
  simp only [HW1.out, HG.out]
  refine C.out.mono ?_
  rintro e w2 ⟨rfl, hq⟩
  obtain rfl := hq.symm
  go_wp2_with (first
    | (at_lookup; refine wpList_lookup_held rfl _ _ 83 rfl 3 27 Tryz.int_law Tryz.underlying83 SagaD.zero.val (by kernel_rfl) b k _ rfl HM.out id rfl HI.out _ true HR.out ?_)
    | (refine wpList_store_saga (s := x.sd f) (by rfl) _ _ (by rfl) (by rfl) T1.out (by rfl) ?_; intro w3 X3 G3)
    | (refine wpList_load_saga (by rfl) _ (by rfl) (by rfl) X3 ?_)
    | (refine wpList_store_saga (by rfl) _ _ (by rfl) (by rfl) (Y2.out.other G3 (fun e => by have := Option.some.inj e; have := HLT.out; omega)) (by rfl) ?_; intro w4 Z4 G4))
  have L3 : Hid (Later w w3) := (Below.alloc L1.out (Below.size L1.out) _).grown G3 (Nat.le_trans (Below.size L1.out) (by simp)) (fun k hk => by have := Option.some.inj hk; have := Below.size L1.out; omega)
  have HLF : Hid (Later w w4) := L3.out.grown G4 (Below.size L3.out) (fun k hk => by have := Option.some.inj hk; have := HY.out; omega)
  refine bodyPost_ret (results_box2 Tryz.results71 _ _ y 27 _ _ (by rfl) Z4 Tryz.underlying27 (by rfl) (by kernel_rfl) (.bool true) (by rfl)) (by rfl) ?_
  exact ⟨_, _, _, rfl, StepsAt.kept HS.out (Kept.of_below HLF.out F), HLF.out⟩
set_option maxHeartbeats 4000000 in
set_option maxRecDepth 100000 in
theorem at_none (h : BookAt F w g b k most t) {id : Int} (hid : I64 id) (hx : entAt t.L id = none) : Calls Tryz.prog 71 #[.pointer (some ⟨g, 0, none⟩), .int .i64 id] w (NoE w) := by
  obtain ⟨W1, hW1⟩ : ∃ W1, W1 = w.alloc (.cells #[.string ⟨#[]⟩, .slice none 0 0, .int .i64 0, .int .i64 0, .int .i64 0, .bool false, .bool false, .bool false, .bool false, .bool false, .bool false, .bool false, .bool false] 27 (0, 0)) := ⟨_, rfl⟩
  obtain ⟨y, hy⟩ : ∃ y, y = w.heap.size := ⟨_, rfl⟩
  have Y1 : Hid (SBox 27 y SagaD.zero W1) := by rw [hW1, hy]; exact heap_alloc_new _ _
  have L1 : Hid (Later w W1) := by rw [hW1]; exact (Below.refl _ _).alloc (Nat.le_refl _) _
  have HY : Hid (w.heap.size ≤ y) := Nat.le_of_eq hy.symm
  have H1 := h.later L1.out
  obtain ⟨f, hm, hs⟩ := H1.body
  have HM := hide hm
  have c2 := H1.c2
  have C := hide (made_yes H1)
  have HI := hide (int_key hid)
  have T1 : Hid (SBox 27 W1.heap.size SagaD.zero (W1.alloc (.cells #[.string ⟨#[]⟩, .slice none 0 0, .int .i64 0, .int .i64 0, .int .i64 0, .bool false, .bool false, .bool false, .bool false, .bool false, .bool false, .bool false, .bool false] 27 (0, 0)))) := heap_alloc_new _ _
  have Y2 : Hid (SBox 27 y SagaD.zero (W1.alloc (.cells #[.string ⟨#[]⟩, .slice none 0 0, .int .i64 0, .int .i64 0, .int .i64 0, .bool false, .bool false, .bool false, .bool false, .bool false, .bool false, .bool false, .bool false] 27 (0, 0)))) := Y1.out.below ((Below.refl _ _).alloc (Nat.le_refl _) _)
  have HLT := hide (SBox.lt Y1.out)
  have HR : Hid (foundIn (t.L.map (pairE f)) SagaD.zero.val id = (SagaD.zero.val, false)) := by
    show _ = _
    rw [found_ent, hx]
  clear hs hx
  have HW1 := hide hW1.symm
  have HG := hide hy.symm
  clear h hid hW1 hy hm H1
  go_enter Tryz.func71, Tryz.ntmps71
  go_wp2_with (fail)
  simp only [HW1.out, HG.out]
  refine C.out.mono ?_
  rintro e w2 ⟨rfl, hq⟩
  obtain rfl := hq.symm
  go_wp2_with (first
    | (at_lookup; refine wpList_lookup_held rfl _ _ 83 rfl 3 27 Tryz.int_law Tryz.underlying83 SagaD.zero.val (by kernel_rfl) b k _ rfl HM.out id rfl HI.out _ false HR.out ?_)
    | (refine wpList_store_saga (s := SagaD.zero) (by rfl) _ _ (by rfl) (by rfl) T1.out (by rfl) ?_; intro w3 X3 G3)
    | (refine wpList_load_saga (by rfl) _ (by rfl) (by rfl) X3 ?_)
    | (refine wpList_store_saga (by rfl) _ _ (by rfl) (by rfl) (Y2.out.other G3 (fun e => by have := Option.some.inj e; have := HLT.out; omega)) (by rfl) ?_; intro w4 Z4 G4))
  have L3 : Hid (Later w w3) := (Below.alloc L1.out (Below.size L1.out) _).grown G3 (Nat.le_trans (Below.size L1.out) (by simp)) (fun k hk => by have := Option.some.inj hk; have := Below.size L1.out; omega)
  have HLF : Hid (Later w w4) := L3.out.grown G4 (Below.size L3.out) (fun k hk => by have := Option.some.inj hk; have := HY.out; omega)
  refine bodyPost_ret (results_box2 Tryz.results71 _ _ y 27 _ _ (by rfl) Z4 Tryz.underlying27 (by rfl) (by kernel_rfl) (.bool false) (by rfl)) (by rfl) ?_
  exact ⟨rfl, HLF.out⟩
end
end Go.Proofs.YtdkiopajilakcaaGreatDoor
/- What is counted of a book: count, Count, full, underWay of package book. -/
namespace Go.Proofs.YtdkiopajilakcaaGreatDoor
open Go.RowKit Go.Maps

def Cnt (p : Ent → Bool) (L : List Ent) (left : Lit → Bool) (n : Nat) : Prop := n = L.countP fun x => p x && !left (.int .i64 x.id)
theorem count_strike (p : Ent → Bool) (x : Ent) (left : Lit → Bool) : ∀ (L : List Ent), RiseE L → x ∈ L → left (.int .i64 x.id) = true →
    L.countP (fun z => p z && !(left (.int .i64 z.id) && !(Lit.int .i64 z.id).sameKey (.int .i64 x.id))) = L.countP (fun z => p z && !left (.int .i64 z.id)) + (if p x then 1 else 0)
  | [], _, h, _ => by cases h
  | z :: r, hr, hx, hl => by
    obtain ⟨h1, h2⟩ := List.pairwise_cons.1 hr
    rw [List.countP_cons, List.countP_cons]
    rcases List.mem_cons.1 hx with rfl | hx
    · have e : r.countP (fun z => p z && !(left (.int .i64 z.id) && !(Lit.int .i64 z.id).sameKey (.int .i64 x.id))) = r.countP (fun z => p z && !left (.int .i64 z.id)) := by
        refine List.countP_congr fun y hy => ?_
        have := h1 y hy
        have hs : (Lit.int .i64 y.id).sameKey (.int .i64 x.id) = false := by simp [Lit.sameKey]; omega
        rw [hs]
        simp
      rw [e, hl]
      have hs : (Lit.int .i64 x.id).sameKey (.int .i64 x.id) = true := by simp [Lit.sameKey]
      rw [hs]
      cases p x <;> simp
    · have := count_strike p x left r h2 hx hl
      rw [this]
      have hz := h1 x hx
      have hs : (Lit.int .i64 z.id).sameKey (.int .i64 x.id) = false := by simp [Lit.sameKey]; omega
      rw [hs]
      simp
      omega
theorem Cnt.next {p : Ent → Bool} {L : List Ent} {left : Lit → Bool} {n : Nat} {x : Ent} (h : Cnt p L left n) (hr : RiseE L) (hx : x ∈ L) (hl : left (.int .i64 x.id) = true) :
    Cnt p L (fun z => left z && !z.sameKey (.int .i64 x.id)) (n + if p x then 1 else 0) := by
  unfold Cnt at *
  rw [count_strike p x left L hr hx hl, h]
section
variable {F : Nat → Prop} {w : World} {g b k : Nat} {most : Int} {t : BkS}
end
end Go.Proofs.YtdkiopajilakcaaGreatDoor
/- underWay, Count and full of package book. -/
namespace Go.Proofs.YtdkiopajilakcaaGreatDoor
open Go.RowKit Go.Maps
section
variable {w : World}
def another (id : Int) (x : Ent) : Bool := (x.id != id) && x.isOpen
end
section
variable {F : Nat → Prop} {w : World} {g b k : Nat} {most : Int} {t : BkS}
end
end Go.Proofs.YtdkiopajilakcaaGreatDoor
/- Saga, Status and New of package book. -/
namespace Go.Proofs.YtdkiopajilakcaaGreatDoor
open Go.RowKit Go.Maps
def AtV (F : Nat → Prop) (s : SagaD) (l : List StepD) (ok : Bool) (w : World) (e : Ending) (w' : World) : Prop := ∃ p n c, e = .returned (.tuple #[(s.withV p n c).val, .bool ok]) ∧ StepsAt F w' (.slice p n c) l ∧ Later w w'
def atS (t : BkS) (id : Int) : SagaD := match entAt t.L id with | some x => x.s | none => SagaD.zero
def atL (t : BkS) (id : Int) : List StepD := match entAt t.L id with | some x => x.l | none => []
def atB (t : BkS) (id : Int) : Bool := (entAt t.L id).isSome
section
variable {F : Nat → Prop} {w : World} {g b k : Nat} {most : Int} {t : BkS}
theorem bat_any (h : BookAt F w g b k most t) {id : Int} (hid : I64 id) : Calls Tryz.prog 71 #[.pointer (some ⟨g, 0, none⟩), .int .i64 id] w (AtV F (atS t id) (atL t id) (atB t id) w) := by
  unfold atS atL atB
  cases hx : entAt t.L id with
  | some x => exact at_some h hid hx
  | none =>
    refine (at_none h hid hx).mono ?_
    rintro e w' ⟨rfl, hl⟩
    exact ⟨none, 0, 0, rfl, StepsAt.nil_ _ _, hl⟩
def RBox (g : Nat) (r : RepD) (w : World) : Prop := w.heap[g]? = some (.cells r.cells.toArray 118 (0, 0))
theorem RepD.one (r : RepD) : ∀ u ∈ r.cells, u.oneCell' = true := by
  intro u hu
  simp only [RepD.cells, List.mem_cons, List.not_mem_nil, or_false] at hu
  rcases hu with rfl | rfl | rfl | rfl <;> rfl
theorem rep_put (x y : RepD) : putAt x.cells.toArray 0 y.cells = y.cells.toArray := by simp [putAt, RepD.cells]
theorem RBox.below {g : Nat} {r : RepD} {w w' : World} (h : RBox g r w) (hl : Later w w') : RBox g r w' := (Below.block hl g (lt_of_block h)).trans h
theorem RBox.other {g : Nat} {x : RepD} {w w' : World} (h : RBox g x w) {r : Option Nat} (hg : w.grownBy w' r) (hr : some g ≠ r) : RBox g x w' := (hg.block g (lt_of_block h) hr).trans h
theorem RBox.turned {Q : Nat → Prop} {g : Nat} {r : RepD} {w w' : World} (h : RBox g r w) (ht : Turned Q w w') (hq : ¬ Q g) : RBox g r w' := (ht.block g (lt_of_block h) hq).trans h
section
variable {ops : Array Oper} {rest : List Oper} {op : Oper} {a : Act} {W : World} {Q : Exit → Act → World → Prop} {g : Nat} {r z : RepD}
theorem wpList_store_rep (hgd : op.guard = none) (x y : Operand) (ho : op.op = .store 118 x y) (hx : a.eval x = .pointer (some ⟨g, 0, none⟩)) (hg : RBox g z W) (hy : a.eval y = r.val)
    (h : ∀ w', RBox g r w' → W.grownBy w' (some g) → wpList Tryz.prog ops Q rest (a.put op.dst undef) w') : wpList Tryz.prog ops Q (op :: rest) a W :=
  wpList_store_box hgd 118 x y ho g 0 r.cells.toArray hx hy _ _ hg (by kernel_rfl) (by exact Nat.le_of_ble_eq_true rfl) (by exact r.one) (fun w' hb hg' => h w' (by rw [show r.cells.toArray.toList = r.cells from rfl, rep_put] at hb; exact hb) hg')
end
theorem status_at (L : List Ent) (last id : Int) : statusF L id = if atB ⟨last, L⟩ id then ⟨0, id, (atS ⟨last, L⟩ id).st, (atS ⟨last, L⟩ id).step⟩ else errR 8 := by
  unfold statusF atB atS
  cases hx : entAt L id <;> rfl
set_option maxHeartbeats 4000000 in
set_option maxRecDepth 100000 in
theorem status_any (h : BookAt F w g b k most t) {id : Int} (hid : I64 id) : Calls Tryz.prog 67 #[.pointer (some ⟨g, 0, none⟩), .int .i64 id] w (Gives (statusF t.L id).val w) := by
  obtain ⟨W1, hW1⟩ : ∃ W1, W1 = w.alloc (.cells #[.int .i64 0, .int .i64 0, .int .i64 0, .int .i64 0] 118 (0, 0)) := ⟨_, rfl⟩
  obtain ⟨y, hy⟩ : ∃ y, y = w.heap.size := ⟨_, rfl⟩
  have Y1 : Hid (RBox y (errR 0) W1) := by rw [hW1, hy]; exact heap_alloc_new _ _
  have L1 : Hid (Later w W1) := by rw [hW1]; exact (Below.refl _ _).alloc (Nat.le_refl _) _
  have HY : Hid (w.heap.size ≤ y) := Nat.le_of_eq hy.symm
  have CM := hide (made_yes (h.later L1.out))
  have C := hide (bat_any (h.later L1.out) hid)
  rw [status_at t.L t.last id]
  change Calls _ _ _ _ (Gives (if atB t id then (⟨0, id, (atS t id).st, (atS t id).step⟩ : RepD) else errR 8).val w)
  obtain ⟨s, hs⟩ : ∃ s, atS t id = s := ⟨_, rfl⟩
  obtain ⟨l, hl⟩ : ∃ l, atL t id = l := ⟨_, rfl⟩
  obtain ⟨q, hq⟩ : ∃ q, atB t id = q := ⟨_, rfl⟩
  rw [hs, hl, hq] at C
  rw [hs, hq]
  have HW1 := hide hW1.symm
  have HG := hide hy.symm
  clear h hid hW1 hy hs hl hq
  cases q with
  | true =>
    rw [if_pos rfl]
    obtain ⟨st, hst⟩ : ∃ st, s.st = st := ⟨_, rfl⟩
    obtain ⟨sp, hsp⟩ : ∃ sp, s.step = sp := ⟨_, rfl⟩
    rw [hst, hsp]
    have HST := hide hst
    have HSP := hide hsp
    clear hst hsp
    go_enter Tryz.func67, Tryz.ntmps67
    go_wp2_with (fail)
    simp only [HW1.out, HG.out]
    refine CM.out.mono ?_
    rintro e w2 ⟨rfl, rfl⟩
    go_wp2_with (fail)
    refine C.out.mono ?_
    rintro e w2 ⟨p, n, c, rfl, hs, hl2⟩
    obtain ⟨s2, hs2⟩ : ∃ s2, s.withV p n c = s2 := ⟨_, rfl⟩
    have E2 : Hid (s2.st = st) := by show s2.st = st; rw [← hs2]; exact HST.out
    have E3 : Hid (s2.step = sp) := by show s2.step = sp; rw [← hs2]; exact HSP.out
    rw [hs2]
    have L2a : Later w W1 := L1.out
    have L2 : Hid (Later w w2) := Later.trans L2a hl2
    have Y2 : Hid (RBox y (errR 0) w2) := Y1.out.below hl2
    have T2 : Hid (SBox 27 w2.heap.size SagaD.zero (w2.alloc (.cells #[.string ⟨#[]⟩, .slice none 0 0, .int .i64 0, .int .i64 0, .int .i64 0, .bool false, .bool false, .bool false, .bool false, .bool false, .bool false, .bool false, .bool false] 27 (0, 0)))) := heap_alloc_new _ _
    have L2b : Hid (Later w2 (w2.alloc (.cells #[.string ⟨#[]⟩, .slice none 0 0, .int .i64 0, .int .i64 0, .int .i64 0, .bool false, .bool false, .bool false, .bool false, .bool false, .bool false, .bool false, .bool false] 27 (0, 0)))) := (Below.refl _ _).alloc (Nat.le_refl _) _
    clear hs hl2 C CM L2a hs2
    go_wp2_with (refine wpList_store_saga (s := s2) (by rfl) _ _ (by rfl) (by rfl) T2.out (by rfl) ?_)
    intro w3 X3 G3
    have L3 : Hid (Later w2 w3) := L2b.out.grown G3 (by simp) (fun k hk => by have := Option.some.inj hk; omega)
    have c2 := SBox.c2 X3
    have c3 := SBox.c3 X3
    have Y3 : Hid (RBox y (errR 0) w3) := Y2.out.below L3.out
    have L4a : Later w w2 := L2.out
    have L4b : Later w2 w3 := L3.out
    have L4 : Hid (Later w w3) := Later.trans L4a L4b
    clear X3 G3 L4a L4b
    rw [E2.out] at c2
    rw [E3.out] at c3
    go_wp2_with (refine wpList_store_rep (r := ⟨0, id, st, sp⟩) (by rfl) _ _ (by rfl) (by rfl) Y3.out (by rfl) ?_)
    intro w5 Z5 G5
    have HLF : Hid (Later w w5) := L4.out.grown G5 (Below.size L4.out) (fun k hk => by have := Option.some.inj hk; have := HY.out; omega)
    have HZ5 := hide Z5
    clear Z5 G5
    go_wp2
    refine bodyPost_ret (results_cell_row Tryz.results67 _ _ y 118 _ (0, 0) _ (by rfl) HZ5.out Tryz.underlying118 (by rfl) (by kernel_rfl)) (by rfl) ?_
    exact ⟨rfl, HLF.out⟩
  | false =>
    rw [if_neg (by simp)]
    go_enter Tryz.func67, Tryz.ntmps67
    go_wp2_with (fail)
    simp only [HW1.out, HG.out]
    refine CM.out.mono ?_
    rintro e w2 ⟨rfl, rfl⟩
    go_wp2_with (fail)
    refine C.out.mono ?_
    rintro e w2 ⟨p, n, c, rfl, hs, hl2⟩
    obtain ⟨s2, hs2⟩ : ∃ s2, s.withV p n c = s2 := ⟨_, rfl⟩
    rw [hs2]
    have L2a : Later w W1 := L1.out
    have L2 : Hid (Later w w2) := Later.trans L2a hl2
    have Y2 : Hid (RBox y (errR 0) w2) := Y1.out.below hl2
    have T2 : Hid (SBox 27 w2.heap.size SagaD.zero (w2.alloc (.cells #[.string ⟨#[]⟩, .slice none 0 0, .int .i64 0, .int .i64 0, .int .i64 0, .bool false, .bool false, .bool false, .bool false, .bool false, .bool false, .bool false, .bool false] 27 (0, 0)))) := heap_alloc_new _ _
    have L2b : Hid (Later w2 (w2.alloc (.cells #[.string ⟨#[]⟩, .slice none 0 0, .int .i64 0, .int .i64 0, .int .i64 0, .bool false, .bool false, .bool false, .bool false, .bool false, .bool false, .bool false, .bool false] 27 (0, 0)))) := (Below.refl _ _).alloc (Nat.le_refl _) _
    clear hs hl2 C CM L2a hs2
    go_wp2_with (refine wpList_store_saga (s := s2) (by rfl) _ _ (by rfl) (by rfl) T2.out (by rfl) ?_)
    intro w3 X3 G3
    have L3 : Hid (Later w2 w3) := L2b.out.grown G3 (by simp) (fun k hk => by have := Option.some.inj hk; omega)
    have Y3 : Hid (RBox y (errR 0) w3) := Y2.out.below L3.out
    have L4a : Later w w2 := L2.out
    have L4b : Later w2 w3 := L3.out
    have L4 : Hid (Later w w3) := Later.trans L4a L4b
    clear X3 G3 L4a L4b
    go_wp2_with (refine wpList_store_rep (r := errR 8) (by rfl) _ _ (by rfl) (by rfl) Y3.out (by rfl) ?_)
    intro w5 Z5 G5
    have HLF : Hid (Later w w5) := L4.out.grown G5 (Below.size L4.out) (fun k hk => by have := Option.some.inj hk; have := HY.out; omega)
    have HZ5 := hide Z5
    clear Z5 G5
    go_wp2
    refine bodyPost_ret (results_cell_row Tryz.results67 _ _ y 118 _ (0, 0) _ (by rfl) HZ5.out Tryz.underlying118 (by rfl) (by kernel_rfl)) (by rfl) ?_
    exact ⟨rfl, HLF.out⟩
def NewBook (w : World) (most : Int) (e : Ending) (w' : World) : Prop :=
  ∃ g b, e = .returned (.pointer (some ⟨g, 0, none⟩)) ∧ w.heap.size ≤ g ∧ w.heap.size ≤ b ∧ Later w w' ∧ ∀ F : Nat → Prop, ¬ F g → ¬ F b → BookAt F w' g b 0 most ⟨0, []⟩
set_option maxHeartbeats 400000 in
theorem new_yes (most : Int) (w : World) (h0 : 0 ≤ most) (h1 : most ≤ 32) : Calls Tryz.prog 12 #[.int .i64 most] w (NewBook w most) := by
  have hmm := @run_makeMap Tryz.prog
  go_enter Tryz.func12, Tryz.ntmps12
  go_wp2
  go_ret
  refine ⟨w.heap.size + 1, w.heap.size, rfl, by omega, by omega, ((Below.refl _ _).alloc (Nat.le_refl _) _).alloc (by simp) _, fun F hg hb => ⟨heap_alloc2_new w _ _, ⟨fun _ => ⟨none, 0, 0⟩, ?_, by simp⟩, ⟨.nil, by simp, by decide, by decide⟩, by omega, hg, hb⟩⟩
  exact (World.ownsMap_made w Tryz.prog 3 heldR).alloc _
end
end Go.Proofs.YtdkiopajilakcaaGreatDoor
/- Contracts of the library laid at this program: its numbers, and that its bodies are the ones that the contracts speak of. -/
namespace Go.Proofs.YtdkiopajilakcaaGreatDoor
open Go.Shelf
def Tryz.keysA_ren : Go.Shelf.Ren := ⟨fun | 7 => 70 | 10 => 103 | n => n, fun | 23 => 83 | 26 => 3 | 3 => 27 | 28 => 122 | 0 => 0 | 27 => 121 | 33 => 156 | 4 => 4 | n => n, fun | n => n⟩
theorem Tryz.keysA : Go.Proofs.SlLaysZI.n7 Tryz.prog Tryz.keysA_ren := {
  mixed := by kernel_rfl
  f7 := ⟨Tryz.f70.name, by decide, Tryz.func70.trans (congrArg some (by kernel_rfl))⟩
  f10 := ⟨Tryz.f103.name, by decide, Tryz.func103.trans (congrArg some (by kernel_rfl))⟩
  t0 := Tryz.underlying0
  a0 := Tryz.isAgg0
  z0 := Tryz.sizeOf0
  v0 := Tryz.zeroValue0
  t4 := Tryz.underlying4
  a4 := Tryz.isAgg4
  z4 := Tryz.sizeOf4
  v4 := Tryz.zeroValue4
  t23 := Tryz.underlying83
  a23 := Tryz.isAgg83
  z23 := Tryz.sizeOf83
  v23 := Tryz.zeroValue83
  t26 := Tryz.underlying3
  a26 := Tryz.isAgg3
  z26 := Tryz.sizeOf3
  v26 := Tryz.zeroValue3
  t27 := Tryz.underlying121
  a27 := Tryz.isAgg121
  z27 := Tryz.sizeOf121
  v27 := Tryz.zeroValue121
  t28 := Tryz.underlying122
  a28 := Tryz.isAgg122
  z28 := Tryz.sizeOf122
  v28 := Tryz.zeroValue122
  t33 := Tryz.underlying156
  a33 := Tryz.isAgg156
  z33 := Tryz.sizeOf156
  v33 := Tryz.zeroValue156 }
def Tryz.sortedA_ren : Go.Shelf.Ren := ⟨fun | 6 => 69 | 8 => 101 | 9 => 102 | 11 => 127 | 13 => 129 | 12 => 128 | 23 => 155 | 24 => 156 | 14 => 146 | 15 => 147 | 16 => 148 | 17 => 149 | 18 => 150 | 19 => 151 | 20 => 152 | 21 => 153 | 22 => 154 | 25 => 165 | 26 => 166 | 27 => 167 | 28 => 168 | 29 => 169 | 30 => 170 | 31 => 174 | n => n, fun | 26 => 3 | 28 => 122 | 24 => 78 | 0 => 0 | 3 => 3 | 37 => 92 | 48 => 126 | 50 => 49 | 4 => 4 | 40 => 183 | 39 => 182 | 45 => 188 | 5 => 5 | 9 => 9 | 51 => 195 | 55 => 163 | 57 => 203 | 58 => 105 | 33 => 156 | n => n, fun | n => n⟩
theorem Tryz.sortedA : Go.Proofs.SlLaysZI.n6 Tryz.prog Tryz.sortedA_ren := {
  mixed := by kernel_rfl
  f6 := ⟨Tryz.f69.name, by decide, Tryz.func69.trans (congrArg some (by kernel_rfl))⟩
  f8 := ⟨Tryz.f101.name, by decide, Tryz.func101.trans (congrArg some (by kernel_rfl))⟩
  f11 := ⟨Tryz.f127.name, by decide, Tryz.func127.trans (congrArg some (by kernel_rfl))⟩
  t0 := Tryz.underlying0
  a0 := Tryz.isAgg0
  z0 := Tryz.sizeOf0
  v0 := Tryz.zeroValue0
  t24 := Tryz.underlying78
  a24 := Tryz.isAgg78
  z24 := Tryz.sizeOf78
  v24 := Tryz.zeroValue78
  t26 := Tryz.underlying3
  a26 := Tryz.isAgg3
  z26 := Tryz.sizeOf3
  v26 := Tryz.zeroValue3
  t28 := Tryz.underlying122
  a28 := Tryz.isAgg122
  z28 := Tryz.sizeOf122
  v28 := Tryz.zeroValue122
  i26 := by kernel_rfl }
def Tryz.sortA_ren : Go.Shelf.Ren := ⟨fun | 5 => 102 | 8 => 129 | 7 => 128 | 19 => 155 | 20 => 156 | 10 => 146 | 11 => 147 | 12 => 148 | 13 => 149 | 14 => 150 | 15 => 151 | 16 => 152 | 17 => 153 | 18 => 154 | 30 => 165 | 31 => 166 | 32 => 167 | 33 => 168 | 34 => 169 | 35 => 170 | 40 => 174 | n => n, fun | 23 => 78 | 25 => 3 | 3 => 3 | 32 => 92 | 22 => 78 | 0 => 0 | 44 => 126 | 46 => 49 | 4 => 4 | 36 => 183 | 35 => 182 | 41 => 188 | 5 => 5 | 9 => 9 | 53 => 195 | 57 => 163 | 63 => 203 | 64 => 105 | n => n, fun | n => n⟩
theorem Tryz.sortA : Go.Proofs.SlLaysM.n5 Tryz.prog Tryz.sortA_ren := {
  mixed := by kernel_rfl
  f5 := ⟨Tryz.f102.name, by decide, Tryz.func102.trans (congrArg some (by kernel_rfl))⟩
  f7 := ⟨Tryz.f128.name, by decide, Tryz.func128.trans (congrArg some (by kernel_rfl))⟩
  f8 := Tryz.func129.trans (congrArg some (by kernel_rfl))
  f10 := ⟨Tryz.f146.name, by decide, Tryz.func146.trans (congrArg some (by kernel_rfl))⟩
  f11 := ⟨Tryz.f147.name, by decide, Tryz.func147.trans (congrArg some (by kernel_rfl))⟩
  f12 := ⟨Tryz.f148.name, by decide, Tryz.func148.trans (congrArg some (by kernel_rfl))⟩
  f13 := ⟨Tryz.f149.name, by decide, Tryz.func149.trans (congrArg some (by kernel_rfl))⟩
  f14 := ⟨Tryz.f150.name, by decide, Tryz.func150.trans (congrArg some (by kernel_rfl))⟩
  f15 := ⟨Tryz.f151.name, by decide, Tryz.func151.trans (congrArg some (by kernel_rfl))⟩
  f16 := ⟨Tryz.f152.name, by decide, Tryz.func152.trans (congrArg some (by kernel_rfl))⟩
  f17 := ⟨Tryz.f153.name, by decide, Tryz.func153.trans (congrArg some (by kernel_rfl))⟩
  f18 := ⟨Tryz.f154.name, by decide, Tryz.func154.trans (congrArg some (by kernel_rfl))⟩
  f19 := Tryz.func155.trans (congrArg some (by kernel_rfl))
  f20 := Tryz.func156.trans (congrArg some (by kernel_rfl))
  f30 := ⟨Tryz.f165.name, by decide, Tryz.func165.trans (congrArg some (by kernel_rfl))⟩
  f31 := Tryz.func166.trans (congrArg some (by kernel_rfl))
  f32 := Tryz.func167.trans (congrArg some (by kernel_rfl))
  f33 := ⟨Tryz.f168.name, by decide, Tryz.func168.trans (congrArg some (by kernel_rfl))⟩
  f34 := ⟨Tryz.f169.name, by decide, Tryz.func169.trans (congrArg some (by kernel_rfl))⟩
  f35 := ⟨Tryz.f170.name, by decide, Tryz.func170.trans (congrArg some (by kernel_rfl))⟩
  f40 := ⟨Tryz.f174.name, by decide, Tryz.func174.trans (congrArg some (by kernel_rfl))⟩
  t0 := Tryz.underlying0
  a0 := Tryz.isAgg0
  z0 := Tryz.sizeOf0
  v0 := Tryz.zeroValue0
  t3 := Tryz.underlying3
  a3 := Tryz.isAgg3
  z3 := Tryz.sizeOf3
  v3 := Tryz.zeroValue3
  t4 := Tryz.underlying4
  a4 := Tryz.isAgg4
  z4 := Tryz.sizeOf4
  v4 := Tryz.zeroValue4
  t5 := Tryz.underlying5
  a5 := Tryz.isAgg5
  z5 := Tryz.sizeOf5
  v5 := Tryz.zeroValue5
  t9 := Tryz.underlying9
  a9 := Tryz.isAgg9
  z9 := Tryz.sizeOf9
  v9 := Tryz.zeroValue9
  t22 := Tryz.underlying78
  a22 := Tryz.isAgg78
  z22 := Tryz.sizeOf78
  v22 := Tryz.zeroValue78
  t23 := Tryz.underlying78
  a23 := Tryz.isAgg78
  z23 := Tryz.sizeOf78
  v23 := Tryz.zeroValue78
  t25 := Tryz.underlying3
  a25 := Tryz.isAgg3
  z25 := Tryz.sizeOf3
  v25 := Tryz.zeroValue3
  t32 := Tryz.underlying92
  a32 := Tryz.isAgg92
  z32 := Tryz.sizeOf92
  v32 := Tryz.zeroValue92
  t35 := Tryz.underlying182
  a35 := Tryz.isAgg182
  z35 := Tryz.sizeOf182
  v35 := Tryz.zeroValue182
  t36 := Tryz.underlying183
  a36 := Tryz.isAgg183
  z36 := Tryz.sizeOf183
  v36 := Tryz.zeroValue183
  t41 := Tryz.underlying188
  a41 := Tryz.isAgg188
  z41 := Tryz.sizeOf188
  v41 := Tryz.zeroValue188
  t44 := Tryz.underlying126
  a44 := Tryz.isAgg126
  z44 := Tryz.sizeOf126
  v44 := Tryz.zeroValue126
  t46 := Tryz.underlying49
  a46 := Tryz.isAgg49
  z46 := Tryz.sizeOf49
  v46 := Tryz.zeroValue49
  t53 := Tryz.underlying195
  a53 := Tryz.isAgg195
  z53 := Tryz.sizeOf195
  v53 := Tryz.zeroValue195
  t57 := Tryz.underlying163
  a57 := Tryz.isAgg163
  z57 := Tryz.sizeOf163
  v57 := Tryz.zeroValue163
  t63 := Tryz.underlying203
  a63 := Tryz.isAgg203
  z63 := Tryz.sizeOf203
  v63 := Tryz.zeroValue203
  t64 := Tryz.underlying105
  a64 := Tryz.isAgg105
  z64 := Tryz.sizeOf105
  v64 := Tryz.zeroValue105 }
end Go.Proofs.YtdkiopajilakcaaGreatDoor
/- What is said of memory, for slices of int: a slice that holds a list of integers, nil and empty ones among them; a row of ints that the call itself made. -/
namespace Go.Proofs.YtdkiopajilakcaaGreatDoor
open Go.RowKit

def iv (x : Int) : Value := .int .i64 x
def ivs (l : List Int) : List Value := l.map iv

theorem ivs_len (l : List Int) : (ivs l).length = l.length := by simp [ivs]
theorem ivs_get {l : List Int} {i : Nat} (h : i < l.length) : (ivs l)[i]? = some (.int .i64 (l.getD i 0)) := by
  simp [ivs, iv, h]
def Fit (l : List Int) : Prop := ∀ x ∈ l, -9223372036854775808 ≤ x ∧ x < 9223372036854775808
theorem Fit.get {l : List Int} (h : Fit l) (i : Nat) : -9223372036854775808 ≤ l.getD i 0 ∧ l.getD i 0 < 9223372036854775808 := by
  by_cases hi : i < l.length
  · have e : l.getD i 0 = l[i] := by simp [List.getD, hi]
    rw [e]
    exact h _ (List.getElem_mem hi)
  · have e : l.getD i 0 = 0 := by simp [List.getD, Nat.not_lt.1 hi]
    rw [e]
    decide

def IHolds (w : World) (B : Nat) (A : Option Addr) (n : Nat) (l : List Int) : Prop :=
  l.length = n ∧ Fit l ∧ (0 < n → ∃ b off, A = some ⟨b, off, none⟩ ∧ b < B ∧ ∀ i, i < n → w.cell? ⟨b, off + i, none⟩ = some (.int .i64 (l.getD i 0)))

section
variable {w w' : World} {B B' : Nat} {A : Option Addr} {n : Nat} {l : List Int}
theorem IHolds.nil_ (w : World) (B : Nat) : IHolds w B none 0 [] := ⟨rfl, by simp [Fit], fun h => by omega⟩
theorem IHolds.keep (h : IHolds w B A n l) (hk : ∀ p : Addr, p.block < B → w'.cell? p = w.cell? p) : IHolds w' B A n l :=
  ⟨h.1, h.2.1, fun hn => by
    obtain ⟨b, off, e, hb, hc⟩ := h.2.2 hn
    exact ⟨b, off, e, hb, fun i hi => (hk ⟨b, off + i, none⟩ hb).trans (hc i hi)⟩⟩
theorem IHolds.below (h : IHolds w B A n l) (hb : Below B w w') : IHolds w' B A n l := h.keep fun _ hp => hb.cell hp
theorem IHolds.more (h : IHolds w B A n l) (hB : B ≤ B') : IHolds w B' A n l :=
  ⟨h.1, h.2.1, fun hn => by
    obtain ⟨b, off, e, hb, hc⟩ := h.2.2 hn
    exact ⟨b, off, e, by omega, hc⟩⟩
theorem IHolds.drew (h : IHolds w B A n l) : IHolds w.drew B A n l := h
theorem IHolds.drewN (h : IHolds w B A n l) (k : Nat) : IHolds (w.drewN k) B A n l := h
theorem IHolds.at_ (h : IHolds w B A n l) {i : Nat} (hi : i < n) : ∃ b off, A = some ⟨b, off, none⟩ ∧ b < B ∧ w.cell? ⟨b, off + i, none⟩ = some (.int .i64 (l.getD i 0)) := by
  obtain ⟨b, off, e, hb, hc⟩ := h.2.2 (by omega)
  exact ⟨b, off, e, hb, hc i hi⟩
theorem IHolds.of_own {base e : Nat} {v : Value} (h : w.ownsRow base e 1 v n (ivs l)) (hs : Fit l) : ∃ A c, v = .slice A n c ∧ n ≤ c ∧ (A = none → c = 0) ∧ IHolds w w.heap.size A n l := by
  have hl : l.length = n := by have := h.1; rw [ivs_len] at this; omega
  rcases h.2 with ⟨rfl, rfl⟩ | ⟨g, cap, cur, rfl, _, hg, hnc, _, _, _⟩
  · exact ⟨none, 0, rfl, Nat.le_refl _, fun _ => rfl, hl, hs, fun h => by omega⟩
  · refine ⟨some ⟨g, 0, none⟩, cap, rfl, hnc, (fun h => by cases h), hl, hs, fun hn => ⟨g, 0, rfl, ?_, fun i hi => ?_⟩⟩
    · exact (Array.getElem?_eq_some_iff.1 hg).1
    · have := h.cellAt i (by omega)
      rw [Nat.zero_add, this, ivs_get (by omega)]
end

def NewInts (w : World) (l : List Int) (e : Ending) (w' : World) : Prop :=
  ∃ A n c, e = .returned (.slice A n c) ∧ w'.ownsRow w.heap.size 3 1 (.slice A n c) n (ivs l) ∧ IHolds w' w'.heap.size A n l ∧ n ≤ c ∧ Below w.heap.size w w'

section
variable {P : Program} (w : World)
end

end Go.Proofs.YtdkiopajilakcaaGreatDoor
/- The walk over droverref01.Ints: are two lists of ints the same? -/
namespace Go.Proofs.YtdkiopajilakcaaGreatDoor
open Go.RowKit

def eqI (l m : List Int) : Bool := decide (l = m)
def SameUp (l m : List Int) (k : Nat) : Prop := ∀ i, i < k → l.getD i 0 = m.getD i 0
theorem SameUp.zero (l m : List Int) : SameUp l m 0 := fun i hi => by omega
theorem SameUp.next {l m : List Int} {k : Nat} (h : SameUp l m k) (he : l.getD k 0 = m.getD k 0) : SameUp l m (k + 1) := fun i hi => by
  by_cases hk : i = k
  · rw [hk, he]
  · exact h i (by omega)
theorem SameUp.all {l m : List Int} {k : Nat} (h : SameUp l m k) (h1 : l.length = k) (h2 : m.length = k) : true = eqI l m := by
  unfold eqI
  symm
  rw [decide_eq_true_eq]
  apply List.ext_getElem (by omega)
  intro i hi1 hi2
  have := h i (by omega)
  simpa [List.getD, hi1, hi2] using this

end Go.Proofs.YtdkiopajilakcaaGreatDoor
/- Ids and Copy of package book: the library's Sorted at what its Keys hands back; the library's Clone. -/
namespace Go.Proofs.YtdkiopajilakcaaGreatDoor
open Go.RowKit Go.Maps Go.Sort Go.Shelf

def idsOf (L : List Ent) : List Int := L.map (·.id)
theorem keys_mapE (f : Int → Loc) (L : List Ent) : intKeys (mapD (L.map (pairE f))) = idsOf L := by
  simp [mapD, intKeys, idsOf, pairE, Function.comp_def]
  intro a _
  rfl
theorem sort_perm {l m : List Int} (hp : l.Perm m) (hm : m.Pairwise (· < ·)) : l.mergeSort (fun x y => decide (x ≤ y)) = m := by
  have tr : ∀ a b c : Int, decide (a ≤ b) = true → decide (b ≤ c) = true → decide (a ≤ c) = true := fun a b c h1 h2 => by simp only [decide_eq_true_eq] at *; omega
  have to : ∀ a b : Int, (decide (a ≤ b) || decide (b ≤ a)) = true := fun a b => by simp only [Bool.or_eq_true, decide_eq_true_eq]; omega
  refine List.Perm.eq_of_pairwise (le := fun a b => decide (a ≤ b) = true) (fun a b _ _ h1 h2 => ?_) (List.pairwise_mergeSort tr to l) (hm.imp fun {a b} h => by simp only [decide_eq_true_eq]; omega) ((List.mergeSort_perm l _).trans hp)
  simp only [decide_eq_true_eq] at h1 h2
  omega
theorem BkOk.fit {t : BkS} (h : BkOk t) : Fit (idsOf t.L) := by
  intro x hx
  obtain ⟨y, hy, rfl⟩ := List.mem_map.1 hx
  have h1 := h.2.1 y hy
  have h2 := h1.1.2.2.2
  have h3 := h1.2
  exact ⟨by omega, by omega⟩
theorem Tryz.sorts (m : Nat) : AnyZI.SortsIn Tryz.prog Tryz.sortedA_ren Fence.wide m :=
  ⟨fun blk off cap ss W hH hblk hsz => callsIn_wide.2 (AnyM.slices_Sort_int Tryz.sortA blk off cap ss W hH hblk hsz),
   fun p cap W => callsIn_wide.2 (AnyM.slices_Sort_int_none Tryz.sortA p cap W)⟩

theorem keys_any (mb : Option Nat) (W : World) : Calls Tryz.prog 70 #[.map mb] W fun e w' => e = .returned (.func (.func 103) #[] #[.pointer (some ⟨W.heap.size, 0, none⟩)]) ∧ w' = W.alloc (.cells #[.map mb] 83) :=
  callsIn_wide.1 (AnyZI.keys_in Tryz.keysA Fence.wide 5 trivial rfl mb W)

theorem sorted_any (f : Int → Loc) (b nn : Nat) (L : List Ent) (w : World) (hown : w.ownsMap Tryz.prog 3 heldR b nn (mapD (L.map (pairE f)))) (hr : (idsOf L).Pairwise (· < ·)) (hf : Fit (idsOf L)) (hlen : L.length ≤ 1000000) :
    Calls Tryz.prog 69 #[.func (.func 103) #[] #[.pointer (some ⟨w.heap.size, 0, none⟩)]] (w.alloc (.cells #[.map (some b)] 83)) (NewInts w (idsOf L)) := by
  have hbl := hown.lt
  have hsz : Maps.size (mapD (L.map (pairE f))) = L.length := by rw [size_mapD, List.length_map]
  have hseq : SeqGives Fence.wide 2 Tryz.prog 103 #[.pointer (some ⟨w.heap.size, 0, none⟩)] encZ (fun ss => ss.Perm (intKeys (mapD (L.map (pairE f))))) (Maps.size (mapD (L.map (pairE f)))) (w.alloc (.cells #[.map (some b)] 83)) :=
    AnyZI.keys_gives (ρ := Tryz.keysA_ren) { Tryz.keysA with } Fence.wide _ trivial rfl (by omega) w.heap.size b nn (mapD (L.map (pairE f))) _ (by simp) (by simp) (by
      obtain ⟨es, clock, hb, Ft, hs, hD⟩ := hown
      exact ⟨es, clock, (Below.heap_alloc _ _ b hbl).trans hb, Ft, hs, hD⟩)
  have cS := AnyZI.sorted_in Tryz.sortedA Fence.wide 5 trivial trivial trivial trivial rfl (by omega) (Tryz.sorts _) (enters_of Tryz.func102 (by kernel_rfl) rfl) 103 #[.pointer (some ⟨w.heap.size, 0, none⟩)] trivial (enters_of Tryz.func103 (by kernel_rfl) rfl) _ _ (by rw [hsz]; unfold maxLen; omega) (by rw [hsz]; omega) _ hseq
  change CallsIn _ _ Tryz.prog 69 _ _ _ at cS
  refine (callsIn_wide.1 cS).mono ?_
  rintro e w' ⟨v, ss, rfl, hS, hrow, hnil, hb⟩
  rw [keys_mapE] at hS
  rw [sort_perm hS hr] at hrow
  have hl : ss.length = (idsOf L).length := hS.length_eq
  rw [hl] at hrow
  have hrow' : w'.ownsRow w.heap.size 3 1 v (idsOf L).length (ivs (idsOf L)) := ownsRow_base_a hrow (by simp)
  obtain ⟨A, c, rfl, h1, _, h2⟩ := IHolds.of_own hrow' hf
  exact ⟨A, _, c, rfl, hrow', h2, h1, ((Below.refl _ w).alloc (Nat.le_refl _) _).trans (hb.mono (by simp))⟩
section
variable {F : Nat → Prop} {w : World} {g b k : Nat} {most : Int} {t : BkS}
set_option maxHeartbeats 1000000 in
theorem ids_any (h : BookAt F w g b k most t) (hl : t.L.length ≤ 1000000) : Calls Tryz.prog 36 #[.pointer (some ⟨g, 0, none⟩)] w (NewInts w (idsOf t.L)) := by
  have C := hide (made_yes h)
  have CK := hide (fun W => keys_any (some b) W)
  obtain ⟨f, hm, _⟩ := h.body
  have CS := hide (sorted_any f b k t.L w hm (List.pairwise_map.2 h.ok.1) h.ok.fit hl)
  have c2 := h.c2
  obtain ⟨l, hl2⟩ : ∃ l, idsOf t.L = l := ⟨_, rfl⟩
  rw [hl2] at CS ⊢
  clear h hm hl hl2
  go_enter Tryz.func36, Tryz.ntmps36
  go_wp2_with (fail)
  refine C.out.mono ?_
  rintro e w1 ⟨rfl, rfl⟩
  go_wp2_with (fail)
  refine (CK.out _).mono ?_
  rintro e w1 ⟨rfl, rfl⟩
  go_wp2_with (fail)
  refine CS.out.mono ?_
  rintro e w2 ⟨A, n, c, rfl, h1, h2, h3, h4⟩
  have H : Hid (NewInts w l (.returned (.slice A n c)) w2) := ⟨A, n, c, rfl, h1, h2, h3, h4⟩
  clear h1 h2 h3 h4
  go_wp2
  go_ret
  exact H.out
end
end Go.Proofs.YtdkiopajilakcaaGreatDoor
/- The walk over envelope's Open. -/
namespace Go.Proofs.YtdkiopajilakcaaGreatDoor
open Go.RowKit

theorem cut_to (A : Option Addr) (n c k : Nat) (hc : k ≤ c) : ∃ A' : Option Addr, (¬ c = 0 → A' = A.map (·.add 0)) ∧
    ∀ w, (Instr.slice 28 (.slice A n c) none (some (.int .i64 (k : Int))) none).run Tryz.prog w = .ok (.slice A' k c) w := by
  refine ⟨if c = 0 then A else A.map (·.add 0), fun h => by rw [if_neg h], fun w => ?_⟩
  rw [run_slice_h w _ _ _ _ sliceU8 .i64 _ (by omega) (by omega), elemU8, sizeU8]
  cases A with
  | none => simp [Result.andThen, sliced]
  | some a =>
    by_cases h : c = 0
    · subst h
      simp [Result.andThen, sliced]
    · simp [Result.andThen, sliced, h]
theorem Holds.to {w : World} {B n cap h : Nat} {A A' : Option Addr} {l : List Nat} (H : Holds w B A n l) (hh : h ≤ n) (hc : n ≤ cap) (hA' : ¬ cap = 0 → A' = A.map (·.add 0)) : Holds w B A' h (l.take h) := by
  simpa using H.mid (k := 0) (Nat.zero_le h) hh hc hA'
def OpenIs (w : World) (l : List Nat) (e : Ending) (w' : World) : Prop :=
  ∃ A n c, e = .returned (.tuple #[.slice A n c, .int .i64 ((opn l).2.1 : Nat), .int .i64 ((opn l).2.2 : Nat)]) ∧ Holds w' w'.heap.size A n (opn l).1 ∧ n ≤ c ∧ Later w w'

theorem bounds_is (A : Option Addr) (n c B f t er : Nat) (l : List Nat) (w : World) (hl : Holds w B A n l) (hn : n ≤ 1099511627000) (hc : n ≤ c) (h : bnd l = (f, t, er)) :
    Calls Tryz.prog 76 #[.slice A n c] w fun e w' => e = .returned (.tuple #[.int .i64 f, .int .i64 t, .int .i64 er]) ∧ w = w' :=
  (bounds_any A n c B l w hl hn hc).mono fun e w' ⟨h1, h2⟩ => by rw [h] at h1; exact ⟨h1, h2⟩
theorem equal_is (A A2 : Option Addr) (n c m c2 B B2 : Nat) (l l2 : List Nat) (d : Bool) (w : World) (hl : Holds w B A n l) (h2 : Holds w B2 A2 m l2) (hd : d = decide (l = l2)) :
    Calls Tryz.prog 77 #[.slice A n c, .slice A2 m c2] w fun e w' => e = .returned (.bool d) ∧ w = w' := by
  rw [hd]
  exact equal_any A A2 n c m c2 B B2 l l2 w hl h2
theorem fours_any (S : Nat) (w : World) (hS : S < 4294967296) : Calls Tryz.prog 74 #[.slice none 0 0, .int .u32 S] w (NewBytes w (four S)) :=
  (putsum_any w.heap.size 0 S _ [] w hS (by omega) (Nat.le_refl _) (World.ownsRow_nil _ _ _ _)).mono fun e w' ⟨v, he, ho, hg⟩ => by
    subst he
    refine newBytes_of (n := 4) (by simpa using ho) (four_small S) ?_
    exact hg.below (base := w.heap.size) (World.ownsRow_nil w w.heap.size 5 1) (Nat.le_refl _)

theorem opn_1 {l : List Nat} {f t e : Nat} (h : bnd l = (f, t, e)) (he : e ≠ 0) : opn l = ([], 0, e) := by
  unfold opn; rw [h, if_pos he]
theorem opn_2 {l : List Nat} {f t e : Nat} (h : bnd l = (f, t, e)) (he : ¬ e ≠ 0) (hs : ¬ (l.drop t).take 4 = four (sum (l.take t))) : opn l = ([], 0, 6) := by
  unfold opn; rw [h, if_neg he, if_pos hs]
theorem opn_3 {l : List Nat} {f t e : Nat} (h : bnd l = (f, t, e)) (he : ¬ e ≠ 0) (hs : (l.drop t).take 4 = four (sum (l.take t))) : opn l = ((l.drop f).take (t - f), t + 4, 0) := by
  unfold opn; rw [h, if_neg he, if_neg (fun hh => hh hs)]

set_option maxHeartbeats 4000000 in
set_option maxRecDepth 100000 in
theorem open_any (A : Option Addr) (n c : Nat) (l : List Nat) (w : World) (hl : Holds w w.heap.size A n l) (hn : n ≤ 1099511627000) (hc : n ≤ c) (hT : Tab w) :
    Calls Tryz.prog 39 #[.slice A n c] w (OpenIs w l) := by
  obtain ⟨f, t, er, hb⟩ : ∃ f t er, bnd l = (f, t, er) := ⟨_, _, _, rfl⟩
  have Hl := hide hl
  have HT := hide hT
  have hlen := hl.1
  have hbs := hide (bounds_is A n c _ f t er l w hl hn hc hb)
  have hfit := bnd_fits l
  rw [hb] at hfit
  simp only at hfit
  have Hb := hide hb
  clear hl hT hb
  by_cases he : er ≠ 0
  · have ho := opn_1 Hb.out he
    have he2 : ((er : Int) == 0) = false := by simp; omega
    have Ho := hide ho
    clear ho
    go_enter Tryz.func39, Tryz.ntmps39
    go_wp2_with (fail)
    refine hbs.out.mono ?_
    rintro e w1 ⟨rfl, rfl⟩
    go_wp2
    go_ret3
    refine ⟨none, 0, 0, ?_, ?_, Nat.le_refl _, Later.refl _⟩
    · rw [Ho.out]
      rfl
    · rw [Ho.out]
      exact Holds.nil_ _ _
  · obtain ⟨hf1, hft, htn⟩ := hfit (by omega)
    obtain ⟨E, hE⟩ : ∃ E, E = t + 4 := ⟨_, rfl⟩
    have hEi : (t : Int) + 4 = (E : Int) := by omega
    obtain ⟨A', hA', hcut⟩ := cut_mid A n c t E (by omega) (by omega)
    obtain ⟨A2, hA2, hcut2⟩ := cut_to A n c t (by omega)
    have hEn : E ≤ n := by omega
    have h1 := Hl.out.mid (k := t) (h := E) (cap := c) (by omega) (by omega) hc hA'
    have hE4 : E - t = 4 := by omega
    rw [hE4] at h1 hcut
    have h2 := Hl.out.to (h := t) (by omega) hc hA2
    have H1 := hide h1
    have H2 := hide h2
    have hq32 : sum (l.take t) < 4294967296 := sum_lt h2.2.1
    obtain ⟨q, hq⟩ : ∃ q, q = sum (l.take t) := ⟨_, rfl⟩
    rw [← hq] at hq32
    obtain ⟨d, hd⟩ : ∃ d, d = decide ((l.drop t).take 4 = four q) := ⟨_, rfl⟩
    obtain ⟨A3, hA3, hcut3⟩ := cut_mid A n c f t (by omega) (by omega)
    have h3 := Hl.out.mid (k := f) (h := t) (cap := c) (by omega) (by omega) hc hA3
    have H3 := hide h3
    have her : er = 0 := by omega
    subst her
    have Hq := hide hq
    have Hd := hide hd
    have HA' := hide hA'
    have HA3 := hide hA3
    have HA2 := hide hA2
    have HE := hide hE
    have L0 := hide (Later.drew w)
    have Hfit := hide hfit
    have He := hide he
    clear h1 h2 h3 hq hd hA' hA3 hA2 hE hfit hlen he
    go_enter Tryz.func39, Tryz.ntmps39
    go_wp2_with (fail)
    refine hbs.out.mono ?_
    rintro e w1 ⟨rfl, rfl⟩
    go_wp2
    refine wp_region_L (by kernel_rfl) ?_
    refine wpAnyL_take (i := 0) (d := some 20) (v := ?va0) rfl rfl (by kernel_rfl) (by kernel_rfl) (by kernel_rfl) (fun _ _ _ h => h) (by rfl) ?ya0 ?_
    case ya0 => (intro w' hw'; go_simp; try (with_reducible rfl))
    simp only [Act.put, List.setIfInBounds_toArray, List.set_cons_zero, List.set_cons_succ]
    refine wpAnyL_take (i := 1) (d := some 21) (v := ?va1) rfl rfl (by kernel_rfl) (by kernel_rfl) (by kernel_rfl) (fun _ _ _ h => h) (by rfl) ?ya1 ?_
    case ya1 => (intro w' hw'; go_simp; try (with_reducible rfl))
    simp only [Act.put, List.setIfInBounds_toArray, List.set_cons_zero, List.set_cons_succ]
    refine wpAnyL_take (i := 2) (d := some 22) (v := ?va2) rfl rfl (by kernel_rfl) (by kernel_rfl) (by kernel_rfl) (fun _ _ _ h => h) (by rfl) ?ya2 ?_
    case ya2 => (intro w' hw'; go_simp; try (with_reducible rfl))
    simp only [Act.put, List.setIfInBounds_toArray, List.set_cons_zero, List.set_cons_succ]
    refine wpAnyL_take (i := 3) (d := some 23) (v := ?va3) rfl rfl (by kernel_rfl) (by kernel_rfl) (by kernel_rfl) (fun _ _ _ h => h) (by rfl) ?ya3 ?_
    case ya3 => (intro w' hw'; go_simp; try (with_reducible rfl))
    simp only [Act.put, List.setIfInBounds_toArray, List.set_cons_zero, List.set_cons_succ]
    refine wpAnyL_take (i := 4) (d := some 24) (v := ?va4) rfl rfl (by kernel_rfl) (by kernel_rfl) (by kernel_rfl) (fun _ _ _ h => h) (by rfl) ?ya4 ?_
    case ya4 => (intro w' hw'; go_simp; try (with_reducible rfl))
    simp only [Act.put, List.setIfInBounds_toArray, List.set_cons_zero, List.set_cons_succ]
    refine wpAnyL_take (i := 5) (d := some 25) (v := ?va5) rfl rfl (by kernel_rfl) (by kernel_rfl) (by kernel_rfl) (fun _ _ _ h => h) (by rfl) ?ya5 ?_
    case ya5 => (intro w' hw'; go_simp; try (with_reducible rfl))
    simp only [Act.put, List.setIfInBounds_toArray, List.set_cons_zero, List.set_cons_succ]
    refine wpAnyL_take (i := 6) (d := some 26) (v := ?va6) rfl rfl (by kernel_rfl) (by kernel_rfl) (by kernel_rfl) (fun _ _ _ h => h) (by rfl) ?ya6 ?_
    case ya6 => (intro w' hw'; go_simp; try (with_reducible rfl))
    simp only [Act.put, List.setIfInBounds_toArray, List.set_cons_zero, List.set_cons_succ]
    refine wpAnyL_only (i := 7) rfl (by kernel_rfl) (by rfl) fun K hK => ?_
    go_simp
    refine (nt_sum_any A2 t c _ _ _ (H2.out.later L0.out) (by omega) (HT.out.later L0.out)).mono ?_
    rintro e w2 ⟨rfl, rfl⟩
    rw [← Hq.out]
    refine hK.out _ _ (Later.refl _) ?_
    clear hK K
    try simp only [Act.put, List.setIfInBounds_toArray, List.set_cons_zero, List.set_cons_succ]
    refine wpAnyL_only (i := 8) rfl (by kernel_rfl) (by rfl) fun K hK => ?_
    go_simp
    refine (fours_any q _ hq32).mono ?_
    rintro e w3 ⟨A4, n4, c4, rfl, _, h4, _, b4⟩
    have H4 := hide h4
    have L3 := hide (L0.out.trans b4)
    refine hK.out _ _ b4 ?_
    clear h4 b4
    clear hK K
    try simp only [Act.put, List.setIfInBounds_toArray, List.set_cons_zero, List.set_cons_succ]
    refine wpAnyL_only (i := 9) rfl (by kernel_rfl) (by rfl) fun K hK => ?_
    go_simp
    refine (equal_is A' A4 4 (c - t) n4 c4 _ _ _ _ d w3 (H1.out.later L3.out) H4.out Hd.out).mono ?_
    rintro e w4 ⟨rfl, rfl⟩
    refine hK.out _ _ (Later.refl _) ?_
    clear hK K
    try simp only [Act.put, List.setIfInBounds_toArray, List.set_cons_zero, List.set_cons_succ]
    refine wpAnyL_take (i := 10) (d := some 30) (v := ?va10) rfl rfl (by kernel_rfl) (by kernel_rfl) (by kernel_rfl) (fun _ _ _ h => h) (by rfl) ?ya10 ?_
    case ya10 => (intro w' hw'; go_simp; try (with_reducible rfl))
    simp only [Act.put, List.setIfInBounds_toArray, List.set_cons_zero, List.set_cons_succ]
    refine wpAnyL_done (by kernel_rfl) ?_ _
    cases d with
    | false =>
      have ho := opn_2 Hb.out (by simp) (by rw [← Hq.out]; exact of_decide_eq_false Hd.out.symm)
      have Ho := hide ho
      clear ho
      go_wp2
      go_ret3
      refine ⟨none, 0, 0, ?_, ?_, Nat.le_refl _, L3.out⟩
      · rw [Ho.out]
        rfl
      · rw [Ho.out]
        exact Holds.nil_ _ _
    | true =>
      have ho := opn_3 Hb.out (by simp) (by rw [← Hq.out]; exact of_decide_eq_true Hd.out.symm)
      have Ho := hide ho
      clear ho
      go_wp2_with (fail)
      refine (clone_any A3 (t - f) (c - f) _ _ _ (H3.out.later L3.out) (Nat.le_refl _) (by omega)).mono ?_
      rintro e w5 ⟨A5, n5, c5, rfl, _, h5, hc5, b5⟩
      have H5 := hide h5
      have L5 := hide (L3.out.trans b5)
      clear h5 b5
      go_wp2
      go_ret3
      refine ⟨A5, n5, c5, ?_, ?_, hc5, L5.out⟩
      · rw [Ho.out]
        simp only
        rw [← HE.out]
        rfl
      · rw [Ho.out]
        exact H5.out
end Go.Proofs.YtdkiopajilakcaaGreatDoor
/- The document's example of package image: the bytes of an empty book, and the book of these bytes. -/
namespace Go.Proofs.YtdkiopajilakcaaGreatDoor
open Go.RowKit Go.Maps
theorem fd_info : (Tryz.prog.info? 51).map (fun i => (i.zero, i.size, i.bytes)) = some (some (.agg #[.int .i64 0, .bool false, .int .u64 0, .slice none 0 0]), 4, 48) := by kernel_rfl
section
variable {w : World} {F : Nat → Prop} {g b k : Nat} {most : Int}
set_option maxHeartbeats 2000000 in
set_option maxRecDepth 100000 in
theorem made17_any (h : BookAt F w g b k most ⟨0, []⟩) : Calls Tryz.prog 35 #[.pointer (some ⟨g, 0, none⟩)] w (Gives (.bool true) w) := by
  have CS := hide (status_any h (id := 0) ⟨by decide, by decide⟩)
  rw [show (statusF ([] : List Ent) 0).val = .agg #[.int .i64 8, .int .i64 0, .int .i64 0, .int .i64 0] from rfl] at CS
  clear h
  go_enter Tryz.func35, Tryz.ntmps35
  go_wp2_with (fail)
  refine CS.out.mono ?_
  rintro e w1 ⟨rfl, hl⟩
  have L1 : Hid (Later w w1) := hl
  have hf : ∀ W, (Instr.field 118 (.agg #[.int .i64 8, .int .i64 0, .int .i64 0, .int .i64 0]) 0).run Tryz.prog W = .ok (.int .i64 8) W := fun W => by kernel_rfl
  clear hl
  go_wp2
  go_ret
  exact ⟨rfl, L1.out⟩
set_option maxHeartbeats 4000000 in
set_option maxRecDepth 100000 in
theorem bytes_empty (h : BookAt F w g b k most ⟨0, []⟩) (hT : Tab w) : Calls Tryz.prog 11 #[.pointer (some ⟨g, 0, none⟩), .int .i64 0] w (NewBytes w (sealed [])) := by
  obtain ⟨i0, hi, hz0, hz1, _⟩ := info_parts fd_info
  have HI := hide hi
  have HZ0 := hide hz0
  have HZ1 := hide hz1
  have CM := hide (made17_any h)
  have HT := hide hT
  have HB := hide h
  clear h hT hi hz0 hz1
  go_enter Tryz.func11, Tryz.ntmps11
  go_wp2_with (fail)
  refine CM.out.mono ?_
  rintro e w1 ⟨rfl, hl1⟩
  have L1 : Hid (Later w w1) := hl1
  have CN := hide (number_any (w := w1) 1 0 ⟨by decide, by decide⟩)
  clear hl1 CM
  go_wp2_with (fail)
  refine CN.out.mono ?_
  rintro e w2 ⟨rfl, hl2⟩
  have L2 : Hid (Later w w2) := Later.trans (show Later w w1 from L1.out) hl2
  obtain ⟨W3, hW3⟩ : ∃ W3, W3 = w2.alloc (.cells (fdN 1 0).cells 51 (0, 0)) := ⟨_, rfl⟩
  obtain ⟨z, hz⟩ : ∃ z, w2.heap.size = z := ⟨_, rfl⟩
  have X3 : Hid (FBlk z [fdN 1 0] [] W3) := by
    rw [hW3, ← hz]
    exact heap_alloc_new w2 _
  have L3 : Hid (Later w W3) := by rw [hW3]; exact Later.trans (show Later w w2 from L2.out) ((Below.refl _ _).alloc (Nat.le_refl _) _)
  have HZ : Hid (w.heap.size ≤ z) := by rw [← hz]; exact Below.size L2.out
  have CI := hide (ids_any (HB.out.later L3.out) (by decide))
  have HW3 := hide hW3.symm
  have HZZ := hide hz
  clear hl2 CN hW3 hz
  go_wp2_with (refine wpList_val rfl (by rfl) (exec_buildSlice_fd (f := fdN 1 0) HI.out HZ0.out HZ1.out (by rfl) (by rfl)) ?_; rw [HW3.out, HZZ.out])
  refine CI.out.mono ?_
  rintro e w4 ⟨A4, n4, c4, rfl, _, h2, _, h4⟩
  obtain rfl : n4 = 0 := h2.1.symm
  have L34 : Hid (Later W3 w4) := h4
  have X4 : Hid (FBlk z [fdN 1 0] [] w4) := X3.out.below h4
  have L4 : Hid (Later w w4) := Later.trans (show Later w W3 from L3.out) h4
  clear h2 h4 CI
  go_wp2_with (fail)
  go_loopw [5, 19] (fun s5 s19 wr => s5 = .slice (some ⟨z, 0, none⟩) 1 1 ∧ s19 = .int .i64 0 ∧ w4 = wr) (fun _ _ _ => 0)
  case atStart => exact ⟨rfl, rfl, rfl⟩
  case round =>
    obtain ⟨rfl, rfl, rfl⟩ := hrel
    have CR := hide (record_any17 (B := w.heap.size) (c := 1) X4.out rfl (by decide) (by decide) (fun f hf => by rw [List.mem_singleton.1 hf]; exact FdAt.num_ ⟨by decide, by decide⟩ ⟨by decide, by decide⟩) (by decide) HZ.out)
    go_wp2_with (fail)
    refine CR.out.mono ?_
    rintro e w5 ⟨A5, n5, c5, rfl, _, h5, _, hb5⟩
    rw [show prec (keepP ([fdN 1 0].map Fd.pf)) = [] from rfl] at h5
    have L5 : Hid (Later w w5) := ((Turned.of_below L4.out (fun _ => False)).onto (Turned.of_below (Below.refl _ _) (fun _ => False)) (fun i hi => hi.elim)).below (fun i hi => hi.elim) (Nat.le_refl _) |>.trans hb5
    have CS := hide (seal_any A5 n5 c5 w5.heap.size [] w5 h5 (Nat.le_refl _) (by have := h5.1; simp at this; omega) (HT.out.later L5.out))
    clear h5 hb5 CR
    go_wp2_with (fail)
    refine CS.out.mono ?_
    rintro e w6 ⟨A6, n6, c6, rfl, h6, h7, h8, hb6⟩
    have R6 : Hid (NewBytes w (sealed []) (.returned (.slice A6 n6 c6)) w6) := ⟨A6, n6, c6, rfl, own_base h6 (Below.size L5.out), h7, h8, Later.trans (show Later w w5 from L5.out) hb6⟩
    clear h6 h7 h8 hb6 CS
    go_wp2
    go_ret
    exact R6.out
end
end Go.Proofs.YtdkiopajilakcaaGreatDoor
/- The book of the bytes of an empty book; the document's example of package image. -/
namespace Go.Proofs.YtdkiopajilakcaaGreatDoor
open Go.RowKit Go.Maps
section
variable {w : World}
set_option maxHeartbeats 4000000 in
set_option maxRecDepth 100000 in
theorem rd_empty {A : Option Addr} {n c : Nat} (hl : Holds w w.heap.size A n []) (hc : n ≤ c) (fv : Value) : Calls Tryz.prog 14 #[.slice A n c, fv] w fun e w' => e = .returned (.int .i64 0) ∧ Later w w' := by
  have C := hide (read_any A n c [] w hl (by have := hl.1; simp at this; omega) hc)
  unfold ReadIs at C
  rw [show pread [] = (0, []) from rfl] at C
  clear hl hc
  go_enter Tryz.func14, Tryz.ntmps14
  go_wp2_with (fail)
  refine C.out.mono ?_
  rintro e w1 ⟨A1, n1, c1, fs, rfl, hpf, hfh, hnc, hb, _, _⟩
  obtain rfl : fs = [] := List.map_eq_nil_iff.1 hpf
  obtain rfl : n1 = 0 := hfh.1.symm
  have L1 : Hid (Later w w1) := hb
  clear hpf hfh hnc hb C
  go_wp2_with (fail)
  go_loopw [16] (fun s wr => s = .int .i64 0 ∧ w1 = wr) (fun _ _ => 0)
  case atStart => exact ⟨rfl, rfl⟩
  case round =>
    obtain ⟨rfl, rfl⟩ := hrel
    go_wp2
    go_ret
    exact ⟨rfl, L1.out⟩
def BooksE (w : World) (e : Ending) (w' : World) : Prop := ∃ g b, e = .returned (.tuple #[.pointer (some ⟨g, 0, none⟩), .int .i64 0]) ∧ (∀ F : Nat → Prop, ¬ F g → ¬ F b → BookAt F w' g b 0 0 ⟨0, []⟩) ∧ Later w w'
set_option maxHeartbeats 4000000 in
set_option maxRecDepth 100000 in
theorem books_empty {A : Option Addr} {n c : Nat} (hl : Holds w w.heap.size A n []) (hc : n ≤ c) : Calls Tryz.prog 40 #[.slice A n c] w (BooksE w) := by
  have CN := hide (new_yes 0 w (by decide) (by decide))
  have HL := hide hl
  have HC := hide hc
  clear hl hc
  go_enter Tryz.func40, Tryz.ntmps40
  go_wp2_with (fail)
  refine CN.out.mono ?_
  rintro e w1 ⟨g, b, rfl, hg, hb, hl1, hbk⟩
  have L1 : Hid (Later w w1) := hl1
  have HBK := hide hbk
  clear hg hb hl1 hbk CN
  obtain ⟨z, hz⟩ : ∃ z, w1.heap.size = z := ⟨_, rfl⟩
  obtain ⟨W2, hW2⟩ : ∃ W2, W2 = ((w1.alloc (.cells #[.pointer (some ⟨g, 0, none⟩)] 44)).alloc (.cells #[.int .i64 0] 3)).alloc (.cells #[.int .i64 0] 3) := ⟨_, rfl⟩
  have L12 : Hid (Later w1 W2) := by rw [hW2]; exact (((Below.refl _ _).alloc (Nat.le_refl _) _).alloc (by simp) _).alloc (by simp; omega) _
  have b0 : W2.heap[z]? = some (.cells #[.pointer (some ⟨g, 0, none⟩)] 44 (0, 0)) := by rw [hW2, ← hz]; exact (heap_alloc_old _ _ (by simp; omega)).trans ((heap_alloc_old _ _ (by simp)).trans (heap_alloc_new _ _))
  have b1 : W2.heap[z + 1]? = some (.cells #[.int .i64 0] 3 (0, 0)) := by rw [hW2, ← hz]; exact (heap_alloc_old _ _ (by simp)).trans (heap_second _ _ _)
  have HB0 := hide b0
  have HB1 := hide b1
  have L2 : Hid (Later w W2) := Later.trans (show Later w w1 from L1.out) L12.out
  have CR := hide (fun fv => rd_empty ((HL.out.below L2.out).more (Below.size L2.out)) HC.out fv)
  have HW2 := hide hW2.symm
  have HZ := hide hz
  clear b0 b1 hz hW2
  go_wp2_with (fail)
  simp only [HW2.out, HZ.out]
  refine (CR.out _).mono ?_
  rintro e w3 ⟨rfl, hl3⟩
  have c0 : w3.cell? ⟨z, 0, none⟩ = some (.pointer (some ⟨g, 0, none⟩)) := cell_of_row w3 z 0 _ _ _ ((Below.block hl3 z (lt_of_block HB0.out)).trans HB0.out)
  have c1 : w3.cell? ⟨z + 1, 0, none⟩ = some (.int .i64 0) := cell_of_row w3 (z + 1) 0 _ _ _ ((Below.block hl3 (z + 1) (lt_of_block HB1.out)).trans HB1.out)
  have L13 : Hid (Later w1 w3) := Later.trans (show Later w1 W2 from L12.out) hl3
  clear hl3 CR
  go_wp2_with (fail)
  go_region
  go_wp2
  go_ret2
  exact ⟨g, b, rfl, fun F h1 h2 => (HBK.out F h1 h2).later (Later.trans (show Later w1 w3 from L13.out) (Later.drew _)), Later.trans (Later.trans (show Later w w1 from L1.out) L13.out) (Later.drew _)⟩
def ReadE (w : World) (e : Ending) (w' : World) : Prop := ∃ g, e = .returned (.tuple #[.pointer (some ⟨g, 0, none⟩), .int .i64 0, .int .i64 0]) ∧ Later w w'
theorem opn_empty : opn (sealed []) = ([], 6, 0) := by decide +kernel
theorem sealed_six : (sealed []).length = 6 := by decide +kernel
set_option maxHeartbeats 4000000 in
set_option maxRecDepth 100000 in
theorem read_empty {A : Option Addr} {n c : Nat} (hl : Holds w w.heap.size A n (sealed [])) (hc : n ≤ c) (hT : Tab w) : Calls Tryz.prog 13 #[.slice A n c] w (ReadE w) := by
  have C := hide (open_any A n c (sealed []) w hl (by have := hl.1; rw [sealed_six] at this; omega) hc hT)
  unfold OpenIs at C
  rw [opn_empty] at C
  have HL := hide hl
  have HT := hide hT
  clear hl hc hT
  go_enter Tryz.func13, Tryz.ntmps13
  go_wp2_with (fail)
  refine C.out.mono ?_
  rintro e w1 ⟨A1, n1, c1, rfl, h1, h2, h3⟩
  have L1 : Hid (Later w w1) := h3
  have CB := hide (books_empty h1 h2)
  clear h1 h2 h3 C
  go_wp2_with (fail)
  refine CB.out.mono ?_
  rintro e w2 ⟨g, b, rfl, hbk, hl2⟩
  have L2 : Hid (Later w w2) := Later.trans (show Later w w1 from L1.out) hl2
  have CY := hide (bytes_empty (hbk (fun i => i ≠ g ∧ i ≠ b) (fun e => e.1 rfl) (fun e => e.2 rfl)) (HT.out.later L2.out))
  clear hbk hl2 CB
  go_wp2_with (fail)
  refine CY.out.mono ?_
  rintro e w3 ⟨A3, n3, c3, rfl, _, h3, _, hl3⟩
  have L3 : Hid (Later w w3) := Later.trans (show Later w w2 from L2.out) hl3
  have CS := hide (same17_any (c := c3) (c2 := c) h3 (HL.out.below L3.out))
  rw [decide_eq_true rfl] at CS
  clear h3 hl3 CY
  go_wp2_with (fail)
  refine CS.out.mono ?_
  rintro e w4 ⟨rfl, rfl⟩
  go_wp2
  go_ret3
  exact ⟨g, rfl, L3.out⟩
theorem sagaO_zero : sagaO (SagaD.zero.q []) = [] := by decide +kernel
set_option maxHeartbeats 4000000 in
set_option maxRecDepth 100000 in
theorem lives17_any (hT : Tab w) : Calls Tryz.prog 5 #[] w fun e w' => e = .returned (.bool true) ∧ Later w w' := by
  have CN := hide (new_yes 0 w (by decide) (by decide))
  have HT := hide hT
  clear hT
  go_enter Tryz.func5, Tryz.ntmps5
  go_wp2_with (fail)
  refine CN.out.mono ?_
  rintro e w1 ⟨g, b, rfl, hg, hb, hl1, hbk⟩
  have L1 : Hid (Later w w1) := hl1
  have CY := hide (bytes_empty (hbk (fun i => i ≠ g ∧ i ≠ b) (fun e => e.1 rfl) (fun e => e.2 rfl)) (HT.out.later hl1))
  clear hg hb hl1 hbk CN
  go_wp2_with (fail)
  refine CY.out.mono ?_
  rintro e w2 ⟨A2, n2, c2, rfl, _, h2, h3, hl2⟩
  have L2 : Hid (Later w w2) := Later.trans (show Later w w1 from L1.out) hl2
  have CR := hide (read_empty h2 h3 (HT.out.later L2.out))
  have e6 : n2 = 6 := by have := h2.1; rw [sealed_six] at this; exact this.symm
  subst e6
  clear h2 h3 hl2 CY
  go_wp2_with (fail)
  refine CR.out.mono ?_
  rintro e w3 ⟨g3, rfl, hl3⟩
  have L3 : Hid (Later w w3) := Later.trans (show Later w w2 from L2.out) hl3
  have CI := hide (isaga_any (w := w3) (F0 := fun _ => True) (s := SagaD.zero) (l := []) (StepsAt.nil_ _ _) (fun _ h => by cases h) ⟨by decide, by decide⟩)
  rw [sagaO_zero] at CI
  clear hl3 CR
  go_wp2_with (refine wpList_build_parts (by rfl) 27 _ (by rfl) [] (by rfl) SagaD.zero.cells.toArray (by kernel_rfl) ?_)
  refine CI.out.mono ?_
  rintro e w4 ⟨A4, n4, c4, rfl, _, h4, _, hl4⟩
  obtain rfl : n4 = 0 := h4.1.symm
  have L4 : Hid (Later w w4) := Later.trans (show Later w w3 from L3.out) hl4
  clear h4 hl4 CI
  go_wp2
  go_ret
  exact ⟨rfl, L4.out⟩
end
end Go.Proofs.YtdkiopajilakcaaGreatDoor
/- The walks over the document's own numbers: droverref01.Uint, GetUint, Zig, Zag. -/
namespace Go.Proofs.YtdkiopajilakcaaGreatDoor
open Go.RowKit

set_option maxHeartbeats 1000000 in
theorem refuint_any (A : Option Addr) (n c V : Nat) (l : List Nat) (B : Nat) (w : World) (hV : V < 18446744073709551616) (hn : n ≤ 1099511627000) (hl : Holds w B A n l) (hB : B ≤ w.heap.size) :
    Calls Tryz.prog 65 #[.slice A n c, .int .u64 V] w (NewBytes w (l ++ enc V)) := by
  obtain ⟨i0, hi, hz0, hz1, hz2⟩ := info_parts Tryz.infoU8
  have HV := hide hV
  have Hl := hide hl
  clear hV hl
  go_enter Tryz.func65, Tryz.ntmps65
  go_wp2_with (at_builtin; refine wpList_append_bytes _ rfl (.tmp 7) (.tmp 8) 28 rfl w.heap.size 5 i0 (.int .u8 0) Tryz.underlying28 hi hz0 hz1 hz2 rfl _ 0 [] rfl (World.ownsRow_lit w #[] 0 (Nat.le_refl _) (by simp [maxLen]) rfl) B A n c l rfl (Hl.out.below ((Below.refl _ _).alloc hB _)) (by omega) (by simp) ?_; intro v2 w2 o2 g2)
  have l2 : Below w.heap.size w w2 := ((Below.refl _ _).alloc (Nat.le_refl _) _).trans (g2.below (World.ownsRow_lit w #[] 0 (Nat.le_refl _) (by simp [maxLen]) rfl) (by simp))
  have o2' : w2.ownsRow w.heap.size 5 1 v2 n (bvs (l ++ [])) := by simpa using o2
  clear o2 g2
  go_loopw [5, 1] (fun b vv wr => ∃ (f v m : Nat) (k : List Nat), PutAt V f v m n k ∧ vv = .int .u64 v ∧ wr.ownsRow w.heap.size 5 1 b m (bvs (l ++ k)) ∧ Below w.heap.size w wr) (fun _ vv _ => (Go.RowKit.intOf vv).toNat)
  case atStart => exact ⟨9, V, n, [], putAt_start HV.out n, rfl, o2', l2⟩
  case round =>
    obtain ⟨f, v, m, k, hput, rfl, hown, hbel⟩ := hrel
    have hmm := hput.room (by omega)
    obtain ⟨g, hg⟩ : ∃ g, g = v % 128 := ⟨_, rfl⟩
    obtain ⟨c, hc⟩ : ∃ c, c = g + 128 := ⟨_, rfl⟩
    have hrem : (v : Int) % 128 = (g : Int) := by omega
    obtain ⟨q, hq⟩ : ∃ q, q = v / 128 := ⟨_, rfl⟩
    have hquo : IntKind.u64.wrap ((v : Int) / 128) = (q : Int) := by
      have := hput.1
      rw [IntKind.wrap_u64]
      omega
    have Hq := hide hq
    have hadd : (g : Int) + 128 = (c : Int) := by omega
    have hgs : g < 128 := by omega
    have hcs : c < 256 := by omega
    have hsz := hbel.size
    have Hg := hide hg
    have Hc := hide hc
    clear hg hc hq o2' l2
    by_cases h : q = 0
    · have ht : ((q : Int) == 0) = true := by simp; omega
      have Hz : Hid (v / 128 = 0) := by show _ = _; rw [← Hq.out]; exact h
      clear h
      go_wp2_with (at_builtin; refine wpList_append_own_at _ rfl (.tmp 17) (.tmp 19) 28 rfl w.heap.size 5 i0 _ 1 1 Tryz.underlying28 hi hz0 hz1 hz2 rfl (by omega) _ m (bvs (l ++ k)) rfl (hown.alloc _) ⟨wr.heap.size, 0, none⟩ 1 1 (bvs [g]) rfl rfl (cell_one_new _ _ _) (bvs_cell _) (by simp only [maxLen]; omega) (by omega) (by simp; omega) ?_; intro v1 w1 hown1 hg1 _ hat1)
      go_ret
      refine newBytes_of (n := m + 1) ?_ (fun y hy => ?_) ((hbel.alloc (by omega) _).trans (Went.below (.of_at hg1 hat1) (hown.alloc _) (by simp; omega)))
      · rw [hput.last Hz.out, ← Hg.out, ← List.append_assoc, bvs_append]
        exact hown1
      · rcases List.mem_append.1 hy with h | h
        · exact Hl.out.2.1 y h
        · exact enc_small V y h
    · have ht : ((q : Int) == 0) = false := by simp; omega
      have Hz : Hid (¬ v / 128 = 0) := by show ¬ _; rw [← Hq.out]; exact h
      clear h
      go_wp2_with (at_builtin; refine wpList_append_own_at _ rfl (.tmp 21) (.tmp 24) 28 rfl w.heap.size 5 i0 _ 1 1 Tryz.underlying28 hi hz0 hz1 hz2 rfl (by omega) _ m (bvs (l ++ k)) rfl (hown.alloc _) ⟨wr.heap.size, 0, none⟩ 1 1 (bvs [c]) rfl rfl (cell_one_new _ _ _) (bvs_cell _) (by simp only [maxLen]; omega) (by omega) (by simp; omega) ?_; intro v1 w1 hown1 hg1 _ hat1)
      obtain ⟨f', hnext⟩ := hput.next Hz.out
      rw [← Hg.out, ← Hc.out] at hnext
      go_roundw
      case rel =>
        refine ⟨f', v / 128, m + 1, k ++ [c], hnext, by rw [Hq.out], ?_, (hbel.alloc (by omega) _).trans (Went.below (.of_at hg1 hat1) (hown.alloc _) (by simp; omega))⟩
        rw [← List.append_assoc, bvs_append]
        exact hown1
      case measure =>
        have := Hz.out
        have := Hq.out
        simp [Go.RowKit.intOf]
        omega

def RefAt (l : List Nat) (n k a : Nat) : Prop := k ≤ n ∧ k ≤ 10 ∧ l.length = n ∧ (k ≤ 9 → GetAt l n k a) ∧ (k = 10 → num l 0 0 = (0, 0, 4))

theorem GetAt.add {l : List Nat} {n k a : Nat} (h : GetAt l n k a) (hb : ¬ (k = 9 ∧ 1 < l.getD k 0 % 128)) {y : Nat} (hy : y = l.getD k 0 % 128) :
    IntKind.u64.wrap ((a : Int) + IntKind.u64.wrap ((y : Int) * 2 ^ (7 * k))) = ((a + l.getD k 0 % 128 * 2 ^ (7 * k) : Nat) : Int) := by
  subst hy
  have h9 := h.2.1
  have ha := h.2.2.1
  have e63 : (2 : Nat) ^ 63 = 9223372036854775808 := by decide
  have e56 : (2 : Nat) ^ 56 = 72057594037927936 := by decide
  have hp : 2 ^ (7 * k) ≤ 2 ^ 63 := Nat.pow_le_pow_right (by decide) (by omega)
  have hm : l.getD k 0 % 128 * 2 ^ (7 * k) ≤ 9223372036854775808 := by
    by_cases hk : k = 9
    · subst hk
      have : l.getD 9 0 % 128 ≤ 1 := by omega
      have := Nat.mul_le_mul_right (2 ^ (7 * 9)) this
      omega
    · have hp2 : 2 ^ (7 * k) ≤ 2 ^ 56 := Nat.pow_le_pow_right (by decide) (by omega)
      have h1 : l.getD k 0 % 128 ≤ 127 := by omega
      have := Nat.mul_le_mul h1 hp2
      omega
  rw [show ((l.getD k 0 % 128 : Nat) : Int) * 2 ^ (7 * k) = ((l.getD k 0 % 128 * 2 ^ (7 * k) : Nat) : Int) from by rw [Int.natCast_mul, Int.natCast_pow]; rfl]
  rw [IntKind.wrap_u64, IntKind.wrap_u64]
  omega

theorem GetAt.add9 {l : List Nat} {n k a : Nat} (h : GetAt l n k a) (hk : k = 9) {y : Nat} (hy : y = l.getD k 0 % 128) (hy1 : y ≤ 1) :
    IntKind.u64.wrap ((a : Int) + (y : Int) * 9223372036854775808) = ((a + l.getD k 0 % 128 * 2 ^ (7 * k) : Nat) : Int) := by
  have ha := h.2.2.1
  subst hk
  have e63 : (2 : Nat) ^ (7 * 9) = 9223372036854775808 := by decide
  rw [e63] at ha ⊢
  rw [← hy, IntKind.wrap_u64]
  omega

set_option maxHeartbeats 1000000 in
set_option maxRecDepth 100000 in
theorem refgetuint_any (A : Option Addr) (n c B : Nat) (l : List Nat) (w : World) (hl : Holds w B A n l) (hn : n ≤ 1099511627000) :
    Calls Tryz.prog 92 #[.slice A n c] w fun e w' => e = .returned (.tuple #[.int .u64 (num l 0 0).1, .int .i64 (num l 0 0).2.1]) ∧ w = w' := by
  have G0 : RefAt l n 0 0 := ⟨by omega, by omega, hl.1, fun _ => getAt_start hl.1 hl.2.1, fun h => by omega⟩
  go_enter Tryz.func92, Tryz.ntmps92
  go_wp2
  go_loop [4, 5] (fun v i => ∃ k a : Nat, RefAt l n k a ∧ v = .int .u64 a ∧ i = .int .i64 k) (fun _ i => n - (Go.RowKit.intOf i).toNat)
  case atStart => exact ⟨0, 0, G0, rfl, rfl⟩
  case round =>
    obtain ⟨k, a, R, rfl, rfl⟩ := hrel
    have hk10 := R.2.1
    have hkn := R.1
    by_cases hlt : k < n
    · by_cases h10 : k < 10
      · have G := R.2.2.2.1 (by omega)
        obtain ⟨b, off, rfl, _, hcell⟩ := hl.2.2 (by omega)
        obtain ⟨x, hx⟩ : ∃ x, x = l.getD k 0 := ⟨_, rfl⟩
        obtain ⟨y, hy⟩ : ∃ y, y = x % 128 := ⟨_, rfl⟩
        have hck : w.cell? ⟨b, off + k, none⟩ = some (.int .u8 (x : Int)) := by rw [hx]; exact hcell k hlt
        have hxs : x < 256 := by rw [hx]; exact G.byte hlt
        have hys : y < 128 := by omega
        have hrem : (x : Int) % 128 = (y : Int) := by omega
        have Hx := hide hx
        have Hy := hide hy
        have HR := hide R
        clear hx hy hcell R
        by_cases h9 : k = 9
        · have hck9 : w.cell? ⟨b, off + 9, none⟩ = some (.int .u8 (x : Int)) := by rw [h9] at hck; exact hck
          have H9 := hide h9
          have hk9 : 9 ≤ k := by omega
          clear h9
          go_wp2
          · have hv := G.bad hlt (by rw [← Hx.out]; have := H9.out; have := Hy.out; omega)
            go_ret2
            exact ⟨ret2 (by rw [hv]; rfl) (by rw [hv]; rfl), rfl⟩
          · have h0 := WalkArith.int_eq (show ((x : Int) == 0) = true by assumption)
            have hv := G.bad hlt (by rw [← Hx.out]; omega)
            go_ret2
            exact ⟨ret2 (by rw [hv]; rfl) (by rw [hv]; rfl), rfl⟩
          · have h0 := WalkArith.int_ne (show ((x : Int) == 0) = false by assumption)
            have hb : ¬ ((k = 9 ∧ 1 < l.getD k 0) ∨ (0 < k ∧ l.getD k 0 = 0)) := by rw [← Hx.out]; have := Hy.out; omega
            have hv := G.last hlt hb (by rw [← Hx.out]; omega)
            go_ret2
            exact ⟨ret2 (by rw [hv]; exact G.add9 H9.out (by rw [← Hx.out, Hy.out]) (by omega)) (by rw [hv]; show (_ : Int) = ((k + 1 : Nat) : Int); have := H9.out; omega), rfl⟩
          · have hv := G.bad hlt (by rw [← Hx.out]; have := H9.out; omega)
            have hL := G.add9 H9.out (show y = l.getD k 0 % 128 by rw [← Hx.out, Hy.out]) (by omega)
            have hR : RefAt l n (k + 1) (a + l.getD k 0 % 128 * 2 ^ (7 * k)) := ⟨by omega, by omega, HR.out.2.2.1, fun h => by omega, fun _ => hv⟩
            go_round
            case rel => exact ⟨k + 1, _, hR, by rw [hL], by have := H9.out; go_num⟩
            case measure => have := H9.out; simp [Go.RowKit.intOf]; omega
        · go_wp2
          · have h0 := WalkArith.int_eq (show ((x : Int) == 0) = true by assumption)
            have hv := G.bad hlt (by rw [← Hx.out]; omega)
            go_ret2
            exact ⟨ret2 (by rw [hv]; rfl) (by rw [hv]; rfl), rfl⟩
          · have h0 := WalkArith.int_ne (show ((x : Int) == 0) = false by assumption)
            have hb : ¬ ((k = 9 ∧ 1 < l.getD k 0) ∨ (0 < k ∧ l.getD k 0 = 0)) := by rw [← Hx.out]; omega
            have hv := G.last hlt hb (by rw [← Hx.out]; omega)
            go_ret2
            exact ⟨ret2 (by rw [hv]; exact G.add (by omega) (by rw [← Hx.out, Hy.out])) (by rw [hv]; rfl), rfl⟩
          · have hb : ¬ ((k = 9 ∧ 1 < l.getD k 0) ∨ (0 < k ∧ l.getD k 0 = 0)) := by rw [← Hx.out]; omega
            have hv := G.last hlt hb (by rw [← Hx.out]; omega)
            go_ret2
            exact ⟨ret2 (by rw [hv]; exact G.add (by omega) (by rw [← Hx.out, Hy.out])) (by rw [hv]; rfl), rfl⟩
          · have hb : ¬ ((k = 9 ∧ 1 < l.getD k 0) ∨ (0 < k ∧ l.getD k 0 = 0)) := by rw [← Hx.out]; omega
            have hG := G.next hlt hb (by rw [← Hx.out]; omega)
            have hL := G.add (by omega) (show y = l.getD k 0 % 128 by rw [← Hx.out, Hy.out])
            have hR : RefAt l n (k + 1) (a + l.getD k 0 % 128 * 2 ^ (7 * k)) := ⟨by omega, by omega, HR.out.2.2.1, fun _ => hG, fun h => by omega⟩
            go_round
            case rel => exact ⟨k + 1, _, hR, by rw [hL], by go_num⟩
            case measure => simp [Go.RowKit.intOf]; omega
      · have hv := R.2.2.2.2 (by omega)
        have HR := hide R
        have Hv := hide hv
        clear R hv
        go_wp2
        go_ret2
        exact ⟨ret2 (by rw [Hv.out]; rfl) (by rw [Hv.out]; rfl), rfl⟩
    · have hv : num l 0 0 = (0, 0, 3) ∨ num l 0 0 = (0, 0, 4) := by
        by_cases h10 : k = 10
        · exact .inr (R.2.2.2.2 h10)
        · exact .inl ((R.2.2.2.1 (by omega)).short hlt)
      have Hv := hide hv
      clear hv R
      go_wp2
      go_ret2
      exact ⟨ret2 (by rcases Hv.out with h | h <;> rw [h] <;> rfl) (by rcases Hv.out with h | h <;> rw [h] <;> rfl), rfl⟩

theorem refzig_neg (n : Int) (h1 : -9223372036854775808 ≤ n) (h : n < 0) : IntKind.u64.wrap (IntKind.u64.wrap (IntKind.u64.wrap (wrap64 (-wrap64 (n + 1))) * 2) + 1) = ((zig n : Nat) : Int) := by
  have e1 : wrap64 (n + 1) = n + 1 := by unfold wrap64; omega
  have e2 : wrap64 (-(n + 1)) = -(n + 1) := by unfold wrap64; omega
  rw [e1, e2, IntKind.wrap_u64, IntKind.wrap_u64, IntKind.wrap_u64]
  unfold zig
  rw [if_pos h]
  omega
theorem refzag_odd (v : Nat) (h : v < 18446744073709551616) (hz : v % 2 = 1) : wrap64 (wrap64 (-wrap64 (IntKind.u64.wrap ((v : Int) / 2))) - 1) = zag v := by
  have e0 : IntKind.u64.wrap ((v : Int) / 2) = (v : Int) / 2 := by rw [IntKind.wrap_u64]; omega
  rw [e0, half v h]
  have e2 : wrap64 (-((v / 2 : Nat) : Int)) = -((v / 2 : Nat) : Int) := by unfold wrap64; omega
  rw [e2]
  unfold zag
  rw [if_pos hz]
  unfold wrap64
  omega
theorem refzag_even (v : Nat) (h : v < 18446744073709551616) (hz : ¬ v % 2 = 1) : wrap64 (IntKind.u64.wrap ((v : Int) / 2)) = zag v := by
  have e0 : IntKind.u64.wrap ((v : Int) / 2) = (v : Int) / 2 := by rw [IntKind.wrap_u64]; omega
  rw [e0, half v h]
  unfold zag
  rw [if_neg hz]

set_option maxHeartbeats 400000 in
theorem refzig_any (n : Int) (w : World) (h1 : -9223372036854775808 ≤ n) (h2 : n < 9223372036854775808) :
    Calls Tryz.prog 63 #[.int .i64 n] w fun e w' => e = .returned (.int .u64 (zig n)) ∧ w = w' := by
  have H1 := hide h1
  have H2 := hide h2
  by_cases hneg : n < 0
  · have H := hide hneg
    clear h1 h2
    go_enter Tryz.func63, Tryz.ntmps63
    go_wp2
    go_ret
    exact ⟨ret_int (refzig_neg n H1.out H.out), rfl⟩
  · have H := hide hneg
    clear h1 h2
    go_enter Tryz.func63, Tryz.ntmps63
    go_wp2
    go_ret
    exact ⟨ret_int (zig_pos n (by have := H.out; omega) H2.out), rfl⟩

set_option maxHeartbeats 400000 in
theorem refzag_any (v : Nat) (w : World) (h : v < 18446744073709551616) :
    Calls Tryz.prog 24 #[.int .u64 v] w fun e w' => e = .returned (.int .i64 (zag v)) ∧ w = w' := by
  have H := hide h
  clear h
  by_cases hz : v % 2 = 1
  · have ht : ((v : Int) % 2 == 1) = true := by simp; omega
    have Hz := hide hz
    clear hz
    go_enter Tryz.func24, Tryz.ntmps24
    go_wp2
    go_ret
    exact ⟨ret_int (refzag_odd v H.out Hz.out), rfl⟩
  · have ht : ((v : Int) % 2 == 1) = false := by simp; omega
    have Hz := hide hz
    clear hz
    go_enter Tryz.func24, Tryz.ntmps24
    go_wp2
    go_ret
    exact ⟨ret_int (refzag_even v H.out Hz.out), rfl⟩
end Go.Proofs.YtdkiopajilakcaaGreatDoor
/- The document's rows of fields: num, yes, text, some append one to a row of the call's own. -/
namespace Go.Proofs.YtdkiopajilakcaaGreatDoor
open Go.RowKit

theorem Tryz.infoRef9 : (Tryz.prog.info? 61).map (fun i => (i.zero, i.size, i.bytes)) = some (some (.agg #[.int .i64 0, .bool false, .int .u64 0, .slice none 0 0]), 4, 48) := by kernel_rfl

def DRow (w : World) (base : Nat) (v : Value) (fds : List Fd) : Prop := w.ownsRow base 61 4 v fds.length (fcells fds) ∧ ∀ f ∈ fds, FdAt w f
theorem DRow.nil (w : World) (base : Nat) : DRow w base (.slice none 0 0) [] := ⟨by simpa [fcells] using World.ownsRow_nil _ _ _ _, by simp⟩
theorem DRow.later {w w' : World} {base : Nat} {v : Value} {fds : List Fd} (h : DRow w base v fds) (hl : Later w w') : DRow w' base v fds := ⟨own_below_any h.1 hl, fun f hf => (h.2 f hf).below hl⟩
def Adds (w : World) (base : Nat) (v : Value) (fds : List Fd) (ps : List PF) (e : Ending) (w' : World) : Prop :=
  ∃ v' gds, e = .returned v' ∧ DRow w' base v' (fds ++ gds) ∧ gds.map Fd.pf = ps ∧ w.grownBy w' v.ownBlock
theorem adds_none {w : World} {base : Nat} {v : Value} {fds : List Fd} {ps : List PF} (h : DRow w base v fds) (hp : ps = []) : Adds w base v fds ps (.returned v) w :=
  ⟨v, [], rfl, by simpa using h, by rw [hp]; rfl, World.grownBy.refl _ _⟩
theorem grown_alloc {w w' : World} {o : Obj} {k : Option Nat} (h : (w.alloc o).grownBy w' k) : w.grownBy w' k :=
  ⟨h.1, h.2, h.3, by have := h.size; simp at this; omega, fun i hi hne => (h.block i (by simp; omega) hne).trans (Below.block (Later.alloc w o) i hi)⟩
theorem adds_one {w w' : World} {base : Nat} {v v' : Value} {fds : List Fd} {ps : List PF} {f : Fd} {o : Obj} (h : DRow w base v fds) (hf : FdAt w f) (hp : ps = [f.pf])
    (ho : w'.ownsRow base 61 4 v' (fds.length + 1) (fcells fds ++ f.cells.toList)) (hg : (w.alloc o).grownBy w' v.ownBlock) : Adds w base v fds ps (.returned v') w' := by
  have hl : Later w (w.alloc o) := Later.alloc _ _
  have h1 := h.later hl
  refine ⟨v', [f], rfl, ⟨?_, fun x hx => ?_⟩, by rw [hp]; rfl, grown_alloc hg⟩
  · rw [fcells_append, List.length_append]
    simpa [fcells] using ho
  · rcases List.mem_append.1 hx with hx | hx
    · exact (h1.2 x hx).kept h1.1 hg (by decide)
    · obtain rfl : x = f := by simpa using hx
      exact (hf.below hl).kept h1.1 hg (by decide)

set_option maxHeartbeats 1000000 in
set_option maxRecDepth 100000 in
theorem rnum_any {base : Nat} {v : Value} {fds : List Fd} {n x : Int} {w : World} (hr : DRow w base v fds) (hb : base ≤ w.heap.size) (hc : fds.length ≤ 100000000) (hn : I64 n) (hx : I64 x) :
    Calls Tryz.prog 60 #[v, .int .i64 n, .int .i64 x] w (Adds w base v fds (pnum n x)) := by
  obtain ⟨i0, hi, hz0, hz1, hz2⟩ := info_parts Tryz.infoRef9
  have HR := hide hr
  have HN := hide hn
  have HX := hide hx
  clear hr hn hx
  by_cases h0 : x = 0
  · subst h0
    go_enter Tryz.func60, Tryz.ntmps60
    go_wp2
    go_ret
    exact adds_none HR.out rfl
  · have H0 := hide h0
    have O1 := hide (HR.out.1.alloc (.cells #[.int .i64 n, .bool false, .int .u64 (zig x : Nat), .slice none 0 0] 61))
    have ht : (x == 0) = false := by simpa using h0
    clear h0
    go_enter Tryz.func60, Tryz.ntmps60
    go_wp2_with (fail)
    refine (refzig_any x _ HX.out.1 HX.out.2).mono ?_
    rintro e w1 ⟨rfl, rfl⟩
    go_wp2_with (at_builtin; refine wpList_append_own_at _ rfl (.tmp 10) (.tmp 15) 58 rfl base 61 i0 _ 4 48 Tryz.underlying58 hi hz0 hz1 hz2 rfl (by omega) _ fds.length (fcells fds) rfl O1.out ⟨w.heap.size, 0, none⟩ 1 1 [.int .i64 n, .bool false, .int .u64 (zig x : Nat), .slice none 0 0] rfl rfl (cells_new w [.int .i64 n, .bool false, .int .u64 (zig x : Nat), .slice none 0 0] 61) (by intro u hu; simp at hu; rcases hu with rfl | rfl | rfl | rfl <;> rfl) (by simp only [maxLen]; omega) (by omega) (by simp; omega) ?_; intro x2 w2 o2 g2 _ _)
    go_ret
    exact adds_one (f := ⟨n, false, zig x, none, 0, 0, []⟩) HR.out (FdAt.plain HN.out (zig_lt x HX.out.1 HX.out.2)) (by unfold pnum; rw [if_neg H0.out]; rfl) o2 g2

set_option maxHeartbeats 1000000 in
set_option maxRecDepth 100000 in
theorem ryes_any {base : Nat} {v : Value} {fds : List Fd} {n : Int} {x : Bool} {w : World} (hr : DRow w base v fds) (hb : base ≤ w.heap.size) (hc : fds.length ≤ 100000000) (hn : I64 n) :
    Calls Tryz.prog 61 #[v, .int .i64 n, .bool x] w (Adds w base v fds (pflag n x)) := by
  obtain ⟨i0, hi, hz0, hz1, hz2⟩ := info_parts Tryz.infoRef9
  have HR := hide hr
  have HN := hide hn
  clear hr hn
  cases x with
  | false =>
    go_enter Tryz.func61, Tryz.ntmps61
    go_wp2
    go_ret
    exact adds_none HR.out rfl
  | true =>
    have O1 := hide (HR.out.1.alloc (.cells #[.int .i64 n, .bool false, .int .u64 1, .slice none 0 0] 61))
    go_enter Tryz.func61, Tryz.ntmps61
    go_wp2_with (at_builtin; refine wpList_append_own_at _ rfl (.tmp 10) (.tmp 13) 58 rfl base 61 i0 _ 4 48 Tryz.underlying58 hi hz0 hz1 hz2 rfl (by omega) _ fds.length (fcells fds) rfl O1.out ⟨w.heap.size, 0, none⟩ 1 1 [.int .i64 n, .bool false, .int .u64 1, .slice none 0 0] rfl rfl (cells_new w [.int .i64 n, .bool false, .int .u64 1, .slice none 0 0] 61) (by intro u hu; simp at hu; rcases hu with rfl | rfl | rfl | rfl <;> rfl) (by simp only [maxLen]; omega) (by omega) (by simp; omega) ?_; intro x2 w2 o2 g2 _ _)
    go_ret
    exact adds_one (f := ⟨n, false, 1, none, 0, 0, []⟩) HR.out (FdAt.plain HN.out (by omega)) rfl o2 g2

set_option maxHeartbeats 1000000 in
set_option maxRecDepth 100000 in
theorem rtext_any {base : Nat} {v : Value} {fds : List Fd} {n : Int} {A : Option Addr} {m c : Nat} {l : List Nat} {w : World} (hr : DRow w base v fds) (hb : base ≤ w.heap.size) (hc : fds.length ≤ 100000000) (hf : FdAt w ⟨n, true, 0, A, m, c, l⟩) :
    Calls Tryz.prog 62 #[v, .int .i64 n, .slice A m c] w (Adds w base v fds [prow n l]) := by
  obtain ⟨i0, hi, hz0, hz1, hz2⟩ := info_parts Tryz.infoRef9
  have HR := hide hr
  have HF := hide hf
  have O1 := hide (HR.out.1.alloc (.cells #[.int .i64 n, .bool true, .int .u64 0, .slice A m c] 61))
  clear hr hf
  go_enter Tryz.func62, Tryz.ntmps62
  go_wp2_with (at_builtin; refine wpList_append_own_at _ rfl (.tmp 7) (.tmp 11) 58 rfl base 61 i0 _ 4 48 Tryz.underlying58 hi hz0 hz1 hz2 rfl (by omega) _ fds.length (fcells fds) rfl O1.out ⟨w.heap.size, 0, none⟩ 1 1 [.int .i64 n, .bool true, .int .u64 0, .slice A m c] rfl rfl (cells_new w [.int .i64 n, .bool true, .int .u64 0, .slice A m c] 61) (by intro u hu; simp at hu; rcases hu with rfl | rfl | rfl | rfl <;> rfl) (by simp only [maxLen]; omega) (by omega) (by simp; omega) ?_; intro x2 w2 o2 g2 _ _)
  go_ret
  exact adds_one (f := ⟨n, true, 0, A, m, c, l⟩) HR.out HF.out rfl o2 g2

set_option maxHeartbeats 1000000 in
set_option maxRecDepth 100000 in
theorem rsome_any {base : Nat} {v : Value} {fds : List Fd} {n : Int} {A : Option Addr} {m c : Nat} {l : List Nat} {w : World} (hr : DRow w base v fds) (hb : base ≤ w.heap.size) (hc : fds.length ≤ 100000000) (hf : FdAt w ⟨n, true, 0, A, m, c, l⟩) :
    Calls Tryz.prog 59 #[v, .int .i64 n, .slice A m c] w (Adds w base v fds (ptext n l)) := by
  have hlen : l.length = m := hf.1.2.2.2.1
  have HR := hide hr
  have HF := hide hf
  have HL := hide hlen
  clear hr hf hlen
  by_cases h0 : m = 0
  · subst h0
    go_enter Tryz.func59, Tryz.ntmps59
    go_wp2
    go_ret
    exact adds_none HR.out (by unfold ptext; rw [if_pos (List.eq_nil_of_length_eq_zero HL.out)])
  · have H0 := hide h0
    have ht : ((m : Int) == 0) = false := by simp; omega
    have C := hide (rtext_any HR.out hb hc HF.out)
    clear h0
    go_enter Tryz.func59, Tryz.ntmps59
    go_wp2_with (fail)
    refine C.out.mono ?_
    rintro e w1 ⟨v1, gds, rfl, h1, h2, h3⟩
    go_wp2
    go_ret
    refine ⟨v1, gds, rfl, h1, ?_, h3⟩
    rw [h2]
    unfold ptext prow
    rw [if_neg (fun e => H0.out (by rw [← HL.out, e]; rfl))]
end Go.Proofs.YtdkiopajilakcaaGreatDoor
/- The walks over droverref01.Find, Good and Write: the document's own. -/
namespace Go.Proofs.YtdkiopajilakcaaGreatDoor
open Go.RowKit

set_option maxHeartbeats 1000000 in
set_option maxRecDepth 100000 in
theorem reffind_any (A : Option Addr) (n c : Nat) (fs : List Fd) (m : Int) (w : World) (hf : FHolds w w.heap.size A n fs) (hn : n ≤ 1099511627000) :
    Calls Tryz.prog 21 #[.slice A n c, .int .i64 m] w (FindIs w (pfind (fs.map Fd.pf) m)) := by
  have HF := hide hf
  have H0 := hide (findAt_start hf.1 m)
  clear hf
  go_enter Tryz.func21, Tryz.ntmps21
  go_wp2
  go_loop [6] (fun i => ∃ k : Nat, k ≤ n ∧ i = .int .i64 ((k : Int) - 1) ∧ FindAt fs m k) (fun i => ((Go.RowKit.intOf i) + 1).toNat)
  case atStart => exact ⟨n, by omega, by rfl, H0.out⟩
  case round =>
    obtain ⟨k, hk, rfl, hat⟩ := hrel
    have Hat := hide hat
    clear hat H0
    by_cases hlt : 0 < k
    · obtain ⟨j, rfl⟩ : ∃ j, k = j + 1 := ⟨k - 1, by omega⟩
      have ej : ((j + 1 : Nat) : Int) - 1 = (j : Int) := by omega
      rw [ej]
      obtain ⟨f, b, off, hfk, hok, rfl, hbB, q0, q1, q2, q3, htk⟩ := HF.out.at_ (k := j) (by omega)
      obtain ⟨num, text, v, a, fn, fc, fb⟩ := f
      simp only at q0 q1 q2 q3
      have Htk := hide htk
      have Hok := hide hok
      have hbne : b ≠ w.heap.size := by omega
      clear htk hfk hok ej
      by_cases hm : num = m
      · have hm2 : (num == m) = true := by simpa using hm
        have Hm := hide (Hat.out.hit Htk.out hm)
        clear hm
        go_wp2
        refine bodyPost_ret (v := .tuple #[.agg #[.int .i64 num, .bool text, .int .u64 v, .slice a fn fc], .bool true]) (by simp [results, Tryz.results21, go_sem]) rfl ⟨⟨num, text, v, a, fn, fc, fb⟩, by rw [Hm.out], by rw [Hm.out], Hok.out.later ?_, ?_⟩
        all_goals (show Below _ _ _; go_grown)
      · have hm2 : (num == m) = false := by simpa using hm
        have Hm := hide (Hat.out.miss Htk.out hm)
        clear hm
        go_wp2
        go_round
        case rel => exact ⟨j, by omega, by first | rfl | go_num, Hm.out⟩
        case measure => simp [Go.RowKit.intOf]
    · obtain rfl : k = 0 := by omega
      have Hn := hide Hat.out.none
      go_wp2
      refine bodyPost_ret (v := .tuple #[.agg #[.int .i64 0, .bool false, .int .u64 0, .slice none 0 0], .bool false]) (by simp [results, Tryz.results21, go_sem]) rfl ⟨fz, by rw [Hn.out]; rfl, by rw [Hn.out]; rfl, fz_ok _ _, ?_⟩
      show Below _ _ _
      go_grown

set_option maxHeartbeats 400000 in
theorem refgood_any (f : Fd) (w : World) :
    Calls Tryz.prog 64 #[.agg #[.int .i64 f.num, .bool f.text, .int .u64 f.v, .slice f.a f.n f.c]] w fun e w' => e = .returned (.bool f.good) ∧ Below w.heap.size w w' := by
  obtain ⟨num, text, v, a, n, c, b⟩ := f
  go_enter Tryz.func64, Tryz.ntmps64
  go_wp2
  · go_ret
    exact ⟨ret_bool (Fd.good_not (by simp only; omega)), (Below.refl _ _).alloc (Nat.le_refl _) _⟩
  · go_ret
    exact ⟨ret_bool (Fd.good_text (f := ⟨num, text, v, a, n, c, b⟩) (by simp only; omega) (by simp only; omega) (by assumption)), (Below.refl _ _).alloc (Nat.le_refl _) _⟩
  · go_ret
    exact ⟨ret_bool (Fd.good_num (f := ⟨num, text, v, a, n, c, b⟩) (by simp only; omega) (by simp only; omega) (by assumption)), (Below.refl _ _).alloc (Nat.le_refl _) _⟩
  · go_ret
    exact ⟨ret_bool (Fd.good_not (by simp only; omega)), (Below.refl _ _).alloc (Nat.le_refl _) _⟩
theorem refgood_is (f : Fd) (b : Bool) (h : f.good = b) (w : World) :
    Calls Tryz.prog 64 #[.agg #[.int .i64 f.num, .bool f.text, .int .u64 f.v, .slice f.a f.n f.c]] w fun e w' => e = .returned (.bool b) ∧ Later w w' :=
  (refgood_any f w).mono fun _ _ ⟨he, hb⟩ => ⟨by rw [he, h], hb⟩

theorem refuint_is (A : Option Addr) (n c : Nat) (V : Int) (l L : List Nat) (w : World) (h0 : 0 ≤ V) (hV : V < 18446744073709551616) (hn : n ≤ 1099511627000) (hl : Holds w w.heap.size A n l) (h : l ++ enc V.toNat = L) :
    Calls Tryz.prog 65 #[.slice A n c, .int .u64 V] w (NewBytes w L) := by
  obtain ⟨k, rfl⟩ := Int.eq_ofNat_of_zero_le h0
  subst h
  exact refuint_any A n c k l w.heap.size w (by omega) hn hl (Nat.le_refl _)

theorem bytes_room {fs : List Fd} {k : Nat} {R : Nat} (h : ∀ f ∈ fs, f.b.length = f.n) (hR : room fs ≤ R) : (recOf (fs.take k)).length ≤ R := by
  have h1 := recOf_len (fs.take k) fun g hg => h g (List.mem_of_mem_take hg)
  have h2 := room_take fs k
  omega

set_option maxHeartbeats 2000000 in
set_option maxRecDepth 100000 in
theorem refwrite_any (A : Option Addr) (n c : Nat) (fs : List Fd) (w : World) (hf : FHolds w w.heap.size A n fs) (hroom : room fs ≤ 10000000) (hn : n ≤ 10000000) :
    Calls Tryz.prog 33 #[.slice A n c] w (NewBytes w (recOf fs)) := by
  obtain ⟨i0, hi, hz0, hz1, hz2⟩ := info_parts Tryz.infoU8
  have HF := hide hf
  clear hf
  go_enter Tryz.func33, Tryz.ntmps33
  go_wp2
  go_loopw [3, 8] (fun s i wr => ∃ k : Nat, k ≤ n ∧ i = .int .i64 k ∧ (∃ m1, wr.ownsRow w.heap.size 5 1 s m1 (bvs (recOf (fs.take k)))) ∧ Below w.heap.size w wr) (fun _ i _ => n - (Go.RowKit.intOf i).toNat)
  case atStart => exact ⟨0, by omega, rfl, ⟨0, by simpa [recOf, bvs] using World.ownsRow_nil _ _ _ _⟩, Below.refl _ _⟩
  case round =>
    obtain ⟨k, hk, rfl, ⟨m1, hown⟩, hbel⟩ := hrel
    have hsz := hbel.size
    have hsm := HF.out.small
    have Hs : Hid (∀ x ∈ recOf (fs.take k), x < 256) := by
      intro x hx
      refine hsm x ?_
      have e : fs = fs.take k ++ fs.drop k := (List.take_append_drop k fs).symm
      rw [e, recOf, List.map_append, List.flatten_append]
      exact List.mem_append_left _ hx
    have hm1 : m1 ≤ 10000000 := by
      have h1 := bytes_room (k := k) HF.out.lens hroom
      have h2 := hown.1
      rw [bvs_len] at h2
      omega
    obtain ⟨A1, c1, rfl, _, _, hh⟩ := Holds.of_own hown Hs.out
    have Hh := hide hh
    have Hown := hide hown
    clear hown hsm hh
    by_cases hlt : k < n
    · obtain ⟨f, b, off, hfk, hok, rfl, hbB, q0, q1, q2, q3, htk⟩ := (HF.out.below hbel).at_ hlt
      obtain ⟨num, text, v, a, fn, fc, fb⟩ := f
      simp only at q0 q1 q2 q3
      have hfn : fn ≤ 10000000 ∧ m1 + 20 + fn ≤ 20000000 := by
        have h2 := room_take fs (k + 1)
        rw [htk, room_snoc] at h2
        simp only at h2
        omega
      have hf1 := hfn.1
      have Hrs : Hid (recOf (fs.take (k + 1)) = recOf (fs.take k) ++ Fd.bytes ⟨num, text, v, a, fn, fc, fb⟩) := by
        show _ = _
        rw [htk, recOf_snoc]
      have Hok := hide hok
      clear htk hfk hok hfn
      by_cases hgood : Fd.good ⟨num, text, v, a, fn, fc, fb⟩ = true
      · obtain ⟨hn1, hn2⟩ := Fd.good_range hgood
        simp only at hn1 hn2
        have Hg := hide hgood
        have HB := hide (show Holds wr w.heap.size a fn fb from Hok.out.2.2.2)
        have Hv : Hid (v < 18446744073709551616) := Hok.out.2.1
        have b1 := enc_len (num * 2 + 1).toNat
        have b2 := enc_len ((fn : Int)).toNat
        have b3 := enc_len (num * 2).toNat
        have B0 := hide (Box.new wr 61 (.int .i64 num) (.bool text) (.int .u64 v) (.slice a fn fc))
        clear hgood
        cases text with
        | true =>
          go_wp2_with (fail)
          refine (refgood_is ⟨num, true, v, a, fn, fc, fb⟩ true Hg.out _).mono ?_
          rintro e w1 ⟨rfl, hb1⟩
          have L1 := hide ((Later.alloc wr _).trans hb1)
          have B1 := hide (B0.out.below hb1 (by simp))
          obtain ⟨d0, d1, d2, d3⟩ := B1.out.cell
          have s1 := hb1.size
          simp at s1
          clear hb1
          go_wp2_with (fail)
          refine (refuint_is A1 m1 c1 (num * 2 + 1) _ _ _ (by omega) (by omega) (by omega) (Hh.out.later L1.out) rfl).mono ?_
          rintro e w2 ⟨A2, m2, c2, rfl, o2, h2, _, k2⟩
          have L2 := hide (L1.out.trans k2)
          have B2 := hide (B1.out.below k2 (by omega))
          obtain ⟨e0, e1, e2, e3⟩ := B2.out.cell
          have H2 := hide h2
          have hm2 := h2.1
          have hlr := Hh.out.1
          simp only [List.length_append] at hm2
          have s2 := k2.size
          clear d0 d1 d2 d3 o2 h2 k2
          go_wp2_with (fail)
          refine (refuint_is A2 m2 c2 (fn : Int) _ _ _ (by omega) (by omega) (by omega) H2.out rfl).mono ?_
          rintro e w3 ⟨A3, m3, c3, rfl, o3, h3, _, k3⟩
          have L3 := hide (L2.out.trans k3)
          have B3 := hide (B2.out.below k3 (by omega))
          obtain ⟨f0, f1, f2, f3⟩ := B3.out.cell
          have O3 := hide o3
          have hm3 := h3.1
          simp only [List.length_append] at hm3
          have s3 := k3.size
          clear e0 e1 e2 e3 o3 h3 k3
          go_wp2_with (at_builtin; refine wpList_append_bytes _ rfl (.tmp 42) (.tmp 44) 28 rfl w2.heap.size 5 i0 (.int .u8 0) Tryz.underlying28 hi hz0 hz1 hz2 rfl _ m3 _ rfl O3.out w.heap.size a fn fc fb rfl (HB.out.below (L3.out.below hsz)) (by omega) (by omega) ?_; intro v4 w4 o4 g4)
          have O4 := hide o4
          have G4 := hide g4
          clear o4 g4
          go_roundw
          case rel =>
            refine ⟨k + 1, by omega, by go_num, ⟨m3 + fn, ?_⟩, (hbel.trans (L3.out.below hsz)).trans ((G4.out.below O3.out (by omega)).mono (by omega))⟩
            rw [Hrs.out, bytes_text Hg.out rfl, show 2 * num.toNat + 1 = (num * 2 + 1).toNat from by omega]
            have := own_base O4.out (base' := w.heap.size) (by omega)
            rw [← bvs_append] at this
            simpa [List.append_assoc] using this
          case measure => simp [Go.RowKit.intOf]; omega
        | false =>
          go_wp2_with (fail)
          refine (refgood_is ⟨num, false, v, a, fn, fc, fb⟩ true Hg.out _).mono ?_
          rintro e w1 ⟨rfl, hb1⟩
          have L1 := hide ((Later.alloc wr _).trans hb1)
          have B1 := hide (B0.out.below hb1 (by simp))
          obtain ⟨d0, d1, d2, d3⟩ := B1.out.cell
          have s1 := hb1.size
          simp at s1
          clear hb1
          go_wp2_with (fail)
          refine (refuint_is A1 m1 c1 (num * 2) _ _ _ (by omega) (by omega) (by omega) (Hh.out.later L1.out) rfl).mono ?_
          rintro e w2 ⟨A2, m2, c2, rfl, o2, h2, _, k2⟩
          have L2 := hide (L1.out.trans k2)
          have B2 := hide (B1.out.below k2 (by omega))
          obtain ⟨e0, e1, e2, e3⟩ := B2.out.cell
          have H2 := hide h2
          have hm2 := h2.1
          have hlr := Hh.out.1
          simp only [List.length_append] at hm2
          have s2 := k2.size
          clear d0 d1 d2 d3 o2 h2 k2
          go_wp2_with (fail)
          refine (refuint_is A2 m2 c2 (v : Int) _ _ _ (by omega) (by have := Hv.out; omega) (by omega) H2.out rfl).mono ?_
          rintro e w3 ⟨A3, m3, c3, rfl, o3, h3, _, k3⟩
          have L3 := hide (L2.out.trans k3)
          have O3 := hide o3
          clear e0 e1 e2 e3 o3 h3 k3
          go_wp2
          go_roundw
          case rel =>
            refine ⟨k + 1, by omega, by go_num, ⟨m3, ?_⟩, hbel.trans (L3.out.below hsz)⟩
            rw [Hrs.out, bytes_num Hg.out rfl, show 2 * num.toNat = (num * 2).toNat from by omega]
            simpa using own_base O3.out (base' := w.heap.size) (by omega)
          case measure => simp [Go.RowKit.intOf]; omega
      · have Hg := hide (show Fd.good ⟨num, text, v, a, fn, fc, fb⟩ = false by simpa using hgood)
        clear hgood
        go_wp2_with (fail)
        refine (refgood_is ⟨num, text, v, a, fn, fc, fb⟩ false Hg.out _).mono ?_
        rintro e w1 ⟨rfl, hb1⟩
        have o1 := hide (own_below (Hown.out.alloc (.cells #[.int .i64 num, .bool text, .int .u64 v, .slice a fn fc] 61)) hb1)
        have L1 := hide ((Later.alloc wr _).trans hb1)
        clear hb1
        go_wp2
        go_roundw
        case rel =>
          refine ⟨k + 1, by omega, by go_num, ⟨m1, ?_⟩, hbel.trans (L1.out.below hsz)⟩
          rw [Hrs.out, bytes_not Hg.out]
          simpa using o1.out
        case measure => simp [Go.RowKit.intOf]; omega
    · have Hk : Hid (fs.take k = fs) := by
        show _ = _
        exact List.take_of_length_le (by have := HF.out.1; omega)
      go_wp2
      go_ret
      have := Hown.out
      rw [Hk.out] at this
      exact newBytes_of this HF.out.small hbel
end Go.Proofs.YtdkiopajilakcaaGreatDoor
/- Rows of fields by what they say: num, yes, text, some, Write. -/
namespace Go.Proofs.YtdkiopajilakcaaGreatDoor
open Go.RowKit

def DR (w : World) (base : Nat) (v : Value) (ps : List PF) : Prop := ∃ fds, DRow w base v fds ∧ fds.map Fd.pf = ps
theorem DR.nil (w : World) (base : Nat) : DR w base (.slice none 0 0) [] := ⟨[], DRow.nil w base, rfl⟩
theorem DR.later {w w' : World} {base : Nat} {v : Value} {ps : List PF} (h : DR w base v ps) (hl : Later w w') : DR w' base v ps := by
  obtain ⟨fds, h1, h2⟩ := h
  exact ⟨fds, h1.later hl, h2⟩
theorem DR.slice {w : World} {base : Nat} {v : Value} {ps : List PF} (h : DR w base v ps) : ∃ A n c, v = .slice A n c := by
  obtain ⟨fds, h1, _⟩ := h
  obtain ⟨A, c, hv, _⟩ := FHolds.of_own h1.1 fun f hf => (h1.2 f hf).ok
  exact ⟨A, _, c, hv⟩
def AddsD (w : World) (base : Nat) (ps : List PF) (e : Ending) (w' : World) : Prop :=
  ∃ v', e = .returned v' ∧ DR w' base v' ps ∧ Below base w w' ∧ ∀ f, FdAt w f → FdAt w' f
theorem Adds.dr {w w' : World} {base : Nat} {v : Value} {fds : List Fd} {ps qs : List PF} {e : Ending} (h : Adds w base v fds ps e w') (hr : DRow w base v fds) (hq : fds.map Fd.pf = qs) (hb : base ≤ w.heap.size) : AddsD w base (qs ++ ps) e w' := by
  obtain ⟨v', gds, rfl, h1, h2, h3⟩ := h
  exact ⟨v', rfl, ⟨_, h1, by rw [List.map_append, hq, h2]⟩, (Below.refl _ _).grown h3 hb fun k hk => (hr.1.lt k hk).1, fun f hf => hf.kept hr.1 h3 (by decide)⟩

theorem dnum_any {base : Nat} {v : Value} {ps : List PF} {n x : Int} {w : World} (hr : DR w base v ps) (hb : base ≤ w.heap.size) (hc : ps.length ≤ 100000000) (hn : I64 n) (hx : I64 x) :
    Calls Tryz.prog 60 #[v, .int .i64 n, .int .i64 x] w (AddsD w base (ps ++ pnum n x)) := by
  obtain ⟨fds, h1, h2⟩ := hr
  have hl : fds.length ≤ 100000000 := by rw [← h2, List.length_map] at hc; exact hc
  exact (rnum_any h1 hb hl hn hx).mono fun e w' h => h.dr h1 h2 hb
theorem dyes_any {base : Nat} {v : Value} {ps : List PF} {n : Int} {x : Bool} {w : World} (hr : DR w base v ps) (hb : base ≤ w.heap.size) (hc : ps.length ≤ 100000000) (hn : I64 n) :
    Calls Tryz.prog 61 #[v, .int .i64 n, .bool x] w (AddsD w base (ps ++ pflag n x)) := by
  obtain ⟨fds, h1, h2⟩ := hr
  have hl : fds.length ≤ 100000000 := by rw [← h2, List.length_map] at hc; exact hc
  exact (ryes_any h1 hb hl hn).mono fun e w' h => h.dr h1 h2 hb
theorem dtext_any {base : Nat} {v : Value} {ps : List PF} {n : Int} {A : Option Addr} {m c : Nat} {l : List Nat} {w : World} (hr : DR w base v ps) (hb : base ≤ w.heap.size) (hc : ps.length ≤ 100000000) (hf : FdAt w ⟨n, true, 0, A, m, c, l⟩) :
    Calls Tryz.prog 62 #[v, .int .i64 n, .slice A m c] w (AddsD w base (ps ++ [prow n l])) := by
  obtain ⟨fds, h1, h2⟩ := hr
  have hl : fds.length ≤ 100000000 := by rw [← h2, List.length_map] at hc; exact hc
  exact (rtext_any h1 hb hl hf).mono fun e w' h => h.dr h1 h2 hb
theorem dsome_any {base : Nat} {v : Value} {ps : List PF} {n : Int} {A : Option Addr} {m c : Nat} {l : List Nat} {w : World} (hr : DR w base v ps) (hb : base ≤ w.heap.size) (hc : ps.length ≤ 100000000) (hf : FdAt w ⟨n, true, 0, A, m, c, l⟩) :
    Calls Tryz.prog 59 #[v, .int .i64 n, .slice A m c] w (AddsD w base (ps ++ ptext n l)) := by
  obtain ⟨fds, h1, h2⟩ := hr
  have hl : fds.length ≤ 100000000 := by rw [← h2, List.length_map] at hc; exact hc
  exact (rsome_any h1 hb hl hf).mono fun e w' h => h.dr h1 h2 hb
theorem dwrite_any {base : Nat} {v : Value} {ps : List PF} {w : World} (hr : DR w base v ps) (hroom : proom ps ≤ 10000000) :
    Calls Tryz.prog 33 #[v] w (NewBytes w (prec ps)) := by
  obtain ⟨fds, h1, h2⟩ := hr
  obtain ⟨A, c, rfl, _, h4⟩ := FHolds.of_own h1.1 fun f hf => (h1.2 f hf).ok
  have hrm : room fds ≤ 10000000 := by rw [room_pf fds h4.lens, h2]; exact hroom
  have hct : fds.length ≤ 10000000 := by
    have h3 := proom_count (fds.map Fd.pf)
    have h5 : fds.length = (fds.map Fd.pf).length := by simp
    rw [h2] at h3 h5
    omega
  have C := refwrite_any A fds.length c fds w h4 hrm hct
  rwa [recOf_pf fds h4.lens, h2] at C
theorem own_fd {w : World} {base n c : Nat} {A : Option Addr} {l : List Nat} {num : Int} (hn : I64 num) (h1 : w.ownsRow base 5 1 (.slice A n c) n (bvs l)) (hs : ∀ x ∈ l, x < 256) : FdAt w ⟨num, true, 0, A, n, c, l⟩ :=
  FdOwn.at_ (base := base) ⟨hn, by simp, hs, h1⟩
end Go.Proofs.YtdkiopajilakcaaGreatDoor
/- The walks over droverref09.val, is and bytes: a field's number, bool, bytes. -/
namespace Go.Proofs.YtdkiopajilakcaaGreatDoor
open Go.RowKit

theorem rzag_is {w w1 : World} (v : Nat) (h : v < 18446744073709551616) (hl : Later w w1) :
    Calls Tryz.prog 24 #[.int .u64 v] w1 fun e w' => e = .returned (.int .i64 (zag v)) ∧ Later w w' :=
  (refzag_any v w1 h).mono fun _ _ ⟨h1, h2⟩ => ⟨h1, h2 ▸ hl⟩

set_option maxHeartbeats 800000 in
set_option maxRecDepth 100000 in
theorem rval_any {A : Option Addr} {n c : Nat} {fs : List Fd} {m : Int} {w : World} (hf : FHolds w w.heap.size A n fs) (hn : n ≤ 1099511627000) :
    Calls Tryz.prog 95 #[.slice A n c, .int .i64 m] w fun e w' => e = .returned (.int .i64 (zag (pfind (fs.map Fd.pf) m).1.2.2.1)) ∧ Later w w' := by
  have C := hide (reffind_any A n c fs m w hf hn)
  clear hf
  go_enter Tryz.func95, Tryz.ntmps95
  go_wp2_with (fail)
  refine C.out.mono ?_
  rintro e w1 ⟨⟨fnum, ftext, fv, fa, fn, fc, fb⟩, rfl, hp, hok, hl⟩
  have HP := hide hp
  have HO := hide hok
  have HL : Hid (Later w (w1.alloc (.cells #[.int .i64 fnum, .bool ftext, .int .u64 fv, .slice fa fn fc] 61 (0, 0)))) := Below.trans hl (Below.mono (Later.alloc w1 _) (Below.size hl))
  clear hp hok hl C
  simp only
  go_wp2_with (fail)
  refine (rzag_is fv HO.out.2.1 HL.out).mono ?_
  rintro e w2 ⟨rfl, hl2⟩
  have HL2 := hide hl2
  clear hl2
  go_wp2
  go_ret
  exact ⟨by rw [← HP.out]; rfl, HL2.out⟩

set_option maxHeartbeats 800000 in
set_option maxRecDepth 100000 in
theorem nt_ris_any {A : Option Addr} {n c : Nat} {fs : List Fd} {m : Int} {w : World} (hf : FHolds w w.heap.size A n fs) (hn : n ≤ 1099511627000) :
    Calls Tryz.prog 96 #[.slice A n c, .int .i64 m] w fun e w' => e = .returned (.bool (decide ((pfind (fs.map Fd.pf) m).1.2.2.1 = 1))) ∧ Later w w' := by
  have C := hide (reffind_any A n c fs m w hf hn)
  clear hf
  go_enter Tryz.func96, Tryz.ntmps96
  go_wp2_with (fail)
  refine C.out.mono ?_
  rintro e w1 ⟨⟨fnum, ftext, fv, fa, fn, fc, fb⟩, rfl, hp, hok, hl⟩
  obtain ⟨b, hb⟩ : ∃ b, decide (fv = 1) = b := ⟨_, rfl⟩
  have ht : ((fv : Int) == 1) = b := by rw [← hb, Bool.eq_iff_iff]; simp; omega
  have HP : Hid (decide ((pfind (fs.map Fd.pf) m).1.2.2.1 = 1) = b) := by show _ = _; rw [← hp, ← hb]; rfl
  have HL : Hid (Later w (w1.alloc (.cells #[.int .i64 fnum, .bool ftext, .int .u64 fv, .slice fa fn fc] 61 (0, 0)))) := Below.trans hl (Below.mono (Later.alloc w1 _) (Below.size hl))
  clear hp hok hl hb C
  simp only
  go_wp2
  go_ret
  exact ⟨by rw [HP.out]; rfl, HL.out⟩

set_option maxHeartbeats 800000 in
set_option maxRecDepth 100000 in
theorem rbytes_any {A : Option Addr} {n c : Nat} {fs : List Fd} {m : Int} {w : World} (hf : FHolds w w.heap.size A n fs) (hn : n ≤ 1099511627000) :
    Calls Tryz.prog 94 #[.slice A n c, .int .i64 m] w fun e w' => ∃ A' n' c', e = .returned (.slice A' n' c') ∧ Holds w' w'.heap.size A' n' (pfind (fs.map Fd.pf) m).1.2.2.2 ∧ n' ≤ c' ∧ Later w w' := by
  have C := hide (reffind_any A n c fs m w hf hn)
  clear hf
  go_enter Tryz.func94, Tryz.ntmps94
  go_wp2_with (fail)
  refine C.out.mono ?_
  rintro e w1 ⟨⟨fnum, ftext, fv, fa, fn, fc, fb⟩, rfl, hp, hok, hl⟩
  have HP := hide hp
  have HH := hide (hok.2.2.2.later (Later.alloc w1 (.cells #[.int .i64 fnum, .bool ftext, .int .u64 fv, .slice fa fn fc] 61 (0, 0))))
  have HN := hide hok.2.2.1
  have HL : Hid (Later w (w1.alloc (.cells #[.int .i64 fnum, .bool ftext, .int .u64 fv, .slice fa fn fc] 61 (0, 0)))) := Below.trans hl (Below.mono (Later.alloc w1 _) (Below.size hl))
  clear hp hok hl C
  simp only
  go_wp2
  go_ret
  exact ⟨fa, fn, fc, rfl, by rw [← HP.out]; exact HH.out, HN.out, HL.out⟩
end Go.Proofs.YtdkiopajilakcaaGreatDoor
/- num, text, val of the document's images. -/
namespace Go.Proofs.YtdkiopajilakcaaGreatDoor
open Go.RowKit
set_option maxHeartbeats 1000000 in
set_option maxRecDepth 100000 in
theorem rnum17_any {base : Nat} {v : Value} {fds : List Fd} {n x : Int} {w : World} (hr : DRow w base v fds) (hb : base ≤ w.heap.size) (hc : fds.length ≤ 100000000) (hn : I64 n) (hx : I64 x) :
    Calls Tryz.prog 32 #[v, .int .i64 n, .int .i64 x] w (Adds w base v fds (pnum n x)) := by
  obtain ⟨i0, hi, hz0, hz1, hz2⟩ := info_parts Tryz.infoRef9
  have HR := hide hr
  have HN := hide hn
  have HX := hide hx
  clear hr hn hx
  by_cases h0 : x = 0
  · subst h0
    go_enter Tryz.func32, Tryz.ntmps32
    go_wp2
    go_ret
    exact adds_none HR.out rfl
  · have H0 := hide h0
    have O1 := hide (HR.out.1.alloc (.cells #[.int .i64 n, .bool false, .int .u64 (zig x : Nat), .slice none 0 0] 61))
    have ht : (x == 0) = false := by simpa using h0
    clear h0
    go_enter Tryz.func32, Tryz.ntmps32
    go_wp2_with (fail)
    refine (refzig_any x _ HX.out.1 HX.out.2).mono ?_
    rintro e w1 ⟨rfl, rfl⟩
    go_wp2_with (at_builtin; refine wpList_append_own_at _ rfl (.tmp 10) (.tmp 15) 58 rfl base 61 i0 _ 4 48 Tryz.underlying58 hi hz0 hz1 hz2 rfl (by omega) _ fds.length (fcells fds) rfl O1.out ⟨w.heap.size, 0, none⟩ 1 1 [.int .i64 n, .bool false, .int .u64 (zig x : Nat), .slice none 0 0] rfl rfl (cells_new w [.int .i64 n, .bool false, .int .u64 (zig x : Nat), .slice none 0 0] 61) (by intro u hu; simp at hu; rcases hu with rfl | rfl | rfl | rfl <;> rfl) (by simp only [maxLen]; omega) (by omega) (by simp; omega) ?_; intro x2 w2 o2 g2 _ _)
    go_ret
    exact adds_one (f := ⟨n, false, zig x, none, 0, 0, []⟩) HR.out (FdAt.plain HN.out (zig_lt x HX.out.1 HX.out.2)) (by unfold pnum; rw [if_neg H0.out]; rfl) o2 g2

set_option maxHeartbeats 1000000 in
set_option maxRecDepth 100000 in
theorem rtext17_any {base : Nat} {v : Value} {fds : List Fd} {n : Int} {A : Option Addr} {m c : Nat} {l : List Nat} {w : World} (hr : DRow w base v fds) (hb : base ≤ w.heap.size) (hc : fds.length ≤ 100000000) (hf : FdAt w ⟨n, true, 0, A, m, c, l⟩) :
    Calls Tryz.prog 30 #[v, .int .i64 n, .slice A m c] w (Adds w base v fds [prow n l]) := by
  obtain ⟨i0, hi, hz0, hz1, hz2⟩ := info_parts Tryz.infoRef9
  have HR := hide hr
  have HF := hide hf
  have O1 := hide (HR.out.1.alloc (.cells #[.int .i64 n, .bool true, .int .u64 0, .slice A m c] 61))
  clear hr hf
  go_enter Tryz.func30, Tryz.ntmps30
  go_wp2_with (at_builtin; refine wpList_append_own_at _ rfl (.tmp 7) (.tmp 11) 58 rfl base 61 i0 _ 4 48 Tryz.underlying58 hi hz0 hz1 hz2 rfl (by omega) _ fds.length (fcells fds) rfl O1.out ⟨w.heap.size, 0, none⟩ 1 1 [.int .i64 n, .bool true, .int .u64 0, .slice A m c] rfl rfl (cells_new w [.int .i64 n, .bool true, .int .u64 0, .slice A m c] 61) (by intro u hu; simp at hu; rcases hu with rfl | rfl | rfl | rfl <;> rfl) (by simp only [maxLen]; omega) (by omega) (by simp; omega) ?_; intro x2 w2 o2 g2 _ _)
  go_ret
  exact adds_one (f := ⟨n, true, 0, A, m, c, l⟩) HR.out HF.out rfl o2 g2

theorem dnum17_any {base : Nat} {v : Value} {ps : List PF} {n x : Int} {w : World} (hr : DR w base v ps) (hb : base ≤ w.heap.size) (hc : ps.length ≤ 100000000) (hn : I64 n) (hx : I64 x) :
    Calls Tryz.prog 32 #[v, .int .i64 n, .int .i64 x] w (AddsD w base (ps ++ pnum n x)) := by
  obtain ⟨fds, h1, h2⟩ := hr
  have hl : fds.length ≤ 100000000 := by rw [← h2, List.length_map] at hc; exact hc
  exact (rnum17_any h1 hb hl hn hx).mono fun e w' h => h.dr h1 h2 hb
theorem dtext17_any {base : Nat} {v : Value} {ps : List PF} {n : Int} {A : Option Addr} {m c : Nat} {l : List Nat} {w : World} (hr : DR w base v ps) (hb : base ≤ w.heap.size) (hc : ps.length ≤ 100000000) (hf : FdAt w ⟨n, true, 0, A, m, c, l⟩) :
    Calls Tryz.prog 30 #[v, .int .i64 n, .slice A m c] w (AddsD w base (ps ++ [prow n l])) := by
  obtain ⟨fds, h1, h2⟩ := hr
  have hl : fds.length ≤ 100000000 := by rw [← h2, List.length_map] at hc; exact hc
  exact (rtext17_any h1 hb hl hf).mono fun e w' h => h.dr h1 h2 hb
set_option maxHeartbeats 800000 in
set_option maxRecDepth 100000 in
theorem rval17_any {A : Option Addr} {n c : Nat} {fs : List Fd} {m : Int} {w : World} (hf : FHolds w w.heap.size A n fs) (hn : n ≤ 1099511627000) :
    Calls Tryz.prog 23 #[.slice A n c, .int .i64 m] w fun e w' => e = .returned (.int .i64 (zag (pfind (fs.map Fd.pf) m).1.2.2.1)) ∧ Later w w' := by
  have C := hide (reffind_any A n c fs m w hf hn)
  clear hf
  go_enter Tryz.func23, Tryz.ntmps23
  go_wp2_with (fail)
  refine C.out.mono ?_
  rintro e w1 ⟨⟨fnum, ftext, fv, fa, fn, fc, fb⟩, rfl, hp, hok, hl⟩
  have HP := hide hp
  have HO := hide hok
  have HL : Hid (Later w (w1.alloc (.cells #[.int .i64 fnum, .bool ftext, .int .u64 fv, .slice fa fn fc] 61 (0, 0)))) := Below.trans hl (Below.mono (Later.alloc w1 _) (Below.size hl))
  clear hp hok hl C
  simp only
  go_wp2_with (fail)
  refine (rzag_is fv HO.out.2.1 HL.out).mono ?_
  rintro e w2 ⟨rfl, hl2⟩
  have HL2 := hide hl2
  clear hl2
  go_wp2
  go_ret
  exact ⟨by rw [← HP.out]; rfl, HL2.out⟩

end Go.Proofs.YtdkiopajilakcaaGreatDoor
/- The walk over droverref09.DefBytes. -/
namespace Go.Proofs.YtdkiopajilakcaaGreatDoor
open Go.RowKit

theorem len_num {ps : List PF} {k : Nat} {n x : Int} (h : ps.length ≤ k) : (ps ++ pnum n x).length ≤ k + 1 := by
  rw [List.length_append]; unfold pnum; split <;> simp <;> omega
theorem len_flag {ps : List PF} {k : Nat} {n : Int} {x : Bool} (h : ps.length ≤ k) : (ps ++ pflag n x).length ≤ k + 1 := by
  rw [List.length_append]; unfold pflag; split <;> simp <;> omega
theorem len_text {ps : List PF} {k : Nat} {n : Int} {x : List Nat} (h : ps.length ≤ k) : (ps ++ ptext n x).length ≤ k + 1 := by
  rw [List.length_append]; unfold ptext; split <;> simp <;> omega
theorem drew_below (b : Nat) (w : World) : Below b w w.drew := ⟨rfl, rfl, rfl, Nat.le_refl _, fun _ _ => rfl⟩

set_option maxHeartbeats 2000000 in
set_option maxRecDepth 100000 in
theorem rdefb_any {G : Nat → Prop} {sA : Option Addr} {m sc k : Nat} {d : DefD} {w : World} (hl : StepsAt G w (.slice sA m sc) d.steps) (hm : m = d.steps.length) (hsm : d.sm k) (hk : k ≤ 5000) (hroom : proom (defF d) ≤ 1000000) :
    Calls Tryz.prog 31 #[.agg #[.string d.name, .slice sA m sc]] w (NewBytes w (defB d)) := by
  have HLL := hide hl
  have HM := hide hm
  have HSM := hide hsm
  have HKK := hide hk
  have HR := hide hroom
  have HX0 : Hid ((w.alloc (.cells #[.string d.name, .slice sA m sc] 24 (0, 0))).heap[w.heap.size]? = some (.cells #[.string d.name, .slice sA m sc] 24 (0, 0))) := heap_alloc_new _ _
  have HL0 : Hid (Later w (w.alloc (.cells #[.string d.name, .slice sA m sc] 24 (0, 0)))) := Later.alloc _ _
  have hml : m ≤ 5000 := by have := hsm.2.1; omega
  have e1 := Lib.run_convert_string_bytes (P := Tryz.prog) (w.alloc (.cells #[.string d.name, .slice sA m sc] 24 (0, 0))) 9 28 5 d.name Tryz.underlying9 Tryz.underlying28 Tryz.underlying5
  have hfd := bytes_fd (w := w.alloc (.cells #[.string d.name, .slice sA m sc] 24 (0, 0))) (num := 1) (s := d.name) ⟨by omega, by omega⟩
  have hbl := bytes_later (w.alloc (.cells #[.string d.name, .slice sA m sc] 24 (0, 0))) 5 d.name
  simp only [World.size_alloc] at e1 hfd
  have C0 := hide (dsome_any (base := w.heap.size + 1) (DR.nil (Lib.bytesWorld (w.alloc (.cells #[.string d.name, .slice sA m sc] 24 (0, 0))) 5 d.name) _) (by rw [Lib.bytesWorld_size, World.size_alloc]; omega) (by simp) hfd)
  have HB0 : Hid (Below (w.heap.size + 1) (w.alloc (.cells #[.string d.name, .slice sA m sc] 24 (0, 0))) (Lib.bytesWorld (w.alloc (.cells #[.string d.name, .slice sA m sc] 24 (0, 0))) 5 d.name)) := Below.mono hbl (by rw [World.size_alloc]; omega)
  clear hl hm hsm hk hroom hfd hbl
  go_enter Tryz.func31, Tryz.ntmps31
  go_wp2_with (fail)
  refine C0.out.mono ?_
  rintro e w0 ⟨v0, rfl, hd0, hb0, _⟩
  have HD0 := hide hd0
  have HT0 := hide (HB0.out.trans hb0)
  have hx0 := (HT0.out.block w.heap.size (by omega)).trans HX0.out
  have c1 := box_at hx0 1 _ rfl
  have HS0 : Hid (∀ w', Below (w.heap.size + 1) w0 w' → Later w w') := fun w' h => Below.trans HL0.out (Below.mono (HT0.out.trans h) (by omega))
  have HZ0 : Hid (w.heap.size + 1 ≤ w0.heap.size) := by have h := HT0.out.size; rw [World.size_alloc] at h; exact h
  clear hd0 hb0 hx0 e1 C0
  go_wp2
  clear c1
  go_loopw [3, 14] (fun lv i wr => ∃ q : Nat, q ≤ m ∧ i = .int .i64 (q : Int) ∧ DR wr (w.heap.size + 1) lv (([] : List PF) ++ ptext 1 (nums d.name) ++ (d.steps.take q).map fun s => prow 2 (stepB s)) ∧ Below (w.heap.size + 1) w0 wr) (fun _ i _ => m - (Go.RowKit.intOf i).toNat)
  case atStart => exact ⟨0, by omega, rfl, by simpa using HD0.out, Below.refl _ _⟩
  case round =>
    obtain ⟨q, hq, rfl, hdr, hbw⟩ := hrel
    have HD := hide hdr
    have HB := hide hbw
    have HLW := hide (HS0.out _ hbw)
    clear hdr hbw
    by_cases hlt : q < m
    · obtain ⟨s, b, off, c', hsk, hv, _, _, hbw, hr⟩ := StepsAt.at_ (HLL.out.kept (Kept.of_below HLW.out G)) (i := q) (by rw [← HM.out]; exact hlt)
      obtain ⟨rfl, rfl⟩ : sA = some ⟨b, off, none⟩ ∧ sc = c' := by injection hv with e1 _ e3; exact ⟨e1, e3⟩
      obtain ⟨r0, r1, r2, r3, r4, r5⟩ := range_step hr
      have HSK := hide hsk
      have hss := HSM.out.2.2 s (List.mem_of_getElem? hsk)
      have HI2 := hide hss.2.1
      have HI3 := hide hss.2.2.1
      have HI4 := hide hss.2.2.2
      have HRS : Hid (proom (stepF s) ≤ 10000000) := by have h1 := stepF_room s; have h2 := hss.1; have h3 := HKK.out; show _ ≤ _; omega
      have HW8 : Hid (Later wr (wr.alloc (.cells #[.string s.name, .int .i64 s.stub, .int .i64 s.retry, .int .i64 s.wait, .bool s.undo, .bool s.pivot] 42 (0, 0)))) := Later.alloc _ _
      have HX8 : Hid ((wr.alloc (.cells #[.string s.name, .int .i64 s.stub, .int .i64 s.retry, .int .i64 s.wait, .bool s.undo, .bool s.pivot] 42 (0, 0))).heap[wr.heap.size]? = some (.cells #[.string s.name, .int .i64 s.stub, .int .i64 s.retry, .int .i64 s.wait, .bool s.undo, .bool s.pivot] 42 (0, 0))) := heap_alloc_new _ _
      have e1 := Lib.run_convert_string_bytes (P := Tryz.prog) (wr.alloc (.cells #[.string s.name, .int .i64 s.stub, .int .i64 s.retry, .int .i64 s.wait, .bool s.undo, .bool s.pivot] 42 (0, 0))) 9 28 5 s.name Tryz.underlying9 Tryz.underlying28 Tryz.underlying5
      have hfd := bytes_fd (w := wr.alloc (.cells #[.string s.name, .int .i64 s.stub, .int .i64 s.retry, .int .i64 s.wait, .bool s.undo, .bool s.pivot] 42 (0, 0))) (num := 1) (s := s.name) ⟨by omega, by omega⟩
      have hbl := bytes_later (wr.alloc (.cells #[.string s.name, .int .i64 s.stub, .int .i64 s.retry, .int .i64 s.wait, .bool s.undo, .bool s.pivot] 42 (0, 0))) 5 s.name
      simp only [World.size_alloc] at e1 hfd
      have C1 := hide (dsome_any (base := wr.heap.size + 1) (DR.nil (Lib.bytesWorld (wr.alloc (.cells #[.string s.name, .int .i64 s.stub, .int .i64 s.retry, .int .i64 s.wait, .bool s.undo, .bool s.pivot] 42 (0, 0))) 5 s.name) _) (by rw [Lib.bytesWorld_size, World.size_alloc]; omega) (by simp) hfd)
      have HB1 : Hid (Below (wr.heap.size + 1) (wr.alloc (.cells #[.string s.name, .int .i64 s.stub, .int .i64 s.retry, .int .i64 s.wait, .bool s.undo, .bool s.pivot] 42 (0, 0))) (Lib.bytesWorld (wr.alloc (.cells #[.string s.name, .int .i64 s.stub, .int .i64 s.retry, .int .i64 s.wait, .bool s.undo, .bool s.pivot] 42 (0, 0))) 5 s.name)) := Below.mono hbl (by rw [World.size_alloc]; omega)
      clear hsk hv hr hss hfd hbl
      go_wp2_with (fail)
      refine C1.out.mono ?_
      rintro e w1 ⟨v1, rfl, hd1, hb1, _⟩
      have HD1 := hide (hd1.later (Later.drew w1))
      have HU1 := hide (HB1.out.trans hb1)
      have HT1 : Hid (Below (wr.heap.size + 1) (wr.alloc (.cells #[.string s.name, .int .i64 s.stub, .int .i64 s.retry, .int .i64 s.wait, .bool s.undo, .bool s.pivot] 42 (0, 0))) w1.drew) := HU1.out.trans (drew_below _ _)
      have HN1 : Hid ((([] : List PF) ++ ptext 1 (nums s.name)).length ≤ 1) := len_text (Nat.zero_le _)
      have HS : Hid (∀ w', Below (wr.heap.size + 1) (wr.alloc (.cells #[.string s.name, .int .i64 s.stub, .int .i64 s.retry, .int .i64 s.wait, .bool s.undo, .bool s.pivot] 42 (0, 0))) w' → w'.heap[wr.heap.size]? = some (.cells #[.string s.name, .int .i64 s.stub, .int .i64 s.retry, .int .i64 s.wait, .bool s.undo, .bool s.pivot] 42 (0, 0))) := fun w' h => (h.block wr.heap.size (by omega)).trans HX8.out
      clear hd1 hb1 e1 C1 r0 r1 r2 r3 r4 r5
      go_wp2
      refine wp_region_R (R := fun a c => Below (wr.heap.size + 1) a c) (by kernel_rfl) ?_
      refine wpAnyR_take (nt_pre_below (wr.heap.size + 1)) (i := 0) (d := some 22) (v := ?vaa0) rfl rfl (by kernel_rfl) (by kernel_rfl) (by kernel_rfl) (fun _ _ _ h => h) (by rfl) ?yaa0 ?_
      case yaa0 => (intro w' hw'; go_simp; try (with_reducible rfl))
      simp only [Act.put]; try simp only [sA_, sZ_, sS_]
      refine wpAnyR_take (nt_pre_below (wr.heap.size + 1)) (i := 1) (d := some 23) (v := ?vaa1) rfl rfl (by kernel_rfl) (by kernel_rfl) (by kernel_rfl) (fun _ _ _ h => h) (by rfl) ?yaa1 ?_
      case yaa1 => (intro w' hw'; go_simp; try (with_reducible rfl))
      simp only [Act.put]; try simp only [sA_, sZ_, sS_]
      refine wpAnyR_take (nt_pre_below (wr.heap.size + 1)) (i := 2) (d := some 24) (v := .int .i64 s.stub) rfl rfl (by kernel_rfl) (by kernel_rfl) (by kernel_rfl) (fun _ _ _ h => h) (by rfl) ?yaa2 ?_
      case yaa2 => (intro w' hw'; have hx := box_at (HS.out w' (HT1.out.trans hw')) 1 _ rfl; go_simp; try (with_reducible rfl))
      simp only [Act.put]; try simp only [sA_, sZ_, sS_]
      refine wpAnyR_take (nt_pre_below (wr.heap.size + 1)) (i := 4) (d := some 26) (v := ?vaa4) rfl rfl (by kernel_rfl) (by kernel_rfl) (by kernel_rfl) (fun _ _ _ h => h) (by rfl) ?yaa4 ?_
      case yaa4 => (intro w' hw'; go_simp; try (with_reducible rfl))
      simp only [Act.put]; try simp only [sA_, sZ_, sS_]
      refine wpAnyR_take (nt_pre_below (wr.heap.size + 1)) (i := 5) (d := some 27) (v := .int .i64 s.retry) rfl rfl (by kernel_rfl) (by kernel_rfl) (by kernel_rfl) (fun _ _ _ h => h) (by rfl) ?yaa5 ?_
      case yaa5 => (intro w' hw'; have hx := box_at (HS.out w' (HT1.out.trans hw')) 2 _ rfl; go_simp; try (with_reducible rfl))
      simp only [Act.put]; try simp only [sA_, sZ_, sS_]
      refine wpAnyR_take (nt_pre_below (wr.heap.size + 1)) (i := 7) (d := some 29) (v := ?vaa7) rfl rfl (by kernel_rfl) (by kernel_rfl) (by kernel_rfl) (fun _ _ _ h => h) (by rfl) ?yaa7 ?_
      case yaa7 => (intro w' hw'; go_simp; try (with_reducible rfl))
      simp only [Act.put]; try simp only [sA_, sZ_, sS_]
      refine wpAnyR_take (nt_pre_below (wr.heap.size + 1)) (i := 8) (d := some 30) (v := .int .i64 s.wait) rfl rfl (by kernel_rfl) (by kernel_rfl) (by kernel_rfl) (fun _ _ _ h => h) (by rfl) ?yaa8 ?_
      case yaa8 => (intro w' hw'; have hx := box_at (HS.out w' (HT1.out.trans hw')) 3 _ rfl; go_simp; try (with_reducible rfl))
      simp only [Act.put]; try simp only [sA_, sZ_, sS_]
      refine wpAnyR_only (i := 3) rfl (by kernel_rfl) (by rfl) fun K hK => ?_
      go_simp
      refine (dnum_any HD1.out (by have h := HT1.out.size; rw [World.size_alloc] at h; exact h) (Nat.le_trans HN1.out (by omega)) ⟨by omega, by omega⟩ HI2.out).mono ?_
      rintro e w2 ⟨v2, rfl, hd, hb, _⟩
      have HD2 := hide hd
      have HT2 := hide (HT1.out.trans hb)
      have HN2 := hide (len_num (n := 2) (x := s.stub) HN1.out)
      refine hK.out _ _ hb ?_
      clear hd hb
      clear hK K
      try (simp only [Act.put]; try simp only [sA_, sZ_, sS_])
      refine wpAnyR_only (i := 6) rfl (by kernel_rfl) (by rfl) fun K hK => ?_
      go_simp
      refine (dnum_any HD2.out (by have h := HT2.out.size; rw [World.size_alloc] at h; exact h) (Nat.le_trans HN2.out (by omega)) ⟨by omega, by omega⟩ HI3.out).mono ?_
      rintro e w3 ⟨v3, rfl, hd, hb, _⟩
      have HD3 := hide hd
      have HT3 := hide (HT2.out.trans hb)
      have HN3 := hide (len_num (n := 3) (x := s.retry) HN2.out)
      refine hK.out _ _ hb ?_
      clear hd hb
      clear hK K
      try (simp only [Act.put]; try simp only [sA_, sZ_, sS_])
      refine wpAnyR_only (i := 9) rfl (by kernel_rfl) (by rfl) fun K hK => ?_
      go_simp
      refine (dnum_any HD3.out (by have h := HT3.out.size; rw [World.size_alloc] at h; exact h) (Nat.le_trans HN3.out (by omega)) ⟨by omega, by omega⟩ HI4.out).mono ?_
      rintro e w4 ⟨v4, rfl, hd, hb, _⟩
      have HD4 := hide hd
      have HT4 := hide (HT3.out.trans hb)
      have HN4 := hide (len_num (n := 4) (x := s.wait) HN3.out)
      refine hK.out _ _ hb ?_
      clear hd hb
      clear hK K
      try (simp only [Act.put]; try simp only [sA_, sZ_, sS_])
      refine wpAnyR_take (nt_pre_below (wr.heap.size + 1)) (i := 10) (d := some 6) (v := ?vaa10) rfl rfl (by kernel_rfl) (by kernel_rfl) (by kernel_rfl) (fun _ _ _ h => h) (by rfl) ?yaa10 ?_
      case yaa10 => (intro w' hw'; go_simp; try (with_reducible rfl))
      simp only [Act.put]; try simp only [sA_, sZ_, sS_]
      refine wpAnyR_done (by kernel_rfl) ?_ _
      have HT4b : Hid (Below (wr.heap.size + 1) (wr.alloc (.cells #[.string s.name, .int .i64 s.stub, .int .i64 s.retry, .int .i64 s.wait, .bool s.undo, .bool s.pivot] 42 (0, 0))) w4.drew) := HT4.out.trans (drew_below _ _)
      have HD4b := hide (HD4.out.later (Later.drew w4))
      clear HT4 HD4
      have HT4 := HT4b
      have HD4 := HD4b
      clear HT4b HD4b
      go_wp2
      refine wp_region_R (R := fun a c => Below (wr.heap.size + 1) a c) (by kernel_rfl) ?_
      refine wpAnyR_take (nt_pre_below (wr.heap.size + 1)) (i := 0) (d := some 32) (v := ?vab0) rfl rfl (by kernel_rfl) (by kernel_rfl) (by kernel_rfl) (fun _ _ _ h => h) (by rfl) ?yab0 ?_
      case yab0 => (intro w' hw'; go_simp; try (with_reducible rfl))
      simp only [Act.put]; try simp only [sA_, sZ_, sS_]
      refine wpAnyR_take (nt_pre_below (wr.heap.size + 1)) (i := 1) (d := some 33) (v := ?vab1) rfl rfl (by kernel_rfl) (by kernel_rfl) (by kernel_rfl) (fun _ _ _ h => h) (by rfl) ?yab1 ?_
      case yab1 => (intro w' hw'; go_simp; try (with_reducible rfl))
      simp only [Act.put]; try simp only [sA_, sZ_, sS_]
      refine wpAnyR_take (nt_pre_below (wr.heap.size + 1)) (i := 2) (d := some 34) (v := .bool s.undo) rfl rfl (by kernel_rfl) (by kernel_rfl) (by kernel_rfl) (fun _ _ _ h => h) (by rfl) ?yab2 ?_
      case yab2 => (intro w' hw'; have hx := box_at (HS.out w' (HT4.out.trans hw')) 4 _ rfl; go_simp; try (with_reducible rfl))
      simp only [Act.put]; try simp only [sA_, sZ_, sS_]
      refine wpAnyR_take (nt_pre_below (wr.heap.size + 1)) (i := 4) (d := some 36) (v := ?vab4) rfl rfl (by kernel_rfl) (by kernel_rfl) (by kernel_rfl) (fun _ _ _ h => h) (by rfl) ?yab4 ?_
      case yab4 => (intro w' hw'; go_simp; try (with_reducible rfl))
      simp only [Act.put]; try simp only [sA_, sZ_, sS_]
      refine wpAnyR_take (nt_pre_below (wr.heap.size + 1)) (i := 5) (d := some 37) (v := .bool s.pivot) rfl rfl (by kernel_rfl) (by kernel_rfl) (by kernel_rfl) (fun _ _ _ h => h) (by rfl) ?yab5 ?_
      case yab5 => (intro w' hw'; have hx := box_at (HS.out w' (HT4.out.trans hw')) 5 _ rfl; go_simp; try (with_reducible rfl))
      simp only [Act.put]; try simp only [sA_, sZ_, sS_]
      refine wpAnyR_only (i := 3) rfl (by kernel_rfl) (by rfl) fun K hK => ?_
      go_simp
      refine (dyes_any HD4.out (by have h := HT4.out.size; rw [World.size_alloc] at h; exact h) (Nat.le_trans HN4.out (by omega)) ⟨by omega, by omega⟩).mono ?_
      rintro e w5 ⟨v5, rfl, hd, hb, _⟩
      have HD5 := hide hd
      have HT5 := hide (HT4.out.trans hb)
      have HN5 := hide (len_flag (n := 5) (x := s.undo) HN4.out)
      refine hK.out _ _ hb ?_
      clear hd hb
      clear hK K
      try (simp only [Act.put]; try simp only [sA_, sZ_, sS_])
      refine wpAnyR_only (i := 6) rfl (by kernel_rfl) (by rfl) fun K hK => ?_
      go_simp
      refine (dyes_any HD5.out (by have h := HT5.out.size; rw [World.size_alloc] at h; exact h) (Nat.le_trans HN5.out (by omega)) ⟨by omega, by omega⟩).mono ?_
      rintro e w6 ⟨v6, rfl, hd, hb, _⟩
      have HD6 := hide hd
      have HT6 := hide (HT5.out.trans hb)
      have HN6 := hide (len_flag (n := 6) (x := s.pivot) HN5.out)
      refine hK.out _ _ hb ?_
      clear hd hb
      clear hK K
      try (simp only [Act.put]; try simp only [sA_, sZ_, sS_])
      refine wpAnyR_take (nt_pre_below (wr.heap.size + 1)) (i := 7) (d := some 6) (v := ?vab7) rfl rfl (by kernel_rfl) (by kernel_rfl) (by kernel_rfl) (fun _ _ _ h => h) (by rfl) ?yab7 ?_
      case yab7 => (intro w' hw'; go_simp; try (with_reducible rfl))
      simp only [Act.put]; try simp only [sA_, sZ_, sS_]
      refine wpAnyR_done (by kernel_rfl) ?_ _
      have hall : ([] : List PF) ++ ptext 1 (nums s.name) ++ pnum 2 s.stub ++ pnum 3 s.retry ++ pnum 4 s.wait ++ pflag 5 s.undo ++ pflag 6 s.pivot = stepF s := by simp [stepF]
      have HD7 := HD6
      rw [hall] at HD7
      have C7 := hide (dwrite_any HD7.out HRS.out)
      have HL6 : Hid (Later wr w6) := Below.trans HW8.out (Below.mono HT6.out (by omega))
      clear hall HD6
      go_wp2_with (fail)
      refine C7.out.mono ?_
      rintro e w7 ⟨A7, n7, c7, rfl, ho7, hh7, _, hb7⟩
      have HL7 : Hid (Later wr w7) := HL6.out.trans hb7
      have hfd7 := own_fd (num := 2) ⟨by omega, by omega⟩ ho7 hh7.2.1
      have C8 := hide (dtext_any (HD.out.later HL7.out) (by have h1 := HB.out.size; have h2 := Below.size HL7.out; have h3 := HZ0.out; omega) (by simp only [List.length_append, List.length_map, List.length_take]; have := len_text (ps := []) (k := 0) (n := 1) (x := nums d.name) (Nat.le_refl _); simp only [List.length_append, List.length_nil] at this ⊢; omega) hfd7)
      clear ho7 hh7 hb7 hfd7 C7
      go_wp2_with (fail)
      refine C8.out.mono ?_
      rintro e w8 ⟨v8, rfl, hd8, hb8, _⟩
      have HD8 := hide hd8
      have HB8 : Hid (Below (w.heap.size + 1) w0 w8) := (HB.out.trans (Below.mono HL7.out (by have h1 := HB.out.size; have h3 := HZ0.out; omega))).trans hb8
      clear hd8 hb8 C8
      go_wp2
      go_roundw
      case rel =>
        refine ⟨q + 1, by omega, by go_num, ?_, HB8.out⟩
        have h := HD8.out
        rw [show prec (stepF s) = stepB s from rfl] at h
        rw [List.take_add_one, HSK.out]
        simpa only [Option.toList_some, List.map_append, List.map_cons, List.map_nil, List.append_assoc] using h
      case measure => simp [Go.RowKit.intOf]; omega
    · obtain rfl : q = m := by omega
      have hall : ([] : List PF) ++ ptext 1 (nums d.name) ++ (d.steps.take q).map (fun s => prow 2 (stepB s)) = defF d := by
        rw [List.take_of_length_le (by have := HM.out; omega)]
        simp [defF]
      rw [hall] at HD
      have C := hide (dwrite_any HD.out (Nat.le_trans HR.out (by omega)))
      clear hall
      go_wp2_with (fail)
      refine C.out.mono ?_
      rintro e w1 ⟨A2, n2, c2, rfl, h1, h2, h3, h4⟩
      have H1 := hide (own_base h1 (Below.size HLW.out))
      have H2 := hide h2
      have H4 := hide (HLW.out.trans h4)
      clear h1 h2 h4 C
      go_wp2
      go_ret
      exact ⟨A2, n2, c2, rfl, H1.out, H2.out, h3, H4.out⟩
end Go.Proofs.YtdkiopajilakcaaGreatDoor
