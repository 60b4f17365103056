/- Texts merged: SagF, SagG, Build, LitW, OuB, BkF, OrderR, SagI, SagJ, SagK, SagL, SagP, SagQ. -/
import Derived.Test.YtdkiopajilakcaaGreatBaseO1
import Derived.Test.YtdkiopajilakcaaGreatBaseO2
import Derived.Test.YtdkiopajilakcaaGreatBaseO3
import Derived.RegionTactic
import Derived.BigRegion
import Derived.Laws.Tables
import Derived.Maps.AppendAt
/- What a saga wants. -/
namespace Go.Proofs.YtdkiopajilakcaaGreat
open Go.RowKit
def CmdD.zero : CmdD := ⟨0, 0, 0, false⟩
def CBox (g : Nat) (c : CmdD) (w : World) : Prop := w.heap[g]? = some (.cells c.cells.toArray 42 (0, 0))
theorem CmdD.one (s : CmdD) : ∀ u ∈ s.cells, u.oneCell' = true := by
  intro u hu
  simp only [CmdD.cells, List.mem_cons, List.not_mem_nil, or_false] at hu
  rcases hu with rfl | rfl | rfl | rfl | rfl | rfl <;> rfl
theorem cmd_put (x y : CmdD) : putAt x.cells.toArray 0 y.cells = y.cells.toArray := by simp [putAt, CmdD.cells]
section
variable {w w' : World} {g : Nat} {c z : CmdD}
theorem CBox.lt (h : CBox g c w) : g < w.heap.size := lt_of_block h
theorem CBox.below (h : CBox g c w) (hl : Later w w') : CBox g c w' := (Below.block hl g (lt_of_block h)).trans h
theorem CBox.cells (h : CBox g c w) : w.cell? ⟨g, 0, none⟩ = some (.int .i64 0) ∧ w.cell? ⟨g, 1, none⟩ = some (.int .i64 c.stub) ∧ w.cell? ⟨g, 2, none⟩ = some (.int .i64 0) ∧ w.cell? ⟨g, 3, none⟩ = some (.int .i64 c.step) ∧ w.cell? ⟨g, 4, none⟩ = some (.int .i64 c.tr) ∧ w.cell? ⟨g, 5, none⟩ = some (.bool c.back) ∧ ∀ i, w.frozen? ⟨g, i, none⟩ = false :=
  ⟨(cell_of_row w g 0 _ _ _ h).trans rfl, (cell_of_row w g 1 _ _ _ h).trans rfl, (cell_of_row w g 2 _ _ _ h).trans rfl, (cell_of_row w g 3 _ _ _ h).trans rfl, (cell_of_row w g 4 _ _ _ h).trans rfl, (cell_of_row w g 5 _ _ _ h).trans rfl, fun i => frozen_of_row w g i _ _ h⟩
variable {ops : Array Oper} {rest : List Oper} {op : Oper} {a : Act} {Q : Exit → Act → World → Prop}
theorem wpList_store_cmd (hgd : op.guard = none) (x y : Operand) (ho : op.op = .store 42 x y) (hx : a.eval x = .pointer (some ⟨g, 0, none⟩)) (hg : CBox g z w) (hy : a.eval y = c.val)
    (h : ∀ w', CBox g c w' → w.grownBy w' (some g) → wpList Tryz.prog ops Q rest (a.put op.dst undef) w') : wpList Tryz.prog ops Q (op :: rest) a w :=
  wpList_store_box hgd 42 x y ho g 0 c.cells.toArray hx hy 42 _ hg (by kernel_rfl) (by exact Nat.le_of_ble_eq_true rfl) (by exact c.one) (fun w' hb hg' => h w' (by rw [show c.cells.toArray.toList = c.cells from rfl, cmd_put] at hb; exact hb) hg')
theorem exec_load_cmd (x : Operand) (ho : op.op = .load 42 x) (hx : a.eval x = .pointer (some ⟨g, 0, none⟩)) (hg : CBox g c w) : (execOp a.eval op).run Tryz.prog w = .ok (.value c.val) w :=
  exec_load_box 42 x ho g 0 hx 42 _ hg 6 _ Tryz.underlying42 (by rfl) (by kernel_rfl) c.cells (by rfl) (by rfl)
end
/-- The results of a function: a struct in a block of its own, and two plain ones. -/
theorem results_box3 {P : Program} {fn : Func} {p q r : Tmp} {ty : TypeId} (h : fn.results = #[.cell p ty, .tmp q, .tmp r]) (tmps : Array Value) (w : World) (g : Nat) (T : TypeId) (cs : Array Value) (d : TypeDesc)
    (hp : tmps.getD p undef = .pointer (some ⟨g, 0, none⟩)) (hg : w.heap[g]? = some (.cells cs T (0, 0)))
    (hu : P.underlying ty = some d) (hd : (match d with | .struct _ | .array _ _ => true | _ => false) = true) (hi : (P.info? ty).map (·.size) = some cs.size) (v : Value) (hv : tmps.getD q undef = v) (u : Value) (huv : tmps.getD r undef = u) :
    (results fn tmps).run P w = .ok (.tuple #[.agg cs, v, u]) w := by
  have hp' : tmps[p]?.getD undef = .pointer (some ⟨g, 0, none⟩) := by simpa using hp
  have hv' : tmps[q]?.getD undef = v := by simpa using hv
  have hu' : tmps[r]?.getD undef = u := by simpa using huv
  simp [results, h, hp', hv', hu', asAddr, run_loadVar_row w g T ty cs (0, 0) d hg hu hd hi]
theorem wants_parts {l : List StepD} {s : SagaD} (h : wantsB l s = true) : (checkF s.name l).2 = 0 ∧ 1 ≤ s.step ∧ s.step ≤ (l.length : Int) ∧ s.step ≤ 8 ∧ 1 ≤ s.tr ∧ s.tr ≤ triesN l s.step ∧ (s.st = 1 ∨ s.st = 2) ∧ goodF l s = true := by
  unfold wantsB at h
  rw [Bool.and_eq_true] at h
  obtain ⟨hg, hs⟩ := h
  have hs2 : s.st = 1 ∨ s.st = 2 := by simpa using hs
  have hg0 := hg
  unfold goodF at hg
  by_cases he : (checkF s.name l).2 = 0
  · rw [if_neg (by rw [he]; decide)] at hg
    have h8 := (check_good he).1
    rcases hs2 with h1 | h1
    · rw [if_pos h1] at hg
      simp only [Bool.and_eq_true, decide_eq_true_eq] at hg
      have := tries_pos (l := l) (k := s.step) (by omega)
      exact ⟨he, this.1, this.2, by omega, hg.1, hg.2.1, .inl h1, hg0⟩
    · rw [if_neg (by omega), if_pos h1] at hg
      simp only [Bool.and_eq_true, decide_eq_true_eq] at hg
      have := tries_pos (l := l) (k := s.step) (by omega)
      exact ⟨he, this.1, this.2, by omega, hg.1, hg.2.1, .inr h1, hg0⟩
  · rw [if_pos he] at hg; cases hg
/-- A command's six cells are written one by one. -/
theorem cmd_wrote {W : World} {b : Nat} {z : CmdD} (s t r : Int) (d : Bool) (h : CBox b z W) : CBox b ⟨s, t, r, d⟩ ((((((W.setCell ⟨b, 0, none⟩ (.int .i64 0)).setCell ⟨b, 1, none⟩ (.int .i64 s)).setCell ⟨b, 2, none⟩ (.int .i64 0)).setCell ⟨b, 3, none⟩ (.int .i64 t)).setCell ⟨b, 4, none⟩ (.int .i64 r)).setCell ⟨b, 5, none⟩ (.bool d)) ∧ W.grownBy ((((((W.setCell ⟨b, 0, none⟩ (.int .i64 0)).setCell ⟨b, 1, none⟩ (.int .i64 s)).setCell ⟨b, 2, none⟩ (.int .i64 0)).setCell ⟨b, 3, none⟩ (.int .i64 t)).setCell ⟨b, 4, none⟩ (.int .i64 r)).setCell ⟨b, 5, none⟩ (.bool d)) (some b) := by
  have h6 := heap_setCells b (CmdD.cells ⟨s, t, r, d⟩) 0 W _ h
  rw [cmd_put] at h6
  exact ⟨h6, grown_setCells b (CmdD.cells ⟨s, t, r, d⟩) 0 W⟩
/-- What Wants says. -/
def Wanted (l : List StepD) (s : SagaD) (w : World) (e : Ending) (w' : World) : Prop := e = .returned (.tuple #[(wantsC l s).val, .int .i64 (wantsW l s), .bool (wantsB l s)]) ∧ Later w w'
section
variable {w : World}
set_option maxHeartbeats 4000000 in
theorem wants_no {F : Nat → Prop} {s : SagaD} {l : List StepD} (h : StepsAt F w s.v l) (hw : ∀ x ∈ l, x.wf) (h1 : I64 s.step) (hq : wantsB l s = false) : Calls Tryz.prog 31 #[s.val] w (Wanted l s w) := by
  obtain ⟨W1, hW1⟩ : ∃ W1, W1 = (w.alloc (.cells s.cells.toArray 72 (0, 0))).alloc (.cells #[.int .i64 0, .int .i64 0, .int .i64 0, .int .i64 0, .int .i64 0, .bool false] 42 (0, 0)) := ⟨_, rfl⟩
  obtain ⟨g, hg⟩ : ∃ g, g = w.heap.size := ⟨_, rfl⟩
  have X1 : Hid (SBox 72 g s W1) := by rw [hW1, hg]; exact (heap_alloc_old _ _ (by simp)).trans (heap_alloc_new _ _)
  have Y1 : Hid (CBox (g + 1) CmdD.zero W1) := by rw [hW1, hg]; exact heap_second _ _ _
  have L1 : Hid (Later w W1) := by rw [hW1]; exact ((Below.refl _ _).alloc (Nat.le_refl _) _).alloc (by simp) _
  have HG0 : Hid (w.heap.size ≤ g) := Nat.le_of_eq hg.symm
  have C : Hid (∀ W, Later W1 W → Calls Tryz.prog 61 #[s.val] W (Gives (.bool (goodF l s)) W)) := fun W hW => good_any (StepsAt.kept h (Kept.of_below (L1.out.trans hW) _)) hw h1
  have HR : Hid (Value.tuple #[(wantsC l s).val, .int .i64 (wantsW l s), .bool (wantsB l s)] = .tuple #[CmdD.zero.val, .int .i64 0, .bool false]) := by
    show _ = _
    unfold wantsC wantsW
    rw [hq]
    rfl
  have HB : Hid (goodF l s = false ∨ (s.st ≠ 1 ∧ s.st ≠ 2)) := by
    unfold wantsB at hq
    cases hg : goodF l s with
    | false => exact .inl rfl
    | true => rw [hg] at hq; exact .inr (by simpa using hq)
  obtain ⟨q, hq2⟩ : ∃ q, goodF l s = q := ⟨_, rfl⟩
  rw [hq2] at C HB
  have HW1 := hide hW1.symm
  have HG := hide hg.symm
  clear hW1 hg h hw h1 hq hq2
  have xe := X1.out
  rw [← HW1.out, ← HG.out] at xe
  have XE := hide xe
  clear xe
  go_enter Tryz.func31, Tryz.ntmps31
  go_wp2_with (refine wpList_load_saga (by rfl) _ (by rfl) (by rfl) XE.out ?_; simp only [HW1.out, HG.out])
  refine (C.out _ (Later.refl _)).mono ?_
  rintro e w2 ⟨rfl, hl⟩
  have L12 := hide hl
  have L2 := hide (L1.out.trans hl)
  have X2 := hide (X1.out.below hl)
  have Y2 := hide (Y1.out.below hl)
  clear hl C
  cases q with
  | false =>
    go_wp2_with (refine wpList_store_cmd (c := CmdD.zero) (by rfl) _ _ (by rfl) (by rfl) Y2.out (by rfl) ?_; intro w3 Z3 G3)
    have HLF : Hid (Later w _) := L2.out.grown G3 (Below.size L2.out) (fun k hk => by have := Option.some.inj hk; have := HG0.out; omega)
    refine bodyPost_ret (results_box3 Tryz.results31 _ _ (g + 1) 42 _ _ (by rfl) Z3 Tryz.underlying42 (by rfl) (by kernel_rfl) (.int .i64 0) (by rfl) (.bool false) (by rfl)) (by rfl) ?_
    exact ⟨congrArg _ HR.out.symm, HLF.out⟩
  | true =>
    obtain ⟨n1, n2⟩ : s.st ≠ 1 ∧ s.st ≠ 2 := HB.out.resolve_left (by simp)
    have b1 : (s.st != 1) = true := by simpa using n1
    have b2 : (s.st != 2) = true := by simpa using n2
    have c2 := X2.out.c2
    clear n1 n2
    go_wp2_with (refine wpList_store_cmd (c := CmdD.zero) (by rfl) _ _ (by rfl) (by rfl) Y2.out (by rfl) ?_; intro w3 Z3 G3)
    have HLF : Hid (Later w _) := L2.out.grown G3 (Below.size L2.out) (fun k hk => by have := Option.some.inj hk; have := HG0.out; omega)
    refine bodyPost_ret (results_box3 Tryz.results31 _ _ (g + 1) 42 _ _ (by rfl) Z3 Tryz.underlying42 (by rfl) (by kernel_rfl) (.int .i64 0) (by rfl) (.bool false) (by rfl)) (by rfl) ?_
    exact ⟨congrArg _ HR.out.symm, HLF.out⟩
end
end Go.Proofs.YtdkiopajilakcaaGreat
/- What a saga wants, whole. -/
namespace Go.Proofs.YtdkiopajilakcaaGreat
open Go.RowKit
section
variable {w : World}
set_option maxHeartbeats 4000000 in
theorem wants_yes {F : Nat → Prop} {s : SagaD} {l : List StepD} (st : Int) (h : StepsAt F w s.v l) (hw : ∀ x ∈ l, x.wf) (h1 : I64 s.step) (hq : wantsB l s = true) (hs : s.st = st) (hst : st = 1 ∨ st = 2) : Calls Tryz.prog 31 #[s.val] w (Wanted l s w) := by
  obtain ⟨W1, hW1⟩ : ∃ W1, W1 = (w.alloc (.cells s.cells.toArray 72 (0, 0))).alloc (.cells #[.int .i64 0, .int .i64 0, .int .i64 0, .int .i64 0, .int .i64 0, .bool false] 42 (0, 0)) := ⟨_, rfl⟩
  obtain ⟨g, hg⟩ : ∃ g, g = w.heap.size := ⟨_, rfl⟩
  have X1 : Hid (SBox 72 g s W1) := by rw [hW1, hg]; exact (heap_alloc_old _ _ (by simp)).trans (heap_alloc_new _ _)
  have Y1 : Hid (CBox (g + 1) CmdD.zero W1) := by rw [hW1, hg]; exact heap_second _ _ _
  have L1 : Hid (Later w W1) := by rw [hW1]; exact ((Below.refl _ _).alloc (Nat.le_refl _) _).alloc (by simp) _
  have HG0 : Hid (w.heap.size ≤ g) := Nat.le_of_eq hg.symm
  have C : Hid (∀ W, Later W1 W → Calls Tryz.prog 61 #[s.val] W (Gives (.bool (goodF l s)) W)) := fun W hW => good_any (StepsAt.kept h (Kept.of_below (L1.out.trans hW) _)) hw h1
  obtain ⟨he, p1, p2, p3, p4, p5, p6, p7⟩ := wants_parts hq
  rw [p7] at C
  obtain ⟨q, hqk⟩ : ∃ q : Nat, s.step = (q : Int) + 1 := ⟨(s.step - 1).toNat, by omega⟩
  have hql : q < l.length := by omega
  obtain ⟨x, b, off, c', hx, hvv, _, _, hb, hr⟩ := StepsAt.at_ h (i := q) hql
  have hn := steps_n h
  rw [← hn] at hvv
  have hv1 : s.p = some ⟨b, off, none⟩ := by
    unfold SagaD.v at hvv
    injection hvv
  have HV := hide hv1
  have HK := hide hqk
  have hqn : q < s.n := by omega
  have hq8 : q < 8 := by omega
  have HX : Hid (stepAt l s.step = x) := by show _ = _; unfold stepAt; rw [hqk, show ((q : Int) + 1 - 1).toNat = q from by omega, hx]; rfl
  have HR : Hid (Value.tuple #[(wantsC l s).val, .int .i64 (wantsW l s), .bool (wantsB l s)] = .tuple #[.agg #[.int .i64 0, .int .i64 x.stub, .int .i64 0, .int .i64 ((q : Int) + 1), .int .i64 s.tr, .bool (decide (st = 2))], .int .i64 x.wait, .bool true]) := by
    show _ = _
    unfold wantsC wantsW
    rw [hq, if_pos rfl, if_pos rfl, HX.out, hqk, hs]
    rfl
  have HRB : Hid (∀ W, Later W1 W → W.rangeAt b (off + q * 6) x.cells) := fun W hW j u hj => (Below.cell (L1.out.trans hW) (p := ⟨b, off + q * 6 + j, none⟩) hb).trans (hr j u hj)
  have HS := hide hs
  have HW1 := hide hW1.symm
  have HG := hide hg.symm
  clear hW1 hg h hw h1 hq he p1 p2 p3 p4 p5 p6 p7 hx hvv hr hb hql hqk hv1 hs hn
  have xe := X1.out
  rw [← HW1.out, ← HG.out] at xe
  have XE := hide xe
  clear xe
  go_enter Tryz.func31, Tryz.ntmps31
  go_wp2_with (refine wpList_load_saga (by rfl) _ (by rfl) (by rfl) XE.out ?_; simp only [HW1.out, HG.out])
  refine (C.out _ (Later.refl _)).mono ?_
  rintro e w2 ⟨rfl, hl⟩
  have L12 := hide hl
  have L2 := hide (L1.out.trans hl)
  have X2 := hide (X1.out.below hl)
  have Y2 := hide (Y1.out.below hl)
  clear hl C
  have c1 := X2.out.c1
  have c2 := X2.out.c2
  have c3 := X2.out.c3
  have c4 := X2.out.c4
  rw [HV.out] at c1
  rw [HS.out] at c2
  rw [HK.out] at c3
  obtain ⟨r0, r1, r2, r3, r4, r5⟩ := range_step (HRB.out _ L12.out)
  have hwr : IntKind.i64.wrap ((q : Int) + 1 - 1) = (q : Int) := by rw [show (q : Int) + 1 - 1 = (q : Int) from by omega]; exact wrap_fits (by omega)
  obtain ⟨W5, hW5⟩ : ∃ W5, W5 = w2.alloc (.cells #[.string x.name, .int .i64 x.stub, .int .i64 x.retry, .int .i64 x.wait, .bool x.undo, .bool x.pivot] 79 (0, 0)) := ⟨_, rfl⟩
  obtain ⟨y, hy⟩ : ∃ y, y = w2.heap.size := ⟨_, rfl⟩
  have B5 : Hid (StepBox y x W5) := by rw [hW5, hy]; exact heap_alloc_new w2 _
  have L25 : Hid (Later w2 W5) := by rw [hW5]; exact (Below.refl _ _).alloc (Nat.le_refl _) _
  have HW5 := hide hW5.symm
  have HY := hide hy.symm
  clear hW5 hy
  rcases hst with rfl | rfl
  · go_wp2_with (fail)
    simp only [HW5.out, HY.out]
    have X5 := hide (X2.out.below L25.out)
    have Y5 := hide (Y2.out.below L25.out)
    have d2 := X5.out.c2
    have d3 := X5.out.c3
    have d4 := X5.out.c4
    rw [HS.out] at d2
    rw [HK.out] at d3
    obtain ⟨s0, s1, s2, s3, s4, s5, sf⟩ := B5.out.cells
    obtain ⟨k0, k1, k2, k3, k4, k5, kf⟩ := Y5.out.cells
    have L5 := hide (L2.out.trans L25.out)
    have hne1 : ¬ (g + 1 = y) := by have := Y2.out.lt; rw [HY.out] at this; omega
    have hne2 : ¬ (y = g + 1) := fun e => hne1 e.symm
    clear c1 c2 c3 c4 r0 r1 r2 r3 r4 r5
    go_region
    obtain ⟨h6, g6⟩ := cmd_wrote x.stub ((q : Int) + 1) s.tr false Y5.out
    have HLF0 := hide (Below.grown L5.out g6 (Below.size L5.out) (fun k hk => by have := Option.some.inj hk; have := HG0.out; omega))
    have Z6 := hide (h6.below (Later.drew _))
    have HLF := hide (Later.trans (b := ((((((W5.setCell ⟨g + 1, 0, none⟩ (.int .i64 0)).setCell ⟨g + 1, 1, none⟩ (.int .i64 x.stub)).setCell ⟨g + 1, 2, none⟩ (.int .i64 0)).setCell ⟨g + 1, 3, none⟩ (.int .i64 ((q : Int) + 1))).setCell ⟨g + 1, 4, none⟩ (.int .i64 s.tr)).setCell ⟨g + 1, 5, none⟩ (.bool false))) HLF0.out (Later.drew _))
    clear h6 g6
    go_wp2
    refine bodyPost_ret (results_box3 Tryz.results31 _ _ (g + 1) 42 _ _ (by rfl) Z6.out Tryz.underlying42 (by rfl) (by kernel_rfl) (.int .i64 x.wait) (by rfl) (.bool true) (by rfl)) (by rfl) ?_
    exact ⟨congrArg _ HR.out.symm, HLF.out⟩
  · go_wp2_with (fail)
    simp only [HW5.out, HY.out]
    have X5 := hide (X2.out.below L25.out)
    have Y5 := hide (Y2.out.below L25.out)
    have d2 := X5.out.c2
    have d3 := X5.out.c3
    have d4 := X5.out.c4
    rw [HS.out] at d2
    rw [HK.out] at d3
    obtain ⟨s0, s1, s2, s3, s4, s5, sf⟩ := B5.out.cells
    obtain ⟨k0, k1, k2, k3, k4, k5, kf⟩ := Y5.out.cells
    have L5 := hide (L2.out.trans L25.out)
    have hne1 : ¬ (g + 1 = y) := by have := Y2.out.lt; rw [HY.out] at this; omega
    have hne2 : ¬ (y = g + 1) := fun e => hne1 e.symm
    clear c1 c2 c3 c4 r0 r1 r2 r3 r4 r5
    go_region
    obtain ⟨h6, g6⟩ := cmd_wrote x.stub ((q : Int) + 1) s.tr true Y5.out
    have HLF0 := hide (Below.grown L5.out g6 (Below.size L5.out) (fun k hk => by have := Option.some.inj hk; have := HG0.out; omega))
    have Z6 := hide (h6.below (Later.drew _))
    have HLF := hide (Later.trans (b := ((((((W5.setCell ⟨g + 1, 0, none⟩ (.int .i64 0)).setCell ⟨g + 1, 1, none⟩ (.int .i64 x.stub)).setCell ⟨g + 1, 2, none⟩ (.int .i64 0)).setCell ⟨g + 1, 3, none⟩ (.int .i64 ((q : Int) + 1))).setCell ⟨g + 1, 4, none⟩ (.int .i64 s.tr)).setCell ⟨g + 1, 5, none⟩ (.bool true))) HLF0.out (Later.drew _))
    clear h6 g6
    go_wp2
    refine bodyPost_ret (results_box3 Tryz.results31 _ _ (g + 1) 42 _ _ (by rfl) Z6.out Tryz.underlying42 (by rfl) (by kernel_rfl) (.int .i64 x.wait) (by rfl) (.bool true) (by rfl)) (by rfl) ?_
    exact ⟨congrArg _ HR.out.symm, HLF.out⟩
theorem wants_any {F : Nat → Prop} {s : SagaD} {l : List StepD} (h : StepsAt F w s.v l) (hw : ∀ x ∈ l, x.wf) (h1 : I64 s.step) : Calls Tryz.prog 31 #[s.val] w (Wanted l s w) := by
  cases hq : wantsB l s with
  | false => exact wants_no h hw h1 hq
  | true => exact wants_yes s.st h hw h1 hq rfl (wants_parts hq).2.2.2.2.2.2.1
end
end Go.Proofs.YtdkiopajilakcaaGreat
/- A struct literal at an operation, its parts said as a list. -/
namespace Go.Proofs.YtdkiopajilakcaaGreat
open Go.RowKit

section
variable {P : Program} {w : World} {op : Oper} {a : Act}
theorem parts_list (xs : Array (Nat × Operand)) (ps : List (Nat × Value)) (hp : xs.toList.map (fun q => (q.1, a.eval q.2)) = ps) : (xs.map fun (i, x) => (i, a.eval x)).toList = ps := by
  rw [Array.toList_map]
  exact hp
theorem wpList_build_parts {ops : Array Oper} {rest : List Oper} {Q : Exit → Act → World → Prop} (hgd : op.guard = none) (t : TypeId) (xs : Array (Nat × Operand)) (ho : op.op = .build t xs) (ps : List (Nat × Value))
    (hp : xs.toList.map (fun q => (q.1, a.eval q.2)) = ps) (cells : Array Value) (hb : P.built t ps = some cells) (h : wpList P ops Q rest (a.put op.dst (.agg cells)) w) : wpList P ops Q (op :: rest) a w := by
  have e := parts_list xs ps hp
  refine wpList_build hgd t _ ho ?_ ?_
  · rw [e, hb]; rfl
  · rw [e, hb]; exact h
theorem exec_build_parts (t : TypeId) (xs : Array (Nat × Operand)) (ho : op.op = .build t xs) (ps : List (Nat × Value)) (hp : xs.toList.map (fun q => (q.1, a.eval q.2)) = ps) (cells : Array Value) (hb : P.built t ps = some cells) :
    (execOp a.eval op).run P w = .ok (.value (.agg cells)) w := by
  have e := parts_list xs ps hp
  unfold execOp
  simp only [ho, Sem.run_bind, run_build w t _ cells (by rw [e]; exact hb), Result.andThen_ok]
  rfl
end
end Go.Proofs.YtdkiopajilakcaaGreat
/- A literal slice of one struct, and append of such a slice to a row, at an operation of a region that draws its order. -/
namespace Go.Proofs.YtdkiopajilakcaaGreat
open Go.RowKit

section
variable {P : Program} {w : World} {op : Oper} {a : Act} {K : Act → World → Prop} {Q : Exit → Act → World → Prop}
theorem wp_buildSlice_one (t e : TypeId) (x : Operand) (ho : op.op = .buildSlice t 1 #[(0, x)]) (i : TypeInfo) (z : Value) (k : Nat) (ht : P.underlying t = some (.slice e)) (hi : P.info? e = some i) (hz : i.zero = some z) (hs : i.size = k) (hk : 0 < k) (hk2 : k ≤ 16777216)
    (cells : Array Value) (hx : a.eval x = .agg cells) (hc : cells.size = k)
    (h : K (a.put op.dst (.slice (some ⟨w.heap.size, 0, none⟩) 1 1)) (w.alloc (.cells cells e (0, 0)))) : op.wp P a w K Q := by
  have hr := run_buildSlice_one (P := P) (w := w) t e i z k ht hi hz hs hk hk2 cells hc
  unfold Oper.wp
  simp [execOp, ho, hx, hr, Result.andThen]
  exact h
/-- A literal slice of one struct is a slice of it, in a new block. -/
theorem flat_one (w : World) (e k : Nat) (cells : Array Value) (hc : cells.size = k) (h1 : ∀ u ∈ cells.toList, u.oneCell' = true) (F : Nat → Prop) (hF : F w.heap.size) :
    FlatAt F (w.alloc (.cells cells e (0, 0))) k (.slice (some ⟨w.heap.size, 0, none⟩) 1 1) 1 cells.toList := by
  have hb : (w.alloc (.cells cells e (0, 0))).heap[w.heap.size]? = some (.cells cells e (0, 0)) := heap_alloc_new _ _
  refine ⟨by simp [hc], h1, some ⟨w.heap.size, 0, none⟩, 1, rfl, Nat.le_refl _, by unfold maxLen; omega, (fun h => by cases h), fun _ => ⟨w.heap.size, 0, rfl, hF, lt_of_block hb, fun j u hj => ?_⟩⟩
  rw [cell_of_row _ _ _ _ _ _ hb, Nat.zero_add]
  simpa using hj
theorem wp_append_flat (s x : Operand) (t : TypeId)
    (ho : op.op = .call { callee := .builtin .append, args := #[s, x], argTypes := #[t, t] })
    (base : Nat) (e : TypeId) (i : TypeInfo) (z : Value) (k bytes : Nat) (ht : P.underlying t = some (.slice e)) (hi : P.info? e = some i) (hz : i.zero = some z)
    (hsize : i.size = k) (hby : i.bytes = bytes) (hzs : z.cells.size = k) (hk : 0 < k)
    (v : Value) (n : Nat) (xs : List Value) (hs : a.eval s = v) (hown : w.ownsRow base e k v n xs)
    (g c m : Nat) (ys : List Value) (hx : a.eval x = .slice (some ⟨g, 0, none⟩) m c) (F : Nat → Prop) (hl : FlatAt F w k (.slice (some ⟨g, 0, none⟩) m c) m ys) (hm : 0 < m) (hroom : n + m ≤ maxLen) (hbytes : (n + m) * bytes ≤ 140737488355328) (hbase : base ≤ w.heap.size)
    (h : ∀ v' w', w'.ownsRow base e k v' (n + m) (xs ++ ys) → w.grownBy w' v.ownBlock → (v'.ownBlock = v.ownBlock ∨ v'.ownBlock = some w.heap.size) → K (a.put op.dst v') w') : op.wp P a w K Q := by
  obtain ⟨hlen, h1, A', c', hv, h3, h4, h5, h6⟩ := hl
  obtain ⟨rfl, rfl⟩ : some ⟨g, 0, none⟩ = A' ∧ c = c' := by injection hv with e1 _ e3; exact ⟨e1, e3⟩
  obtain ⟨v', w', hr, h2, h3, _, h5⟩ := run_append_own_at (P := P) w base t op.type e i z k bytes ht hi hz hsize hby hzs hk v n xs hown ⟨g, 0, none⟩ m c ys hlen
      (fun j u hu => by
        obtain ⟨b, off, h, _, _, hr⟩ := h6 hm
        injection h with h
        injection h with e1 e2
        subst e1 e2
        rw [Addr.add_lit]
        exact hr j u hu) h1 hroom hbytes hbase
  unfold Oper.wp execOp
  simp only [ho, resolve, invoke, builtin, Sem.run_bind, Sem.run_pure, Result.andThen_ok, List.map_toArray, List.map_cons, List.map_nil, hs, hx, hr]
  exact h v' w' h2 h3 h5
end
end Go.Proofs.YtdkiopajilakcaaGreat
/- Commands and places in blocks of their own; wanted of package outbox. -/
namespace Go.Proofs.YtdkiopajilakcaaGreat
open Go.RowKit Go.Maps

def PBox (g : Nat) (p : PlD) (w : World) : Prop := w.heap[g]? = some (.cells p.cells.toArray 111 (0, 0))
def MBox (g : Nat) (c : ComD) (w : World) : Prop := w.heap[g]? = some (.cells c.cells.toArray 42 (0, 0))
theorem pl_put (x y : PlD) : putAt x.cells.toArray 0 y.cells = y.cells.toArray := by simp [putAt, PlD.cells]
theorem com_put (x y : ComD) : putAt x.cells.toArray 0 y.cells = y.cells.toArray := by simp [putAt, ComD.cells]
section
variable {w w' : World} {g : Nat} {p : PlD} {c : ComD}
theorem PBox.lt (h : PBox g p w) : g < w.heap.size := lt_of_block h
theorem PBox.below (h : PBox g p w) (hl : Later w w') : PBox g p w' := (Below.block hl g (lt_of_block h)).trans h
theorem PBox.other (h : PBox g p w) {r : Option Nat} (hg : w.grownBy w' r) (hr : some g ≠ r) : PBox g p w' := (hg.block g (lt_of_block h) hr).trans h
theorem PBox.cells (h : PBox g p w) : w.cell? ⟨g, 0, none⟩ = some (.int .i64 p.c.view) ∧ w.cell? ⟨g, 1, none⟩ = some (.int .i64 p.c.stub) ∧ w.cell? ⟨g, 2, none⟩ = some (.int .i64 p.c.saga) ∧ w.cell? ⟨g, 3, none⟩ = some (.int .i64 p.c.step) ∧ w.cell? ⟨g, 4, none⟩ = some (.int .i64 p.c.tr) ∧ w.cell? ⟨g, 5, none⟩ = some (.bool p.c.back) ∧ w.cell? ⟨g, 6, none⟩ = some (.int .i64 p.ticks) ∧ w.cell? ⟨g, 7, none⟩ = some (.int .i64 p.age) ∧ w.cell? ⟨g, 8, none⟩ = some (.bool p.told) ∧ ∀ i, w.frozen? ⟨g, i, none⟩ = false :=
  ⟨(cell_of_row w g 0 _ _ _ h).trans rfl, (cell_of_row w g 1 _ _ _ h).trans rfl, (cell_of_row w g 2 _ _ _ h).trans rfl, (cell_of_row w g 3 _ _ _ h).trans rfl, (cell_of_row w g 4 _ _ _ h).trans rfl, (cell_of_row w g 5 _ _ _ h).trans rfl, (cell_of_row w g 6 _ _ _ h).trans rfl, (cell_of_row w g 7 _ _ _ h).trans rfl, (cell_of_row w g 8 _ _ _ h).trans rfl, fun i => frozen_of_row w g i _ _ h⟩
theorem MBox.lt (h : MBox g c w) : g < w.heap.size := lt_of_block h
theorem MBox.below (h : MBox g c w) (hl : Later w w') : MBox g c w' := (Below.block hl g (lt_of_block h)).trans h
theorem MBox.other (h : MBox g c w) {r : Option Nat} (hg : w.grownBy w' r) (hr : some g ≠ r) : MBox g c w' := (hg.block g (lt_of_block h) hr).trans h
theorem MBox.cells (h : MBox g c w) : w.cell? ⟨g, 0, none⟩ = some (.int .i64 c.view) ∧ w.cell? ⟨g, 1, none⟩ = some (.int .i64 c.stub) ∧ w.cell? ⟨g, 2, none⟩ = some (.int .i64 c.saga) ∧ w.cell? ⟨g, 3, none⟩ = some (.int .i64 c.step) ∧ w.cell? ⟨g, 4, none⟩ = some (.int .i64 c.tr) ∧ w.cell? ⟨g, 5, none⟩ = some (.bool c.back) ∧ ∀ i, w.frozen? ⟨g, i, none⟩ = false :=
  ⟨(cell_of_row w g 0 _ _ _ h).trans rfl, (cell_of_row w g 1 _ _ _ h).trans rfl, (cell_of_row w g 2 _ _ _ h).trans rfl, (cell_of_row w g 3 _ _ _ h).trans rfl, (cell_of_row w g 4 _ _ _ h).trans rfl, (cell_of_row w g 5 _ _ _ h).trans rfl, fun i => frozen_of_row w g i _ _ h⟩
theorem MBox.tagged (h : MBox g c w) (v id : Int) : MBox g ⟨v, c.stub, id, c.step, c.tr, c.back⟩ ((w.setCell ⟨g, 2, none⟩ (.int .i64 id)).setCell ⟨g, 0, none⟩ (.int .i64 v)) := by
  have h2 : BlockAt 42 w g c.cells := h
  exact (h2.set 2 (.int .i64 id)).set 0 (.int .i64 v)
theorem PBox.aged (h : PBox g p w) (a : Int) : PBox g ⟨p.c, p.ticks, a, p.told⟩ (w.setCell ⟨g, 7, none⟩ (.int .i64 a)) := by
  have h2 : BlockAt 111 w g p.cells := h
  exact h2.set 7 (.int .i64 a)
theorem PBox.marked (h : PBox g p w) : PBox g p.tell (w.setCell ⟨g, 8, none⟩ (.bool true)) := by
  have h2 : BlockAt 111 w g p.cells := h
  exact h2.set 8 (.bool true)
end
section
variable {ops : Array Oper} {rest : List Oper} {op : Oper} {a : Act} {W : World} {Q : Exit → Act → World → Prop} {g : Nat} {p z : PlD} {c d : ComD}
theorem wpList_store_pl (hgd : op.guard = none) (x y : Operand) (ho : op.op = .store 111 x y) (hx : a.eval x = .pointer (some ⟨g, 0, none⟩)) (hg : PBox g z W) (hy : a.eval y = p.val)
    (h : ∀ w', PBox g p w' → W.grownBy w' (some g) → wpList Tryz.prog ops Q rest (a.put op.dst undef) w') : wpList Tryz.prog ops Q (op :: rest) a W :=
  wpList_store_box hgd 111 x y ho g 0 p.cells.toArray hx hy _ _ hg (by kernel_rfl) (by exact Nat.le_of_ble_eq_true rfl) (by exact p.one) (fun w' hb hg' => h w' (by rw [show p.cells.toArray.toList = p.cells from rfl, pl_put] at hb; exact hb) hg')
theorem exec_load_pl (x : Operand) (ho : op.op = .load 111 x) (hx : a.eval x = .pointer (some ⟨g, 0, none⟩)) (hg : PBox g p W) : (execOp a.eval op).run Tryz.prog W = .ok (.value p.val) W :=
  exec_load_box 111 x ho g 0 hx _ _ hg 9 _ Tryz.underlying111 (by rfl) (by kernel_rfl) p.cells (by rfl) (by rfl)
theorem exec_load_pcom (x : Operand) (ho : op.op = .load 42 x) (hx : a.eval x = .pointer (some ⟨g, 0, none⟩)) (hg : PBox g p W) : (execOp a.eval op).run Tryz.prog W = .ok (.value p.c.val) W :=
  exec_load_box 42 x ho g 0 hx _ _ hg 6 _ Tryz.underlying42 (by rfl) (by kernel_rfl) p.c.cells (by rfl) (by rfl)
theorem wpList_store_com (hgd : op.guard = none) (x y : Operand) (ho : op.op = .store 42 x y) (hx : a.eval x = .pointer (some ⟨g, 0, none⟩)) (hg : MBox g d W) (hy : a.eval y = c.val)
    (h : ∀ w', MBox g c w' → W.grownBy w' (some g) → wpList Tryz.prog ops Q rest (a.put op.dst undef) w') : wpList Tryz.prog ops Q (op :: rest) a W :=
  wpList_store_box hgd 42 x y ho g 0 c.cells.toArray hx hy _ _ hg (by kernel_rfl) (by exact Nat.le_of_ble_eq_true rfl) (by exact c.one) (fun w' hb hg' => h w' (by rw [show c.cells.toArray.toList = c.cells from rfl, com_put] at hb; exact hb) hg')
theorem exec_load_com (x : Operand) (ho : op.op = .load 42 x) (hx : a.eval x = .pointer (some ⟨g, 0, none⟩)) (hg : MBox g c W) : (execOp a.eval op).run Tryz.prog W = .ok (.value c.val) W :=
  exec_load_box 42 x ho g 0 hx _ _ hg 6 _ Tryz.underlying42 (by rfl) (by kernel_rfl) c.cells (by rfl) (by rfl)
end
section
variable {w : World} {g b k a : Nat} {v : Int} {B : List PlD} {F : Nat → Prop} {g2 b2 k2 : Nat} {most : Int} {t : BkS}
set_option maxHeartbeats 4000000 in
set_option maxRecDepth 100000 in
theorem wanted_any (h : BoxAt w g b k v a B) (hk : BookAt F w g2 b2 k2 most t) {x : Ent} (hx : entAt t.L x.id = some x) :
    Calls Tryz.prog 52 #[.pointer (some ⟨g, 0, none⟩), .pointer (some ⟨g2, 0, none⟩), .int .i64 x.id] w fun e w' => e = .returned (.tuple #[(newP v x).val, .bool (wantE x)]) ∧ Later w w' := by
  obtain ⟨W1, hW1⟩ : ∃ W1, W1 = w.alloc (.cells #[.int .i64 0, .int .i64 0, .int .i64 0, .int .i64 0, .int .i64 0, .bool false, .int .i64 0, .int .i64 0, .bool false] 111 (0, 0)) := ⟨_, rfl⟩
  obtain ⟨y, hy⟩ : ∃ y, y = w.heap.size := ⟨_, rfl⟩
  have Y1 : Hid (PBox y PlD.zero W1) := by rw [hW1, hy]; exact heap_alloc_new _ _
  have L1 : Hid (Later w W1) := by rw [hW1]; exact (Below.refl _ _).alloc (Nat.le_refl _) _
  have HY : Hid (w.heap.size ≤ y) := Nat.le_of_eq hy.symm
  obtain ⟨hok, hid62⟩ := hk.ok.2.1 x (entAt_mem hx).1
  have hid1 := hok.2.2.2
  have CS := hide (saga_any (hk.later L1.out) (id := x.id) ⟨by omega, by omega⟩)
  rw [show atS t x.id = x.s from by unfold atS; rw [hx], show atL t x.id = x.l from by unfold atL; rw [hx]] at CS
  have HK := hide hok
  have HB := hide h
  have HW1 := hide hW1.symm
  have HG := hide hy.symm
  obtain ⟨id, hid⟩ : ∃ id, x.id = id := ⟨_, rfl⟩
  have HID := hide hid
  have HNP : Hid (newP v x = ⟨⟨v, (wantsC x.l x.s).stub, id, (wantsC x.l x.s).step, (wantsC x.l x.s).tr, (wantsC x.l x.s).back⟩, wantsW x.l x.s, 0, false⟩) := by show _ = _; rw [← hid]; rfl
  rw [hid] at CS ⊢
  rw [HNP.out]
  obtain ⟨cm, hcm⟩ : ∃ cm, wantsC x.l x.s = cm := ⟨_, rfl⟩
  obtain ⟨cw, hcw⟩ : ∃ cw, wantsW x.l x.s = cw := ⟨_, rfl⟩
  obtain ⟨q, hq⟩ : ∃ q, wantE x = q := ⟨_, rfl⟩
  rw [hcm, hcw, hq]
  have HE : Hid (wantsC x.l x.s = cm ∧ wantsW x.l x.s = cw ∧ wantE x = q) := ⟨hcm, hcw, hq⟩
  clear h hk hx hW1 hy hok hid62 hid1 hid HNP hcm hcw hq
  go_enter Tryz.func52, Tryz.ntmps52
  go_wp2_with (fail)
  simp only [HW1.out, HG.out]
  refine CS.out.mono ?_
  rintro e w2 ⟨p, n, c, rfl, hs, hl2⟩
  obtain ⟨s2, hs2⟩ : ∃ s2, x.s.withV p n c = s2 := ⟨_, rfl⟩
  have hv : s2.v = .slice p n c := by rw [← hs2]; rfl
  rw [← hv] at hs
  have L2a : Later w W1 := L1.out
  have L2 : Hid (Later w w2) := Later.trans L2a hl2
  have Y2 : Hid (PBox y PlD.zero w2) := Y1.out.below hl2
  rw [hs2]
  have E2 : Hid (wantsC x.l s2 = cm ∧ wantsW x.l s2 = cw ∧ wantsB x.l s2 = q) := by show _ ∧ _; rw [← hs2]; exact HE.out
  have I2 : Hid (I64 s2.step) := by show I64 _; rw [← hs2]; have := HK.out.2.2.1; exact ⟨by show _ ≤ x.s.step; omega, by show x.s.step < _; omega⟩
  have T2 : Hid (SBox 72 w2.heap.size SagaD.zero (w2.alloc (.cells #[.string ⟨#[]⟩, .slice none 0 0, .int .i64 0, .int .i64 0, .int .i64 0, .bool false, .bool false, .bool false, .bool false, .bool false, .bool false, .bool false, .bool false] 72 (0, 0)))) := heap_alloc_new _ _
  have L2b : Hid (Later w2 (w2.alloc (.cells #[.string ⟨#[]⟩, .slice none 0 0, .int .i64 0, .int .i64 0, .int .i64 0, .bool false, .bool false, .bool false, .bool false, .bool false, .bool false, .bool false, .bool false] 72 (0, 0)))) := (Below.refl _ _).alloc (Nat.le_refl _) _
  have HS := hide hs
  clear hs hl2 CS L2a hv hs2
  go_wp2_with (refine wpList_store_saga (s := s2) (by rfl) _ _ (by rfl) (by rfl) T2.out (by rfl) ?_)
  intro w3 X3 G3
  have L3 : Hid (Later w2 w3) := L2b.out.grown G3 (by simp) (fun k hk => by have := Option.some.inj hk; omega)
  have HX3 := hide X3
  have CW := hide (wants_any (StepsAt.kept HS.out (Kept.of_below L3.out _)) HK.out.1 I2.out)
  unfold Wanted at CW
  obtain ⟨e1, e2, e3⟩ := E2.out
  rw [e1, e2, e3] at CW
  have Y3 : Hid (PBox y PlD.zero w3) := Y2.out.below L3.out
  clear X3 G3 e1 e2 e3
  go_wp2_with (refine wpList_load_saga (by rfl) _ (by rfl) (by rfl) HX3.out ?_)
  refine CW.out.mono ?_
  rintro e w4 ⟨rfl, hl4⟩
  have Y4 : Hid (PBox y PlD.zero w4) := Y3.out.below hl4
  have L4a : Later w w2 := L2.out
  have L4b : Later w2 w4 := Later.trans L3.out hl4
  have L4 : Hid (Later w w4) := Later.trans L4a L4b
  have T4 : Hid (MBox w4.heap.size ComD.zero (w4.alloc (.cells #[.int .i64 0, .int .i64 0, .int .i64 0, .int .i64 0, .int .i64 0, .bool false] 42 (0, 0)))) := heap_alloc_new _ _
  have LA4 : Hid (Later w4 (w4.alloc (.cells #[.int .i64 0, .int .i64 0, .int .i64 0, .int .i64 0, .int .i64 0, .bool false] 42 (0, 0)))) := (Below.refl _ _).alloc (Nat.le_refl _) _
  have HLT : Hid (y < w4.heap.size) := PBox.lt Y4.out
  clear hl4 L4a L4b CW
  go_wp2_with (refine wpList_store_com (c := ⟨0, cm.stub, 0, cm.step, cm.tr, cm.back⟩) (by rfl) _ _ (by rfl) (by rfl) T4.out (by rfl) ?_)
  intro w5 X5 G5
  have L45 : Hid (Later w4 w5) := LA4.out.grown G5 (by simp) (fun k hk => by have := Option.some.inj hk; omega)
  have Y5 : Hid (PBox y PlD.zero w5) := Y4.out.below L45.out
  have L5a : Later w w4 := L4.out
  have L5 : Hid (Later w w5) := Later.trans L5a L45.out
  have HX5 := hide X5
  obtain ⟨z, hz⟩ : ∃ z, w4.heap.size = z := ⟨_, rfl⟩
  rw [hz] at HX5 ⊢
  have HZ : Hid (y < z) := by show y < z; rw [← hz]; exact HLT.out
  have HZ0 : Hid (w.heap.size ≤ z) := by show _ ≤ z; rw [← hz]; exact Below.size L4.out
  have c0 := (HB.out.later L5.out).c0
  obtain ⟨k0, k1, k2, k3, k4, k5, kf⟩ := HX5.out.cells
  have hgz : Hid (g < z) := by have := HB.out.lt.1; have := HZ0.out; show g < z; omega
  clear X5 G5 L5a
  have hne1 : ¬ (g = z) := by have := hgz.out; omega
  have hne2 : ¬ (z = g) := by have := hgz.out; omega
  go_wp2
  go_region
  obtain ⟨w6, hw6⟩ : ∃ w6, w6 = ((w5.setCell ⟨z, 2, none⟩ (.int .i64 id)).setCell ⟨z, 0, none⟩ (.int .i64 v)).drew := ⟨_, rfl⟩
  have X6 : Hid (MBox z ⟨v, cm.stub, id, cm.step, cm.tr, cm.back⟩ w6) := by rw [hw6]; exact MBox.tagged HX5.out v id
  have G6 : w5.grownBy w6 (some z) := by rw [hw6]; exact grown_trans (grown_trans (grown_set w5 z 2 _) (grown_set _ z 0 _)) (grown_drewN _ _ 1)
  have Y6 : Hid (PBox y PlD.zero w6) := Y5.out.other G6 (fun e => by have := Option.some.inj e; have := HZ.out; omega)
  have L6 : Hid (Later w w6) := (show Later w w5 from L5.out).grown G6 (Below.size L5.out) (fun k hk => by have := Option.some.inj hk; have := HZ0.out; omega)
  rw [← hw6]
  clear c0 k0 k1 k2 k3 k4 k5 kf G6 hw6 hne1 hne2
  go_wp2_with (first
    | (refine wpList_val rfl (by rfl) (exec_load_com _ (by rfl) (by rfl) X6.out) ?_)
    | (refine wpList_build_parts (by rfl) 111 _ (by rfl) [(0, (ComD.mk v cm.stub id cm.step cm.tr cm.back).val), (1, .int .i64 cw)] (by rfl) (PlD.mk ⟨v, cm.stub, id, cm.step, cm.tr, cm.back⟩ cw 0 false).cells.toArray (by kernel_rfl) ?_)
    | (refine wpList_store_pl (p := ⟨⟨v, cm.stub, id, cm.step, cm.tr, cm.back⟩, cw, 0, false⟩) (by rfl) _ _ (by rfl) (by rfl) Y6.out (by rfl) ?_; intro w7 X7 G7))
  have HLF : Hid (Later w w7) := (show Later w w6 from L6.out).grown G7 (Below.size L6.out) (fun k hk => by have := Option.some.inj hk; have := HY.out; omega)
  refine bodyPost_ret (results_box2 Tryz.results52 _ _ y 111 _ _ (by rfl) X7 Tryz.underlying111 (by rfl) (by kernel_rfl) (.bool q) (by rfl)) (by rfl) ?_
  exact ⟨rfl, HLF.out⟩
end
end Go.Proofs.YtdkiopajilakcaaGreat
/- A saga is put into a book's map, or struck from it; makeRoom of package book. -/
namespace Go.Proofs.YtdkiopajilakcaaGreat
open Go.RowKit Go.Maps
theorem put_congr {V V' : Ent → Value} (id : Int) (v : DataW Value) (L : List Ent) (h : ∀ y ∈ L, y.id ≠ id → V y = V' y) :
    (mapD (L.map fun y => (y.id, V y))).put (.int .i64 id) v = (mapD (L.map fun y => (y.id, V' y))).put (.int .i64 id) v := by
  unfold mapD
  show DataW.map _ = DataW.map _
  congr 2
  induction L with
  | nil => rfl
  | cons y r ih =>
    have ih := ih (fun z hz => h z (by simp [hz]))
    simp only [List.map_cons]
    by_cases e : y.id = id
    · rw [List.filter_cons_of_neg (by simp [Lit.sameKey, e]), List.filter_cons_of_neg (by simp [Lit.sameKey, e])]
      exact ih
    · rw [List.filter_cons_of_pos (by simp [Lit.sameKey]; exact e), List.filter_cons_of_pos (by simp [Lit.sameKey]; exact e), ih, h y (by simp) e]
theorem rise_one {L : List Ent} (hr : RiseE L) {x y : Ent} (hx : x ∈ L) (hy : y ∈ L) (e : x.id = y.id) : x = y := by
  have hp := List.pairwise_iff_getElem.1 hr
  obtain ⟨i, hi, rfl⟩ := List.mem_iff_getElem.1 hx
  obtain ⟨j, hj, rfl⟩ := List.mem_iff_getElem.1 hy
  rcases Nat.lt_trichotomy i j with hlt | heq | hgt
  · have := hp i j hi hj hlt
    omega
  · subst heq
    rfl
  · have := hp j i hj hi hgt
    omega
/-- The steps of one saga lie elsewhere. -/
def setLoc (f : Int → Loc) (id : Int) (p : Option Addr) (n c : Nat) (i : Int) : Loc := if i = id then ⟨p, n, c⟩ else f i
section
variable {F : Nat → Prop} {w : World} {g b k : Nat} {most : Int} {t : BkS}
theorem BookAt.put {w' : World} {f : Int → Loc} {x : Ent} {p : Option Addr} {n c : Nat} (h : BookAt F w g b k most t) (hm : ∀ y ∈ t.L, StepsAt F w (f y.id).v y.l)
    (ho : w'.ownsMap Tryz.prog 3 heldR b (k + 1) ((mapD (t.L.map (pairE f))).put (.int .i64 x.id) (.held (x.s.withV p n c).val))) (ht : w.mapTurned w' b)
    (hs : StepsAt F w (.slice p n c) x.l) (hx : EntOk x) (hi : x.id ≤ 4611686018427387904) : BookAt F w' g b (k + 1) most ⟨t.last, putE x t.L⟩ := by
  have T : Turned (fun i => i = b) w w' := Turned.of_grown ht.grown (fun g e => (Option.some.inj e).symm)
  have hv : (x.s.withV p n c).val = x.val (setLoc f x.id p n c) := by unfold Ent.val Ent.sd setLoc; simp
  have e1 := put_congr (V := Ent.val f) (V' := Ent.val (setLoc f x.id p n c)) x.id (.held (x.val (setLoc f x.id p n c))) t.L (fun y _ hne => by
    unfold Ent.val Ent.sd setLoc
    rw [if_neg hne])
  have e2 := put_mapE (V := Ent.val (setLoc f x.id p n c)) x t.L h.ok.1
  have hk : Kept F w w' := T.kept fun i hf e => h.apart.2.2 (e ▸ hf)
  refine ⟨(T.block g h.lt.1 h.apart.1).trans h.cell, ⟨setLoc f x.id p n c, ?_, fun y hy => ?_⟩, ⟨putE_rise x h.ok.1, fun y hy => ?_, h.ok.2.2⟩, h.apart⟩
  · rw [hv] at ho
    have e3 : (mapD (t.L.map (pairE f))).put (.int .i64 x.id) (.held (x.val (setLoc f x.id p n c))) = mapD ((putE x t.L).map (pairE (setLoc f x.id p n c))) := e1.trans e2
    rw [e3] at ho
    exact ho
  · by_cases e : y.id = x.id
    · rcases mem_putE hy with rfl | hy2
      · unfold setLoc
        rw [if_pos rfl]
        exact hs.kept hk
      · have h1 := entAt_putE x h.ok.1
        have hy3 : y = x := rise_one (putE_rise x h.ok.1) hy (putE_mem x t.L) e
        subst hy3
        unfold setLoc
        rw [if_pos rfl]
        exact hs.kept hk
    · rcases mem_putE hy with rfl | hy2
      · exact absurd rfl e
      · unfold setLoc
        rw [if_neg e]
        exact (hm y hy2).kept hk
  · rcases mem_putE hy with rfl | hy
    · exact ⟨hx, hi⟩
    · exact h.ok.2.1 y hy
theorem dropE_pair (f : Int → Loc) (L : List Ent) (id : Int) : (dropE L id).map (pairE f) = (L.map (pairE f)).filter fun p => !(p.1 == id) := by
  unfold dropE
  rw [List.filter_map]
  rfl
theorem BookAt.drop {w' : World} {f : Int → Loc} {id : Int} (h : BookAt F w g b k most t) (hm : ∀ y ∈ t.L, StepsAt F w (f y.id).v y.l)
    (ho : w'.ownsMap Tryz.prog 3 heldR b k ((mapD (t.L.map (pairE f))).del (.int .i64 id))) (ht : w.mapTurned w' b) : BookAt F w' g b k most ⟨t.last, dropE t.L id⟩ := by
  have T : Turned (fun i => i = b) w w' := Turned.of_grown ht.grown (fun g e => (Option.some.inj e).symm)
  have hk : Kept F w w' := T.kept fun i hf e => h.apart.2.2 (e ▸ hf)
  rw [del_mapD, ← dropE_pair] at ho
  exact ⟨(T.block g h.lt.1 h.apart.1).trans h.cell, ⟨f, ho, fun y hy => (hm y (dropE_sub y hy)).kept hk⟩, ⟨dropE_rise id h.ok.1, fun y hy => h.ok.2.1 y (dropE_sub y hy), h.ok.2.2⟩, h.apart⟩
end
section
variable {P : Program} {w : World} {ops : Array Oper} {rest : List Oper} {o : Oper} {a : Act} {Q : Exit → Act → World → Prop}
/-- 'm[k]', at the operation. -/
theorem wpList_lookup_held1 (hg : o.guard = none) (m x : Operand) (t : TypeId) (hop : o.op = Op.lookup t m x false)
    (k e : TypeId) (K : Maps.Keyed P k) (ht : P.underlying t = some (.map k e)) (z : Value) (hz : (zeroValue e).run P w = .ok z w) (b n : Nat) (L : List (Int × Value))
    (hm : a.eval m = .map (some b)) (hown : w.ownsMap P k heldR b n (mapD L)) (key : Int) (hx : a.eval x = .int .i64 key) (hkey : keyOf P k (Value.int .i64 key) = some (Lit.int .i64 key))
    (v : Value) (ok : Bool) (hres : foundIn L z key = (v, ok)) (hK : wpList P ops Q rest (a.put o.dst v) w) : wpList P ops Q (o :: rest) a w := by
  refine wpList_plain hg fun K' hK' => ?_
  have hr := look_held false K ht hz hown hkey
  rw [hres] at hr
  unfold Oper.wp
  simp [execOp, hop, hm, hx, hr, Result.andThen]
  exact hK' _ _ hK
end
/-- The first that ended. -/
theorem roomF_few {L : List Ent} (h : L.length < 32) : roomF L = L := by unfold roomF; rw [if_pos h]
theorem roomF_at {L : List Ent} {i : Nat} {x : Ent} (h : 32 ≤ L.length) (hx : L[i]? = some x) (ho : x.isOpen = false) (hb : ∀ j y, j < i → L[j]? = some y → y.isOpen = true) : roomF L = dropE L x.id := by
  unfold roomF
  rw [if_neg (by omega)]
  have : L.find? (fun x => !x.isOpen) = some x := by
    rw [List.find?_eq_some_iff_getElem]
    obtain ⟨hi, e⟩ := List.getElem?_eq_some_iff.1 hx
    exact ⟨by simp [ho], i, hi, e, fun j hj => by
      have := hb j L[j] hj (List.getElem?_eq_getElem _)
      simp [this]⟩
  rw [this]
theorem roomF_all {L : List Ent} (hb : ∀ j y, j < L.length → L[j]? = some y → y.isOpen = true) : roomF L = L := by
  unfold roomF
  split
  · rfl
  · have : L.find? (fun x => !x.isOpen) = none := by
      rw [List.find?_eq_none]
      intro x hx
      obtain ⟨j, hj, e⟩ := List.mem_iff_getElem.1 hx
      have := hb j x hj (by rw [List.getElem?_eq_getElem hj, e])
      simp [this]
    rw [this]
section
variable {F : Nat → Prop} {w : World} {g b k : Nat} {most : Int} {t : BkS}
/-- The book without the saga that is forgotten. -/
def Roomy (F : Nat → Prop) (g b k : Nat) (most : Int) (t : BkS) (w : World) (e : Ending) (w' : World) : Prop := e = .returned (.tuple #[]) ∧ BookAt F w' g b k most ⟨t.last, roomF t.L⟩ ∧ Turned (fun i => i = b) w w'
theorem entAt_get {L : List Ent} (hr : RiseE L) {i : Nat} {x : Ent} (hx : L[i]? = some x) : entAt L x.id = some x := by
  unfold entAt
  rw [List.find?_eq_some_iff_getElem]
  obtain ⟨hi, e⟩ := List.getElem?_eq_some_iff.1 hx
  refine ⟨by simp, i, hi, e, fun j hj => ?_⟩
  have := List.pairwise_iff_getElem.1 hr j i (by omega) hi hj
  rw [e] at this
  simp
  omega
set_option maxHeartbeats 4000000 in
set_option maxRecDepth 100000 in
theorem room_few (h : BookAt F w g b k most t) (hl : t.L.length < 32) : Calls Tryz.prog 65 #[.pointer (some ⟨g, 0, none⟩)] w (Roomy F g b k most t w) := by
  obtain ⟨f, hm, _⟩ := h.body
  have HM := hide hm
  have H := hide h
  have c2 := h.c2
  have hsz : Maps.size (mapD (t.L.map (pairE f))) = t.L.length := by rw [size_mapD, List.length_map]
  obtain ⟨n, hn⟩ : ∃ n, t.L.length = n := ⟨_, rfl⟩
  rw [hn] at hsz hl
  have HSZ := hide hsz
  have HR := hide (roomF_few (L := t.L) (by omega))
  clear h hm hn hsz
  go_enter Tryz.func65, Tryz.ntmps65
  go_wp2_with (at_len; refine wpList_len_own _ rfl _ 88 rfl 3 72 Tryz.underlying88 _ b k _ rfl HM.out ?_; rw [HSZ.out])
  refine bodyPost_ret (results_none rfl _ _ _) rfl ?_
  exact ⟨rfl, by rw [HR.out]; exact H.out, Turned.refl _ _⟩
set_option maxHeartbeats 4000000 in
set_option maxRecDepth 100000 in
theorem room_many (h : BookAt F w g b k most t) (hl : 32 ≤ t.L.length) (hl6 : t.L.length ≤ 1000000) : Calls Tryz.prog 65 #[.pointer (some ⟨g, 0, none⟩)] w (Roomy F g b k most t w) := by
  obtain ⟨f, hm, hs⟩ := h.body
  have HM := hide hm
  have HS := hide hs
  have H := hide h
  have c2 := h.c2
  have hsz : Maps.size (mapD (t.L.map (pairE f))) = t.L.length := by rw [size_mapD, List.length_map]
  have C := hide (ids_any h hl6)
  have HLE : Hid ((idsOf t.L).length = t.L.length) := idsOf_len t.L
  obtain ⟨n, hn⟩ : ∃ n, t.L.length = n := ⟨_, rfl⟩
  rw [hn] at hsz hl hl6 HLE
  have HN := hide hn
  have HSZ := hide hsz
  clear h hm hs hn hsz
  go_enter Tryz.func65, Tryz.ntmps65
  go_wp2_with (at_len; refine wpList_len_own _ rfl _ 88 rfl 3 72 Tryz.underlying88 _ b k _ rfl HM.out ?_; rw [HSZ.out])
  refine C.out.mono ?_
  rintro e w1 ⟨A, m, c, rfl, hown, hI, hmc, hb1⟩
  have hmn : m = n := by
    have h1 : (idsOf t.L).length = m := hI.1
    have h2 := HLE.out
    omega
  subst hmn
  have HI := hide hI
  have L1 : Hid (Later w w1) := hb1
  clear hown hI hmc hb1 C
  go_wp2
  go_loopw [13] (fun i wr => ∃ q : Nat, q ≤ m ∧ i = .int .i64 (q : Int) ∧ (∀ j y, j < q → t.L[j]? = some y → y.isOpen = true) ∧ Later w1 wr) (fun i _ => m - (Go.RowKit.intOf i).toNat)
  case atStart => exact ⟨0, by omega, rfl, fun j y hj _ => by omega, Later.refl _⟩
  case round =>
    obtain ⟨q, hq, rfl, hop, hlr⟩ := hrel
    have HOP := hide hop
    have LR := hide hlr
    have LWa : Later w w1 := L1.out
    have LW : Hid (Later w wr) := Later.trans LWa hlr
    clear hop hlr LWa
    by_cases hqm : q < m
    · obtain ⟨x, hx⟩ : ∃ x, t.L[q]? = some x := ⟨t.L[q]'(by rw [HN.out]; exact hqm), List.getElem?_eq_getElem _⟩
      obtain ⟨B, off, rfl, hB, hc⟩ := HI.out.at_ hqm
      have hid : (idsOf t.L).getD q 0 = x.id := by simp [idsOf, List.getD, hx]
      rw [hid] at hc
      have hc2 : wr.cell? ⟨B, off + q, none⟩ = some (.int .i64 x.id) := (Below.cell LR.out (p := ⟨B, off + q, none⟩) hB).trans hc
      have HBr := H.out.later LW.out
      have d2 := HBr.c2
      have hok := HBr.ok.2.1 x (List.mem_of_getElem? hx)
      have hid64 : I64 x.id := ⟨by have := hok.1.2.2.2; omega, by have := hok.2; omega⟩
      have HKEY := hide (int_key hid64)
      have HM2 : Hid (wr.ownsMap Tryz.prog 3 heldR b k (mapD (t.L.map (pairE f)))) := HM.out.kept (later_grown LW.out) (by simp)
      have HR : Hid (foundIn (t.L.map (pairE f)) SagaD.zero.val x.id = ((x.sd f).val, true)) := by
        show _ = _
        rw [found_ent, entAt_get HBr.ok.1 hx]
      have CU := hide (under_any (w := wr) (x.sd f))
      have hso : (decide ((x.sd f).st = 1) || decide ((x.sd f).st = 2)) = x.isOpen := rfl
      rw [hso] at CU
      have HX := hide hx
      obtain ⟨id, hidd⟩ : ∃ id, x.id = id := ⟨_, rfl⟩
      rw [hidd] at hc2 HKEY HR
      obtain ⟨sv, hsv⟩ : ∃ sv, x.sd f = sv := ⟨_, rfl⟩
      rw [hsv] at HR CU
      have HB2 := hide HBr
      have HID := hide hidd
      clear hx hc hid HBr hok hid64 hso hidd hsv hB
      cases ho : x.isOpen with
      | true =>
        rw [ho] at CU
        have HO := hide ho
        clear ho
        go_wp2_with (at_lookup; refine wpList_lookup_held1 rfl _ _ 88 rfl 3 72 Tryz.int_law Tryz.underlying88 SagaD.zero.val (by kernel_rfl) b k _ rfl HM2.out id rfl HKEY.out _ true HR.out ?_)
        refine CU.out.mono ?_
        rintro e w2 ⟨rfl, hl2⟩
        have L2a : Later w1 wr := LR.out
        have L2 : Hid (Later w1 w2) := Later.trans L2a hl2
        clear hl2 L2a
        go_wp2
        go_roundw
        case rel => exact ⟨q + 1, by omega, by go_num, fun j y hj hy => by
          rcases Nat.lt_or_ge j q with h | h
          · exact HOP.out j y h hy
          · obtain rfl : j = q := by omega
            have e := hy.symm.trans HX.out
            obtain rfl := Option.some.inj e
            exact HO.out, L2.out⟩
        case measure => simp [Go.RowKit.intOf]; omega
      | false =>
        rw [ho] at CU
        have HR2 := hide (roomF_at (by rw [HN.out]; exact hl) HX.out ho HOP.out)
        clear ho
        go_wp2_with (at_lookup; refine wpList_lookup_held1 rfl _ _ 88 rfl 3 72 Tryz.int_law Tryz.underlying88 SagaD.zero.val (by kernel_rfl) b k _ rfl HM2.out id rfl HKEY.out _ true HR.out ?_)
        refine CU.out.mono ?_
        rintro e w2 ⟨rfl, hl2⟩
        have L2a : Later w wr := LW.out
        have L2 : Hid (Later w w2) := Later.trans L2a hl2
        have HB3 := hide (HB2.out.later hl2)
        have d3 := HB3.out.c2
        have HM3 : Hid (w2.ownsMap Tryz.prog 3 heldR b k (mapD (t.L.map (pairE f)))) := HM2.out.kept (later_grown hl2) (by simp)
        have HS3 : Hid (∀ y ∈ t.L, StepsAt F w2 (f y.id).v y.l) := fun y hy => StepsAt.kept (HS.out y hy) (Kept.of_below L2.out F)
        clear hl2 L2a
        go_wp2_with (at_delete; refine wpList_delete_own _ rfl _ _ 88 3 rfl 72 Tryz.int_law Tryz.underlying88 heldR b k (mapD (t.L.map (pairE f))) rfl HM3.out _ _ rfl HKEY.out ?_; intro w3 ho3 ht3)
        have E3 := HB3.out.drop HS3.out ho3 ht3
        rw [← HID.out, ← HR2.out] at E3
        refine bodyPost_ret (results_none rfl _ _ _) rfl ?_
        exact ⟨rfl, E3, (Turned.of_below L2.out _).trans (Turned.of_grown ht3.grown (fun k e => (Option.some.inj e).symm))⟩
    · obtain rfl : q = m := by omega
      have HR := hide (roomF_all (L := t.L) (fun j y hj hy => HOP.out j y (by rw [HN.out] at hj; exact hj) hy))
      go_wp2
      go_end0
      exact ⟨rfl, by rw [HR.out]; exact H.out.later LW.out, Turned.of_below LW.out _⟩
theorem room_any (h : BookAt F w g b k most t) (hl6 : t.L.length ≤ 1000000) : Calls Tryz.prog 65 #[.pointer (some ⟨g, 0, none⟩)] w (Roomy F g b k most t w) := by
  rcases Nat.lt_or_ge t.L.length 32 with hl | hl
  · exact room_few h hl
  · exact room_many h hl hl6
end
end Go.Proofs.YtdkiopajilakcaaGreat
/- A region whose order is open, of calls that turn but one part of memory beside operations that read another: as text Order, over whatever relation of worlds. -/
namespace Go.Proofs.YtdkiopajilakcaaGreat
open Go.RowKit

/-- A relation of worlds that goes on. -/
def Pre (R : World → World → Prop) : Prop := (∀ w, R w w) ∧ ∀ {a b c : World}, R a b → R b c → R a c
theorem pre_grown (r : Option Nat) : Pre (fun a b => a.grownBy b r) := ⟨fun w => World.grownBy.refl w r, fun h k => h.trans k⟩

section
variable {P : Program} {ops : Array Oper} {Q : Exit → Act → World → Prop} {md : Region.Mode} {R : World → World → Prop}

/-- Whatever order is picked from here on, and behind each operation the world is a later one. -/
def wpAnyR (R : World → World → Prop) (P : Program) (md : Region.Mode) (ops : Array Oper) (Q : Exit → Act → World → Prop) : Nat → Array Bool → Act → World → Prop
  | 0, listed, a, w => Region.ready md ops listed = [] ∧ Q .normal a w
  | fuel + 1, listed, a, w =>
    (Region.ready md ops listed = [] → Q .normal a w) ∧
    ∀ i ∈ Region.ready md ops listed, wpOp P ops Q i (fun a' w' => R w w' ∧ wpAnyR R P md ops Q fuel (listed.setIfInBounds i true) a' w') a w

theorem wpAny_of_R : ∀ (fuel : Nat) (listed : Array Bool) (a : Act) (w : World), wpAnyR R P md ops Q fuel listed a w → wpAny P md ops Q fuel listed a w
  | 0, _, _, _, h => h
  | fuel + 1, _, _, _, h => ⟨h.1, fun i hi => wpOp_mono (fun a' w' h' => wpAny_of_R fuel _ a' w' h'.2) (h.2 i hi)⟩

/-- What yields its value in all later worlds does so in those that are later than a later one. -/
theorem yields_rel {o : Oper} {v : Value} {a : Act} {w w' : World} (h : YieldsIf P ops (R w) o v a) (hR : Pre R) (hl : R w w') : YieldsIf P ops (R w') o v a :=
  h.imp (fun ⟨hw, hv⟩ => ⟨hw, fun u hu => hv u (hR.2 hl hu)⟩) id

/-- Such an operation, if it may come up, may come up at once. -/
theorem wpAnyR_first (hR : Pre R) {i : Nat} {oi : Oper} {v : Value} (hi : ops[i]? = some oi) (hsel : ∀ (j : Nat) (o : Oper) cs b, ops[j]? = some o → o.op ≠ .select cs b)
    (hQ : ∀ c a w, Q (.panic c) (a.put oi.dst v) w → Q (.panic c) a w) :
    ∀ (fuel : Nat) (listed : Array Bool) (a : Act) (w : World),
      (∀ j oj, ops[j]? = some oj → j ≠ i → listed.getD j true = false → (∀ e ∈ oj.after, Region.binds md e = true → e.on ≠ i) → oi.apart ops oj = true) →
      i ∈ Region.ready md ops listed → YieldsIf P ops (R w) oi v a →
      wpAnyR R P md ops Q fuel (listed.setIfInBounds i true) (a.put oi.dst v) w → wpAnyR R P md ops Q (fuel + 1) listed a w := by
  intro fuel
  induction fuel with
  | zero =>
    intro listed a w _ hr hy H
    refine ⟨fun h => (by rw [h] at hr; cases hr), fun j hj => ?_⟩
    by_cases hji : j = i
    · subst hji
      exact hy.wpOp hi (hR.1 w) ⟨hR.1 w, H⟩
    · have := ready_mono hj hji
      rw [H.1] at this
      cases this
  | succ fuel ih =>
    intro listed a w hfree hr hy H
    refine ⟨fun h => (by rw [h] at hr; cases hr), fun j hj => ?_⟩
    by_cases hji : j = i
    · subst hji
      exact hy.wpOp hi (hR.1 w) ⟨hR.1 w, H⟩
    · have h1 := H.2 j (ready_mono hj hji)
      obtain ⟨hjun, oj, hoj, hall⟩ := mem_ready.1 hj
      have hnot : ∀ e ∈ oj.after, Region.binds md e = true → e.on ≠ i := fun e he hb heq => by
        have q1 := hall e he hb
        have q0 := (mem_ready.1 hr).1
        rw [heq] at q1
        rcases Nat.lt_or_ge i listed.size with h' | h'
        · simp [h'] at q0 q1
          rw [q0] at q1
          cases q1
        · simp [Array.getElem?_eq_none h'] at q1
      have h2 := wpOp_putIf hoj (hfree j oj hoj hji hjun hnot) (fun cs b => hsel i oi cs b hi) (fun cs b => hsel j oj cs b hoj) hQ hy h1
      have hfree' : ∀ k ok, ops[k]? = some ok → k ≠ i → (listed.setIfInBounds j true).getD k true = false →
          (∀ e ∈ ok.after, Region.binds md e = true → e.on ≠ i) → oi.apart ops ok = true := fun k ok hk hki hun hno => by
        refine hfree k ok hk hki ?_ hno
        by_cases hjk : j = k
        · subst hjk; exact hjun
        · rw [getD_set_ne true hjk] at hun; exact hun
      refine wpOp_mono (fun a' w' h3 => ⟨h3.2.1, ih (listed.setIfInBounds j true) a' w' hfree' (ready_mono hr (Ne.symm hji)) (yields_rel h3.1 hR h3.2.1) ?_⟩) h2
      rw [Array.setIfInBounds_comm _ _ hji]
      exact h3.2.2

/-- The moves: an operation that may come up at once; the one that must; the end; the beginning. -/
theorem wpAnyR_take (hR : Pre R) {i : Nat} {oi : Oper} {d : Option Tmp} {v : Value} {fuel : Nat} {listed : Array Bool} {a : Act} {w : World} (hi : ops[i]? = some oi) (hd : oi.dst = d)
    (hs : Region.noSelect ops = true) (hf : Region.free md ops listed i = true) (hr : (Region.ready md ops listed).contains i = true)
    (hQ : ∀ c a w, Q (.panic c) (a.put d v) w → Q (.panic c) a w) (hw : Region.wanted oi (yielded ops a.tmps) = true) (hy : ∀ w', R w w' → (execOp a.eval oi).run P w' = .ok (.value v) w')
    (h : wpAnyR R P md ops Q fuel (listed.setIfInBounds i true) (a.put d v) w) : wpAnyR R P md ops Q (fuel + 1) listed a w := by
  subst hd
  exact wpAnyR_first hR hi (Region.noSelect_spec hs) hQ fuel listed a w (Region.free_spec hi hf) (by simpa using hr) (.inl ⟨hw, hy⟩) h

theorem wpAnyR_pass (hR : Pre R) {i : Nat} {oi : Oper} {d : Option Tmp} {fuel : Nat} {listed : Array Bool} {a : Act} {w : World} (hi : ops[i]? = some oi) (hd : oi.dst = d)
    (hs : Region.noSelect ops = true) (hf : Region.free md ops listed i = true) (hr : (Region.ready md ops listed).contains i = true)
    (hQ : ∀ c a w, Q (.panic c) (a.put d undef) w → Q (.panic c) a w) (hw : Region.wanted oi (yielded ops a.tmps) = false)
    (h : wpAnyR R P md ops Q fuel (listed.setIfInBounds i true) (a.put d undef) w) : wpAnyR R P md ops Q (fuel + 1) listed a w := by
  subst hd
  exact wpAnyR_first hR hi (Region.noSelect_spec hs) hQ fuel listed a w (Region.free_spec hi hf) (by simpa using hr) (.inr ⟨hw, rfl⟩) h

theorem wpAnyR_only {i : Nat} {o : Oper} {fuel : Nat} {listed : Array Bool} {a : Act} {w : World} (ho : ops[i]? = some o) (hr : Region.ready md ops listed = [i]) (hw : Region.wanted o (yielded ops a.tmps) = true)
    (h : ∀ K' : Act → World → Prop, Hid (∀ a' w', R w w' → wpAnyR R P md ops Q fuel (listed.setIfInBounds i true) a' w' → K' a' w') → Oper.wp P o a w K' Q) : wpAnyR R P md ops Q (fuel + 1) listed a w := by
  refine ⟨fun h0 => absurd (hr ▸ h0) (by simp), fun j hj => ?_⟩
  rw [hr] at hj
  obtain rfl : j = i := by simpa using hj
  refine wpOp_step ho fun K' hK => ?_
  rw [if_pos hw]
  exact h K' fun a' w' hl hn => hK a' w' ⟨hl, hn⟩

theorem wpAnyR_two {i j : Nat} {oi oj : Oper} {fuel : Nat} {listed : Array Bool} {a : Act} {w : World} (hoi : ops[i]? = some oi) (hoj : ops[j]? = some oj) (hr : Region.ready md ops listed = [i, j])
    (hwi : Region.wanted oi (yielded ops a.tmps) = true) (hwj : Region.wanted oj (yielded ops a.tmps) = true)
    (hi : ∀ K' : Act → World → Prop, Hid (∀ a' w', R w w' → wpAnyR R P md ops Q fuel (listed.setIfInBounds i true) a' w' → K' a' w') → Oper.wp P oi a w K' Q)
    (hj : ∀ K' : Act → World → Prop, Hid (∀ a' w', R w w' → wpAnyR R P md ops Q fuel (listed.setIfInBounds j true) a' w' → K' a' w') → Oper.wp P oj a w K' Q) : wpAnyR R P md ops Q (fuel + 1) listed a w := by
  refine ⟨fun h0 => absurd (hr ▸ h0) (by simp), fun k hk => ?_⟩
  rw [hr] at hk
  rcases List.mem_cons.1 hk with rfl | hk
  · refine wpOp_step hoi fun K' hK => ?_
    rw [if_pos hwi]
    exact hi K' fun a' w' hl hn => hK a' w' ⟨hl, hn⟩
  · obtain rfl : k = j := by simpa using hk
    refine wpOp_step hoj fun K' hK => ?_
    rw [if_pos hwj]
    exact hj K' fun a' w' hl hn => hK a' w' ⟨hl, hn⟩

theorem wpAnyR_done {listed : Array Bool} {a : Act} {w : World} (hr : Region.ready md ops listed = []) (h : Q .normal a w) : ∀ fuel, wpAnyR R P md ops Q fuel listed a w
  | 0 => ⟨hr, h⟩
  | _ + 1 => ⟨fun _ => h, by rw [hr]; simp⟩

theorem wp_region_R {id : Nat} {a : Act} {w : World} (hm : P.follows .mixedOrders = true)
    (h : wpAnyR R P .any ops Q ops.size (Array.replicate ops.size false) a w.drew) : (Code.region id ops true).wp P Q a w :=
  wp_region_any hm (wpAny_of_R _ _ _ _ h)
end

end Go.Proofs.YtdkiopajilakcaaGreat
/- What an event makes of a saga. -/
namespace Go.Proofs.YtdkiopajilakcaaGreat
open Go.RowKit
theorem tries_le {name : ByteArray} {l : List StepD} {k : Int} (h : (checkF name l).2 = 0) : triesN l k ≤ 10 := by
  by_cases hk : k < 1 ∨ (l.length : Int) < k
  · rw [triesN_no hk]; omega
  · obtain ⟨q, rfl⟩ : ∃ q : Nat, k = (q : Int) + 1 := ⟨(k - 1).toNat, by omega⟩
    have hq : q < l.length := by omega
    rw [triesN_at (List.getElem?_eq_getElem hq)]
    have hg := (check_good h).2.2.2 _ (List.getElem_mem hq)
    rw [tries_good hg]
    have := good_nums hg
    omega
/-- What a call says of a saga's next state, its steps in new memory, and whether it did something. -/
def Told (s : SagaD) (ok : Bool) (l : List StepD) (w : World) (e : Ending) (w' : World) : Prop := ∃ p n c, e = .returned (.tuple #[(s.withV p n c).val, .bool ok]) ∧ StepsAt (w.heap.size ≤ ·) w' (.slice p n c) l ∧ Later w w'
theorem hitN_v (s : SagaD) (b : Bool) : (s.hitN b).v = s.v := rfl
theorem nextS_v (l : List StepD) (s : SagaD) : (nextS l s).v = s.v := by unfold nextS; split <;> rfl
theorem downS_v (l : List StepD) (s : SagaD) : (downS l s).v = s.v := by unfold downS; split <;> rfl
theorem failsS_v (l : List StepD) (s : SagaD) : (failsS l s).v = s.v := by
  unfold failsS
  split
  · rfl
  · exact downS_v l s
theorem missedS_v (l : List StepD) (s : SagaD) : (missedS l s).v = s.v := by
  unfold missedS
  split
  · rfl
  · split
    · rfl
    · exact failsS_v l s
theorem reportE_v (l : List StepD) (s : SagaD) (back good : Bool) : (reportE l s back good).v = s.v := by
  unfold reportE
  split
  · split
    · rw [downS_v, hitN_v]
    · rw [nextS_v, hitN_v]
  · exact missedS_v l s
theorem lapseE_v (l : List StepD) (s : SagaD) : (lapseE l s).v = s.v := by unfold lapseE; rw [missedS_v, hitN_v]
section
variable {w : World}
set_option maxHeartbeats 4000000 in
theorem rep_bad {F : Nat → Prop} {s : SagaD} {l : List StepD} {pg pb : Nat} {back : Bool} (h : StepsAt F w s.v l) (hl : l.length ≤ 8) (hw : ∀ x ∈ l, x.wf) (p1 : 1 ≤ s.step) (p8 : s.step ≤ 8) (p2 : 0 ≤ s.tr) (p3 : s.tr ≤ 900) (hpg : pg < w.heap.size) (hpb : pb < w.heap.size) (hgd : w.cell? ⟨pg, 0, none⟩ = some (.bool false)) (hbk : w.cell? ⟨pb, 0, none⟩ = some (.bool back)) : Calls Tryz.prog 72 #[s.val, .pointer (some ⟨pg, 0, none⟩), .pointer (some ⟨pb, 0, none⟩)] w (Gives (missedS l s).val w) := by
  obtain ⟨W1, hW1⟩ : ∃ W1, W1 = (w.alloc (.cells s.cells.toArray 72 (0, 0))).alloc (.cells #[.string ⟨#[]⟩, .slice none 0 0, .int .i64 0, .int .i64 0, .int .i64 0, .bool false, .bool false, .bool false, .bool false, .bool false, .bool false, .bool false, .bool false] 72 (0, 0)) := ⟨_, rfl⟩
  obtain ⟨g, hg⟩ : ∃ g, g = w.heap.size := ⟨_, rfl⟩
  have X1 : Hid (SBox 72 g s W1) := by rw [hW1, hg]; exact (heap_alloc_old _ _ (by simp)).trans (heap_alloc_new _ _)
  have Y1 : Hid (SBox 72 (g + 1) SagaD.zero W1) := by rw [hW1, hg]; exact heap_second _ _ _
  have L1 : Hid (Later w W1) := by rw [hW1]; exact ((Below.refl _ _).alloc (Nat.le_refl _) _).alloc (by simp) _
  have HG0 : Hid (w.heap.size ≤ g) := Nat.le_of_eq hg.symm
  have C : Hid (∀ W, Later W1 W → Calls Tryz.prog 73 #[s.val] W (Gives (missedS l s).val W)) := fun W hW => missed_any (StepsAt.kept h (Kept.of_below (L1.out.trans hW) _)) (by omega) hw (by unfold I64; omega) p2 p3
  have hg1 := (Below.cell L1.out (p := ⟨pg, 0, none⟩) hpg).trans hgd
  have hb1 := (Below.cell L1.out (p := ⟨pb, 0, none⟩) hpb).trans hbk
  rw [hW1] at hg1 hb1
  clear hgd hbk
  have HW1 := hide hW1.symm
  have HG := hide hg.symm
  clear hW1 hg h hl p1 p8 hw p2 p3
  have xe := X1.out
  rw [← HW1.out, ← HG.out] at xe
  have XE := hide xe
  clear xe
  go_enter Tryz.func72, Tryz.ntmps72
  go_wp2_with (refine wpList_load_saga (by rfl) _ (by rfl) (by rfl) XE.out ?_; simp only [HW1.out, HG.out])
  refine (C.out _ (Later.refl _)).mono ?_
  rintro e w2 ⟨rfl, hl⟩
  have L12 := hide (hl)
  have L2 := hide (L1.out.trans hl)
  have Y2 := hide (Y1.out.below hl)
  clear hl
  go_wp2_with (first | (refine wpList_load_saga (by rfl) _ (by rfl) (by rfl) X1.out ?_) | (refine wpList_store_saga (by rfl) _ _ (by rfl) (by rfl) Y2.out (by rfl) ?_; intro w3 Z3 G3))
  have HLF : Hid (Later w _) := L2.out.grown G3 (Below.size L2.out) (fun k hk => by have := Option.some.inj hk; have := HG0.out; omega)
  refine bodyPost_ret (results_cell_row Tryz.results72 _ _ (g + 1) 72 _ (0, 0) _ (by rfl) Z3 Tryz.underlying72 (by rfl) (by kernel_rfl)) (by rfl) ?_
  exact ⟨rfl, HLF.out⟩
set_option maxHeartbeats 4000000 in
theorem rep_back {F : Nat → Prop} {s : SagaD} {l : List StepD} {pg pb : Nat} (h : StepsAt F w s.v l) (hl : l.length ≤ 8) (_hw : ∀ x ∈ l, x.wf) (p1 : 1 ≤ s.step) (p8 : s.step ≤ 8) (_p2 : 0 ≤ s.tr) (_p3 : s.tr ≤ 900) (hpg : pg < w.heap.size) (hpb : pb < w.heap.size) (hgd : w.cell? ⟨pg, 0, none⟩ = some (.bool true)) (hbk : w.cell? ⟨pb, 0, none⟩ = some (.bool true)) : Calls Tryz.prog 72 #[s.val, .pointer (some ⟨pg, 0, none⟩), .pointer (some ⟨pb, 0, none⟩)] w (Gives (downS l (s.hitN false)).val w) := by
  obtain ⟨W1, hW1⟩ : ∃ W1, W1 = (w.alloc (.cells s.cells.toArray 72 (0, 0))).alloc (.cells #[.string ⟨#[]⟩, .slice none 0 0, .int .i64 0, .int .i64 0, .int .i64 0, .bool false, .bool false, .bool false, .bool false, .bool false, .bool false, .bool false, .bool false] 72 (0, 0)) := ⟨_, rfl⟩
  obtain ⟨g, hg⟩ : ∃ g, g = w.heap.size := ⟨_, rfl⟩
  have X1 : Hid (SBox 72 g s W1) := by rw [hW1, hg]; exact (heap_alloc_old _ _ (by simp)).trans (heap_alloc_new _ _)
  have Y1 : Hid (SBox 72 (g + 1) SagaD.zero W1) := by rw [hW1, hg]; exact heap_second _ _ _
  have L1 : Hid (Later w W1) := by rw [hW1]; exact ((Below.refl _ _).alloc (Nat.le_refl _) _).alloc (by simp) _
  have HG0 : Hid (w.heap.size ≤ g) := Nat.le_of_eq hg.symm
  have C : Hid (∀ W, Later W1 W → Calls Tryz.prog 69 #[s.val, .bool false] W (Gives (s.hitN false).val W)) := fun W hW => hit_any s false p1 p8
  have C2 : Hid (∀ W, Later W1 W → Calls Tryz.prog 74 #[(s.hitN false).val] W (Gives (downS l (s.hitN false)).val W)) := fun W hW => downS_any (s := s.hitN false) (StepsAt.kept h (Kept.of_below (L1.out.trans hW) _)) (by omega) (by show I64 s.step; unfold I64; omega)
  have hg1 := (Below.cell L1.out (p := ⟨pg, 0, none⟩) hpg).trans hgd
  have hb1 := (Below.cell L1.out (p := ⟨pb, 0, none⟩) hpb).trans hbk
  rw [hW1] at hg1 hb1
  clear hgd hbk
  have HW1 := hide hW1.symm
  have HG := hide hg.symm
  clear hW1 hg h hl p1 p8
  have xe := X1.out
  rw [← HW1.out, ← HG.out] at xe
  have XE := hide xe
  clear xe
  go_enter Tryz.func72, Tryz.ntmps72
  go_wp2_with (refine wpList_load_saga (by rfl) _ (by rfl) (by rfl) XE.out ?_; simp only [HW1.out, HG.out])
  refine (C.out _ (Later.refl _)).mono ?_
  rintro e w2 ⟨rfl, hl⟩
  have L12 := hide (hl)
  have L2 := hide (L1.out.trans hl)
  have Y2 := hide (Y1.out.below hl)
  clear hl
  go_wp2_with (fail)
  refine (C2.out _ L12.out).mono ?_
  rintro e w3 ⟨rfl, hl⟩
  have L13 := hide (L12.out.trans hl)
  have L3 := hide (L2.out.trans hl)
  have Y3 := hide (Y2.out.below hl)
  clear hl
  go_wp2_with (first | (refine wpList_load_saga (by rfl) _ (by rfl) (by rfl) X1.out ?_) | (refine wpList_store_saga (by rfl) _ _ (by rfl) (by rfl) Y3.out (by rfl) ?_; intro w4 Z4 G4))
  have HLF : Hid (Later w _) := L3.out.grown G4 (Below.size L3.out) (fun k hk => by have := Option.some.inj hk; have := HG0.out; omega)
  refine bodyPost_ret (results_cell_row Tryz.results72 _ _ (g + 1) 72 _ (0, 0) _ (by rfl) Z4 Tryz.underlying72 (by rfl) (by kernel_rfl)) (by rfl) ?_
  exact ⟨rfl, HLF.out⟩
set_option maxHeartbeats 4000000 in
theorem rep_on {F : Nat → Prop} {s : SagaD} {l : List StepD} {pg pb : Nat} (h : StepsAt F w s.v l) (_hl : l.length ≤ 8) (_hw : ∀ x ∈ l, x.wf) (p1 : 1 ≤ s.step) (p8 : s.step ≤ 8) (_p2 : 0 ≤ s.tr) (_p3 : s.tr ≤ 900) (hpg : pg < w.heap.size) (hpb : pb < w.heap.size) (hgd : w.cell? ⟨pg, 0, none⟩ = some (.bool true)) (hbk : w.cell? ⟨pb, 0, none⟩ = some (.bool false)) : Calls Tryz.prog 72 #[s.val, .pointer (some ⟨pg, 0, none⟩), .pointer (some ⟨pb, 0, none⟩)] w (Gives (nextS l (s.hitN true)).val w) := by
  obtain ⟨W1, hW1⟩ : ∃ W1, W1 = (w.alloc (.cells s.cells.toArray 72 (0, 0))).alloc (.cells #[.string ⟨#[]⟩, .slice none 0 0, .int .i64 0, .int .i64 0, .int .i64 0, .bool false, .bool false, .bool false, .bool false, .bool false, .bool false, .bool false, .bool false] 72 (0, 0)) := ⟨_, rfl⟩
  obtain ⟨g, hg⟩ : ∃ g, g = w.heap.size := ⟨_, rfl⟩
  have X1 : Hid (SBox 72 g s W1) := by rw [hW1, hg]; exact (heap_alloc_old _ _ (by simp)).trans (heap_alloc_new _ _)
  have Y1 : Hid (SBox 72 (g + 1) SagaD.zero W1) := by rw [hW1, hg]; exact heap_second _ _ _
  have L1 : Hid (Later w W1) := by rw [hW1]; exact ((Below.refl _ _).alloc (Nat.le_refl _) _).alloc (by simp) _
  have HG0 : Hid (w.heap.size ≤ g) := Nat.le_of_eq hg.symm
  have C : Hid (∀ W, Later W1 W → Calls Tryz.prog 69 #[s.val, .bool true] W (Gives (s.hitN true).val W)) := fun W hW => hit_any s true p1 p8
  have C2 : Hid (∀ W, Later W1 W → Calls Tryz.prog 75 #[(s.hitN true).val] W (Gives (nextS l (s.hitN true)).val W)) := fun W hW => next_any (s := s.hitN true) (steps_n h) p1 p8
  have hg1 := (Below.cell L1.out (p := ⟨pg, 0, none⟩) hpg).trans hgd
  have hb1 := (Below.cell L1.out (p := ⟨pb, 0, none⟩) hpb).trans hbk
  rw [hW1] at hg1 hb1
  clear hgd hbk
  have HW1 := hide hW1.symm
  have HG := hide hg.symm
  clear hW1 hg h p1 p8
  have xe := X1.out
  rw [← HW1.out, ← HG.out] at xe
  have XE := hide xe
  clear xe
  go_enter Tryz.func72, Tryz.ntmps72
  go_wp2_with (refine wpList_load_saga (by rfl) _ (by rfl) (by rfl) XE.out ?_; simp only [HW1.out, HG.out])
  refine (C.out _ (Later.refl _)).mono ?_
  rintro e w2 ⟨rfl, hl⟩
  have L12 := hide (hl)
  have L2 := hide (L1.out.trans hl)
  have Y2 := hide (Y1.out.below hl)
  clear hl
  go_wp2_with (fail)
  refine (C2.out _ L12.out).mono ?_
  rintro e w3 ⟨rfl, hl⟩
  have L13 := hide (L12.out.trans hl)
  have L3 := hide (L2.out.trans hl)
  have Y3 := hide (Y2.out.below hl)
  clear hl
  go_wp2_with (first | (refine wpList_load_saga (by rfl) _ (by rfl) (by rfl) X1.out ?_) | (refine wpList_store_saga (by rfl) _ _ (by rfl) (by rfl) Y3.out (by rfl) ?_; intro w4 Z4 G4))
  have HLF : Hid (Later w _) := L3.out.grown G4 (Below.size L3.out) (fun k hk => by have := Option.some.inj hk; have := HG0.out; omega)
  refine bodyPost_ret (results_cell_row Tryz.results72 _ _ (g + 1) 72 _ (0, 0) _ (by rfl) Z4 Tryz.underlying72 (by rfl) (by kernel_rfl)) (by rfl) ?_
  exact ⟨rfl, HLF.out⟩
theorem rep_any {F : Nat → Prop} {s : SagaD} {l : List StepD} {pg pb : Nat} {good back : Bool} (h : StepsAt F w s.v l) (hl : l.length ≤ 8) (hw : ∀ x ∈ l, x.wf) (p1 : 1 ≤ s.step) (p8 : s.step ≤ 8) (p2 : 0 ≤ s.tr) (p3 : s.tr ≤ 900) (hpg : pg < w.heap.size) (hpb : pb < w.heap.size) (hgd : w.cell? ⟨pg, 0, none⟩ = some (.bool good)) (hbk : w.cell? ⟨pb, 0, none⟩ = some (.bool back)) : Calls Tryz.prog 72 #[s.val, .pointer (some ⟨pg, 0, none⟩), .pointer (some ⟨pb, 0, none⟩)] w (Gives (reportE l s back good).val w) := by
  cases good with
  | false => exact rep_bad h hl hw p1 p8 p2 p3 hpg hpb hgd hbk
  | true =>
    cases back with
    | true => exact rep_back h hl hw p1 p8 p2 p3 hpg hpb hgd hbk
    | false => exact rep_on h hl hw p1 p8 p2 p3 hpg hpb hgd hbk
set_option maxHeartbeats 4000000 in
theorem lap_any {F : Nat → Prop} {s : SagaD} {l : List StepD} (h : StepsAt F w s.v l) (hl : l.length ≤ 8) (hw : ∀ x ∈ l, x.wf) (p1 : 1 ≤ s.step) (p8 : s.step ≤ 8) (p2 : 0 ≤ s.tr) (p3 : s.tr ≤ 900) : Calls Tryz.prog 76 #[s.val] w (Gives (lapseE l s).val w) := by
  unfold lapseE
  obtain ⟨W1, hW1⟩ : ∃ W1, W1 = (w.alloc (.cells s.cells.toArray 72 (0, 0))).alloc (.cells #[.string ⟨#[]⟩, .slice none 0 0, .int .i64 0, .int .i64 0, .int .i64 0, .bool false, .bool false, .bool false, .bool false, .bool false, .bool false, .bool false, .bool false] 72 (0, 0)) := ⟨_, rfl⟩
  obtain ⟨g, hg⟩ : ∃ g, g = w.heap.size := ⟨_, rfl⟩
  have X1 : Hid (SBox 72 g s W1) := by rw [hW1, hg]; exact (heap_alloc_old _ _ (by simp)).trans (heap_alloc_new _ _)
  have Y1 : Hid (SBox 72 (g + 1) SagaD.zero W1) := by rw [hW1, hg]; exact heap_second _ _ _
  have L1 : Hid (Later w W1) := by rw [hW1]; exact ((Below.refl _ _).alloc (Nat.le_refl _) _).alloc (by simp) _
  have HG0 : Hid (w.heap.size ≤ g) := Nat.le_of_eq hg.symm
  have C : Hid (∀ W, Later W1 W → Calls Tryz.prog 69 #[s.val, .bool true] W (Gives (s.hitN true).val W)) := fun W hW => hit_any s true p1 p8
  have C2 : Hid (∀ W, Later W1 W → Calls Tryz.prog 73 #[(s.hitN true).val] W (Gives (missedS l (s.hitN true)).val W)) := fun W hW => missed_any (s := s.hitN true) (StepsAt.kept h (Kept.of_below (L1.out.trans hW) _)) (by omega) hw (by show I64 s.step; unfold I64; omega) p2 p3
  have HW1 := hide hW1.symm
  have HG := hide hg.symm
  clear hW1 hg h hl hw p1 p8 p2 p3
  have xe := X1.out
  rw [← HW1.out, ← HG.out] at xe
  have XE := hide xe
  clear xe
  go_enter Tryz.func76, Tryz.ntmps76
  go_wp2_with (refine wpList_load_saga (by rfl) _ (by rfl) (by rfl) XE.out ?_; simp only [HW1.out, HG.out])
  refine (C.out _ (Later.refl _)).mono ?_
  rintro e w2 ⟨rfl, hl⟩
  have L12 := hide (hl)
  have L2 := hide (L1.out.trans hl)
  have Y2 := hide (Y1.out.below hl)
  clear hl
  go_wp2_with (fail)
  refine (C2.out _ L12.out).mono ?_
  rintro e w3 ⟨rfl, hl⟩
  have L13 := hide (L12.out.trans hl)
  have L3 := hide (L2.out.trans hl)
  have Y3 := hide (Y2.out.below hl)
  clear hl
  go_wp2_with (first | (refine wpList_load_saga (by rfl) _ (by rfl) (by rfl) X1.out ?_) | (refine wpList_store_saga (by rfl) _ _ (by rfl) (by rfl) Y3.out (by rfl) ?_; intro w4 Z4 G4))
  have HLF : Hid (Later w _) := L3.out.grown G4 (Below.size L3.out) (fun k hk => by have := Option.some.inj hk; have := HG0.out; omega)
  refine bodyPost_ret (results_cell_row Tryz.results76 _ _ (g + 1) 72 _ (0, 0) _ (by rfl) Z4 Tryz.underlying72 (by rfl) (by kernel_rfl)) (by rfl) ?_
  exact ⟨rfl, HLF.out⟩
theorem own_kept {w w' : World} {v : Value} {l : List StepD} {b g : Nat} (h : StepsAt (b ≤ ·) w v l) (hb : g < b) (hg : w.grownBy w' (some g)) : StepsAt (b ≤ ·) w' v l :=
  StepsAt.kept h (Kept.of_grown hg (fun k hk hf => by have := Option.some.inj hk; omega))
set_option maxHeartbeats 4000000 in
theorem bl_none {F : Nat → Prop} {s : SagaD} {l : List StepD} {step tr : Int} {back : Bool}  (h : StepsAt F w s.v l) (hl6 : l.length ≤ 1000000) (hw : ∀ x ∈ l, x.wf) (h1 : I64 s.step) (hq : wantsB l s = false) : Calls Tryz.prog 71 #[s.val, .int .i64 step, .int .i64 tr, .bool back, .func (.func 76) #[] #[]] w (Told s false l w) := by
  obtain ⟨W1, hW1⟩ : ∃ W1, W1 = (w.alloc (.cells s.cells.toArray 72 (0, 0))).alloc (.cells #[.string ⟨#[]⟩, .slice none 0 0, .int .i64 0, .int .i64 0, .int .i64 0, .bool false, .bool false, .bool false, .bool false, .bool false, .bool false, .bool false, .bool false] 72 (0, 0)) := ⟨_, rfl⟩
  obtain ⟨g, hg⟩ : ∃ g, g = w.heap.size := ⟨_, rfl⟩
  have X1 : Hid (SBox 72 g s W1) := by rw [hW1, hg]; exact (heap_alloc_old _ _ (by simp)).trans (heap_alloc_new _ _)
  have Y1 : Hid (SBox 72 (g + 1) SagaD.zero W1) := by rw [hW1, hg]; exact heap_second _ _ _
  have L1 : Hid (Later w W1) := by rw [hW1]; exact ((Below.refl _ _).alloc (Nat.le_refl _) _).alloc (by simp) _
  have HG0 : Hid (w.heap.size ≤ g) := Nat.le_of_eq hg.symm
  have CW0 : Hid (∀ W, Later W1 W → Calls Tryz.prog 31 #[s.val] W (Wanted l s W)) := fun W hW => wants_any (StepsAt.kept h (Kept.of_below (L1.out.trans hW) _)) hw h1
  have CO : Hid (∀ W, Later W1 W → Calls Tryz.prog 66 #[s.val] W (Owns s l W)) := fun W hW => own_any (StepsAt.kept h (Kept.of_below (L1.out.trans hW) _)) hl6
  have CW : Hid (∀ W, Later W1 W → Calls Tryz.prog 31 #[s.val] W fun e w' => e = .returned (.tuple #[.agg #[.int .i64 0, .int .i64 0, .int .i64 0, .int .i64 0, .int .i64 0, .bool false], .int .i64 (wantsW l s), .bool false]) ∧ Later W w') := fun W hW => (CW0.out W hW).mono (fun e w' he => ⟨by rw [he.1]; unfold wantsC; rw [hq]; rfl, he.2⟩)
  obtain ⟨ticks, ht⟩ : ∃ t, wantsW l s = t := ⟨_, rfl⟩
  rw [ht] at CW
  have HW1 := hide hW1.symm
  have HG := hide hg.symm
  clear hW1 hg h hl6 hw h1 hq ht CW0
  have xe := X1.out
  rw [← HW1.out, ← HG.out] at xe
  have XE := hide xe
  clear xe
  go_enter Tryz.func71, Tryz.ntmps71
  go_wp2_with (refine wpList_load_saga (by rfl) _ (by rfl) (by rfl) XE.out ?_; simp only [HW1.out, HG.out])
  refine (CW.out _ (Later.refl _)).mono ?_
  rintro e w2 ⟨rfl, hl⟩
  have L12 := hide hl
  have L2 := hide (L1.out.trans hl)
  have X2 := hide (X1.out.below hl)
  have Y2 := hide (Y1.out.below hl)
  clear hl CW
  obtain ⟨w3, hw3⟩ : ∃ w3, w3 = w2.alloc (.cells #[.int .i64 0, .int .i64 0, .int .i64 0, .int .i64 0, .int .i64 0, .bool false] 42 (0, 0)) := ⟨_, rfl⟩
  obtain ⟨y, hy⟩ : ∃ y, y = w2.heap.size := ⟨_, rfl⟩
  have B3 : Hid (CBox y ⟨0, 0, 0, false⟩ w3) := by rw [hw3, hy]; exact heap_alloc_new w2 _
  have L23 : Hid (Later w2 w3) := by rw [hw3]; exact (Below.refl _ _).alloc (Nat.le_refl _) _
  have L13 := hide (L12.out.trans L23.out)
  have L3 := hide (L2.out.trans L23.out)
  have X3 := hide (X2.out.below L23.out)
  have Y3 := hide (Y2.out.below L23.out)
  obtain ⟨k0, k1, k2, k3, k4, k5, kf⟩ := B3.out.cells
  rw [hw3, hy] at k3 k4 k5
  have x3 := X3.out
  have y3 := Y3.out
  rw [hw3] at x3 y3
  have XR := hide x3
  have HW3 := hide hw3.symm
  have HY := hide hy.symm
  clear k0 k1 k2 kf hw3 hy x3 y3
  go_wp2_with (refine wpList_load_saga (by rfl) _ (by rfl) (by rfl) XR.out ?_; simp only [HW3.out, HY.out])
  refine (CO.out _ L13.out).mono ?_
  rintro e w4 ⟨P, N, K, rfl, hs, hl⟩
  have HS9 := hide hs
  have HLT := hide (Y3.out.lt)
  have L4 := hide (L3.out.trans hl)
  have HSZ := hide (Below.size L3.out)
  have Y4 := hide (Y3.out.below hl)
  clear hl hs
  go_wp2_with (first | (refine wpList_load_saga (by rfl) _ (by rfl) (by rfl) X3.out ?_) | (refine wpList_store_saga (by rfl) _ _ (by rfl) (by rfl) Y4.out (by rfl) ?_; intro w5 Z5 G5))
  have S9 : Hid (StepsAt (w.heap.size ≤ ·) w5 (.slice P N K) l) := FlatAt.mono (own_kept HS9.out HLT.out G5) (fun i _ hf => Nat.le_trans HSZ.out hf)
  have HLF : Hid (Later w _) := L4.out.grown G5 (Below.size L4.out) (fun k hk => by have := Option.some.inj hk; have := HG0.out; omega)
  refine bodyPost_ret (results_box2 Tryz.results71 _ _ (g + 1) 72 _ _ (by rfl) Z5 Tryz.underlying72 (by rfl) (by kernel_rfl) (.bool false) (by rfl)) (by rfl) ?_
  exact ⟨P, N, K, rfl, S9.out, HLF.out⟩
set_option maxHeartbeats 4000000 in
theorem bl_some {F : Nat → Prop} {s : SagaD} {l : List StepD} {step tr : Int} {back : Bool}  (h : StepsAt F w s.v l) (hl6 : l.length ≤ 1000000) (hw : ∀ x ∈ l, x.wf) (h1 : I64 s.step) (hl8 : l.length ≤ 8) (p1 : 1 ≤ s.step) (p8 : s.step ≤ 8) (p2 : 0 ≤ s.tr) (p3 : s.tr ≤ 900) (hq : wantsB l s = true) (Q : Bool) (hQ : isIt l s step tr back = Q) : Calls Tryz.prog 71 #[s.val, .int .i64 step, .int .i64 tr, .bool back, .func (.func 76) #[] #[]] w (Told (if Q then lapseE l s else s) Q l w) := by
  obtain ⟨W1, hW1⟩ : ∃ W1, W1 = (w.alloc (.cells s.cells.toArray 72 (0, 0))).alloc (.cells #[.string ⟨#[]⟩, .slice none 0 0, .int .i64 0, .int .i64 0, .int .i64 0, .bool false, .bool false, .bool false, .bool false, .bool false, .bool false, .bool false, .bool false] 72 (0, 0)) := ⟨_, rfl⟩
  obtain ⟨g, hg⟩ : ∃ g, g = w.heap.size := ⟨_, rfl⟩
  have X1 : Hid (SBox 72 g s W1) := by rw [hW1, hg]; exact (heap_alloc_old _ _ (by simp)).trans (heap_alloc_new _ _)
  have Y1 : Hid (SBox 72 (g + 1) SagaD.zero W1) := by rw [hW1, hg]; exact heap_second _ _ _
  have L1 : Hid (Later w W1) := by rw [hW1]; exact ((Below.refl _ _).alloc (Nat.le_refl _) _).alloc (by simp) _
  have HG0 : Hid (w.heap.size ≤ g) := Nat.le_of_eq hg.symm
  have CW0 : Hid (∀ W, Later W1 W → Calls Tryz.prog 31 #[s.val] W (Wanted l s W)) := fun W hW => wants_any (StepsAt.kept h (Kept.of_below (L1.out.trans hW) _)) hw h1
  have CO : Hid (∀ W, Later W1 W → Calls Tryz.prog 66 #[s.val] W (Owns s l W)) := fun W hW => own_any (StepsAt.kept h (Kept.of_below (L1.out.trans hW) _)) hl6
  obtain ⟨cs, hcs⟩ : ∃ c, (stepAt l s.step).stub = c := ⟨_, rfl⟩
  obtain ⟨ct, hct⟩ : ∃ c, s.step = c := ⟨_, rfl⟩
  obtain ⟨cr, hcr⟩ : ∃ c, s.tr = c := ⟨_, rfl⟩
  obtain ⟨cb, hcb⟩ : ∃ c, decide (s.st = 2) = c := ⟨_, rfl⟩
  have CW : Hid (∀ W, Later W1 W → Calls Tryz.prog 31 #[s.val] W fun e w' => e = .returned (.tuple #[.agg #[.int .i64 0, .int .i64 cs, .int .i64 0, .int .i64 ct, .int .i64 cr, .bool cb], .int .i64 (wantsW l s), .bool true]) ∧ Later W w') := fun W hW => (CW0.out W hW).mono (fun e w' he => ⟨by rw [he.1]; unfold wantsC; rw [hq, if_pos rfl, hcs, hct, hcr, hcb]; rfl, he.2⟩)
  obtain ⟨ticks, ht⟩ : ∃ t, wantsW l s = t := ⟨_, rfl⟩
  rw [ht] at CW
  have HQ : Hid (Q = (decide (ct = step) && (decide (cr = tr) && (cb == back)))) := by show _ = _; rw [← hQ]; unfold isIt; rw [hq, hct, hcr, hcb, Bool.true_and]
  obtain ⟨R, hR⟩ : ∃ R, (if Q then lapseE l s else s) = R := ⟨_, rfl⟩
  have HR : Hid (R = if Q then lapseE l s else s) := hR.symm
  rw [hR]
  have CE : Hid (∀ W, Later W1 W → Calls Tryz.prog 76 #[s.val] W (Gives (lapseE l s).val W)) := fun W hW => lap_any (StepsAt.kept h (Kept.of_below (L1.out.trans hW) _)) hl8 hw p1 p8 p2 p3
  have COE : Hid (∀ W, Later W1 W → Calls Tryz.prog 66 #[(lapseE l s).val] W (Owns (lapseE l s) l W)) := fun W hW => own_any (s := lapseE l s) (by rw [lapseE_v]; exact StepsAt.kept h (Kept.of_below (L1.out.trans hW) _)) hl6
  have HW1 := hide hW1.symm
  have HG := hide hg.symm
  clear hW1 hg h hl6 hw h1 hq hQ ht CW0 hR hcs hct hcr hcb p1 p8 p2 p3 hl8
  have xe := X1.out
  rw [← HW1.out, ← HG.out] at xe
  have XE := hide xe
  clear xe
  go_enter Tryz.func71, Tryz.ntmps71
  go_wp2_with (refine wpList_load_saga (by rfl) _ (by rfl) (by rfl) XE.out ?_; simp only [HW1.out, HG.out])
  refine (CW.out _ (Later.refl _)).mono ?_
  rintro e w2 ⟨rfl, hl⟩
  have L12 := hide hl
  have L2 := hide (L1.out.trans hl)
  have X2 := hide (X1.out.below hl)
  have Y2 := hide (Y1.out.below hl)
  clear hl CW
  obtain ⟨w3, hw3⟩ : ∃ w3, w3 = w2.alloc (.cells #[.int .i64 0, .int .i64 cs, .int .i64 0, .int .i64 ct, .int .i64 cr, .bool cb] 42 (0, 0)) := ⟨_, rfl⟩
  obtain ⟨y, hy⟩ : ∃ y, y = w2.heap.size := ⟨_, rfl⟩
  have B3 : Hid (CBox y ⟨cs, ct, cr, cb⟩ w3) := by rw [hw3, hy]; exact heap_alloc_new w2 _
  have L23 : Hid (Later w2 w3) := by rw [hw3]; exact (Below.refl _ _).alloc (Nat.le_refl _) _
  have L13 := hide (L12.out.trans L23.out)
  have L3 := hide (L2.out.trans L23.out)
  have X3 := hide (X2.out.below L23.out)
  have Y3 := hide (Y2.out.below L23.out)
  obtain ⟨k0, k1, k2, k3, k4, k5, kf⟩ := B3.out.cells
  rw [hw3, hy] at k3 k4 k5
  have x3 := X3.out
  have y3 := Y3.out
  rw [hw3] at x3 y3
  have XR := hide x3
  have HW3 := hide hw3.symm
  have HY := hide hy.symm
  clear k0 k1 k2 kf hw3 hy x3 y3
  by_cases g1 : ct = step
  · subst g1
    by_cases g2 : cr = tr
    · subst g2
      cases hcmp : (cb == back) with
      | true =>
        obtain rfl : back = cb := (show cb = back by simpa using hcmp).symm
        obtain rfl : Q = true := by rw [HQ.out]; simp
        obtain rfl : R = lapseE l s := by rw [HR.out]; rfl
        clear HQ HR hcmp
        go_wp2_with (refine wpList_load_saga (by rfl) _ (by rfl) (by rfl) XR.out ?_; simp only [HW3.out, HY.out])
        refine (CE.out _ L13.out).mono ?_
        rintro e w5 ⟨rfl, hl⟩
        have L15 := hide (L13.out.trans hl)
        have L5 := hide (L3.out.trans hl)
        have Y5 := hide (Y3.out.below hl)
        clear hl
        go_wp2_with (fail)
        refine (COE.out _ L15.out).mono ?_
        rintro e w6 ⟨P, N, K, rfl, hs, hl⟩
        have HS9 := hide hs
        have HLT := hide (Y5.out.lt)
        have L6 := hide (L5.out.trans hl)
        have HSZ := hide (Below.size L5.out)
        have Y6 := hide (Y5.out.below hl)
        clear hl hs
        go_wp2_with (first | (refine wpList_load_saga (by rfl) _ (by rfl) (by rfl) X3.out ?_) | (refine wpList_store_saga (by rfl) _ _ (by rfl) (by rfl) Y6.out (by rfl) ?_; intro w7 Z7 G7))
        have S9 : Hid (StepsAt (w.heap.size ≤ ·) w7 (.slice P N K) l) := FlatAt.mono (own_kept HS9.out HLT.out G7) (fun i _ hf => Nat.le_trans HSZ.out hf)
        have HLF : Hid (Later w _) := L6.out.grown G7 (Below.size L6.out) (fun k hk => by have := Option.some.inj hk; have := HG0.out; omega)
        refine bodyPost_ret (results_box2 Tryz.results71 _ _ (g + 1) 72 _ _ (by rfl) Z7 Tryz.underlying72 (by rfl) (by kernel_rfl) (.bool true) (by rfl)) (by rfl) ?_
        exact ⟨P, N, K, rfl, S9.out, HLF.out⟩

      | false =>
        have hne : (cb != back) = true := by cases cb <;> cases back <;> simp_all
        obtain rfl : Q = false := by rw [HQ.out]; simp [hcmp]
        obtain rfl : R = s := by rw [HR.out]; rfl
        clear HQ HR
        go_wp2_with (refine wpList_load_saga (by rfl) _ (by rfl) (by rfl) XR.out ?_; simp only [HW3.out, HY.out])
        refine (CO.out _ L13.out).mono ?_
        rintro e w4 ⟨P, N, K, rfl, hs, hl⟩
        have HS9 := hide hs
        have HLT := hide (Y3.out.lt)
        have L4 := hide (L3.out.trans hl)
        have HSZ := hide (Below.size L3.out)
        have Y4 := hide (Y3.out.below hl)
        clear hl hs
        go_wp2_with (first | (refine wpList_load_saga (by rfl) _ (by rfl) (by rfl) X3.out ?_) | (refine wpList_store_saga (by rfl) _ _ (by rfl) (by rfl) Y4.out (by rfl) ?_; intro w5 Z5 G5))
        have S9 : Hid (StepsAt (w.heap.size ≤ ·) w5 (.slice P N K) l) := FlatAt.mono (own_kept HS9.out HLT.out G5) (fun i _ hf => Nat.le_trans HSZ.out hf)
        have HLF : Hid (Later w _) := L4.out.grown G5 (Below.size L4.out) (fun k hk => by have := Option.some.inj hk; have := HG0.out; omega)
        refine bodyPost_ret (results_box2 Tryz.results71 _ _ (g + 1) 72 _ _ (by rfl) Z5 Tryz.underlying72 (by rfl) (by kernel_rfl) (.bool false) (by rfl)) (by rfl) ?_
        exact ⟨P, N, K, rfl, S9.out, HLF.out⟩

    · have hne : (cr != tr) = true := by simpa using g2
      obtain rfl : Q = false := by rw [HQ.out]; simp [g2]
      obtain rfl : R = s := by rw [HR.out]; rfl
      clear HQ HR
      go_wp2_with (refine wpList_load_saga (by rfl) _ (by rfl) (by rfl) XR.out ?_; simp only [HW3.out, HY.out])
      refine (CO.out _ L13.out).mono ?_
      rintro e w4 ⟨P, N, K, rfl, hs, hl⟩
      have HS9 := hide hs
      have HLT := hide (Y3.out.lt)
      have L4 := hide (L3.out.trans hl)
      have HSZ := hide (Below.size L3.out)
      have Y4 := hide (Y3.out.below hl)
      clear hl hs
      go_wp2_with (first | (refine wpList_load_saga (by rfl) _ (by rfl) (by rfl) X3.out ?_) | (refine wpList_store_saga (by rfl) _ _ (by rfl) (by rfl) Y4.out (by rfl) ?_; intro w5 Z5 G5))
      have S9 : Hid (StepsAt (w.heap.size ≤ ·) w5 (.slice P N K) l) := FlatAt.mono (own_kept HS9.out HLT.out G5) (fun i _ hf => Nat.le_trans HSZ.out hf)
      have HLF : Hid (Later w _) := L4.out.grown G5 (Below.size L4.out) (fun k hk => by have := Option.some.inj hk; have := HG0.out; omega)
      refine bodyPost_ret (results_box2 Tryz.results71 _ _ (g + 1) 72 _ _ (by rfl) Z5 Tryz.underlying72 (by rfl) (by kernel_rfl) (.bool false) (by rfl)) (by rfl) ?_
      exact ⟨P, N, K, rfl, S9.out, HLF.out⟩

  · have hne : (ct != step) = true := by simpa using g1
    obtain rfl : Q = false := by rw [HQ.out]; simp [g1]
    obtain rfl : R = s := by rw [HR.out]; rfl
    clear HQ HR
    go_wp2_with (refine wpList_load_saga (by rfl) _ (by rfl) (by rfl) XR.out ?_; simp only [HW3.out, HY.out])
    refine (CO.out _ L13.out).mono ?_
    rintro e w4 ⟨P, N, K, rfl, hs, hl⟩
    have HS9 := hide hs
    have HLT := hide (Y3.out.lt)
    have L4 := hide (L3.out.trans hl)
    have HSZ := hide (Below.size L3.out)
    have Y4 := hide (Y3.out.below hl)
    clear hl hs
    go_wp2_with (first | (refine wpList_load_saga (by rfl) _ (by rfl) (by rfl) X3.out ?_) | (refine wpList_store_saga (by rfl) _ _ (by rfl) (by rfl) Y4.out (by rfl) ?_; intro w5 Z5 G5))
    have S9 : Hid (StepsAt (w.heap.size ≤ ·) w5 (.slice P N K) l) := FlatAt.mono (own_kept HS9.out HLT.out G5) (fun i _ hf => Nat.le_trans HSZ.out hf)
    have HLF : Hid (Later w _) := L4.out.grown G5 (Below.size L4.out) (fun k hk => by have := Option.some.inj hk; have := HG0.out; omega)
    refine bodyPost_ret (results_box2 Tryz.results71 _ _ (g + 1) 72 _ _ (by rfl) Z5 Tryz.underlying72 (by rfl) (by kernel_rfl) (.bool false) (by rfl)) (by rfl) ?_
    exact ⟨P, N, K, rfl, S9.out, HLF.out⟩

set_option maxHeartbeats 4000000 in
theorem br_none {F : Nat → Prop} {s : SagaD} {l : List StepD} {step tr : Int} {back : Bool} {pg pb : Nat}  (h : StepsAt F w s.v l) (hl6 : l.length ≤ 1000000) (hw : ∀ x ∈ l, x.wf) (h1 : I64 s.step) (hq : wantsB l s = false) : Calls Tryz.prog 71 #[s.val, .int .i64 step, .int .i64 tr, .bool back, .func (.func 72) #[] #[.pointer (some ⟨pg, 0, none⟩), .pointer (some ⟨pb, 0, none⟩)]] w (Told s false l w) := by
  obtain ⟨W1, hW1⟩ : ∃ W1, W1 = (w.alloc (.cells s.cells.toArray 72 (0, 0))).alloc (.cells #[.string ⟨#[]⟩, .slice none 0 0, .int .i64 0, .int .i64 0, .int .i64 0, .bool false, .bool false, .bool false, .bool false, .bool false, .bool false, .bool false, .bool false] 72 (0, 0)) := ⟨_, rfl⟩
  obtain ⟨g, hg⟩ : ∃ g, g = w.heap.size := ⟨_, rfl⟩
  have X1 : Hid (SBox 72 g s W1) := by rw [hW1, hg]; exact (heap_alloc_old _ _ (by simp)).trans (heap_alloc_new _ _)
  have Y1 : Hid (SBox 72 (g + 1) SagaD.zero W1) := by rw [hW1, hg]; exact heap_second _ _ _
  have L1 : Hid (Later w W1) := by rw [hW1]; exact ((Below.refl _ _).alloc (Nat.le_refl _) _).alloc (by simp) _
  have HG0 : Hid (w.heap.size ≤ g) := Nat.le_of_eq hg.symm
  have CW0 : Hid (∀ W, Later W1 W → Calls Tryz.prog 31 #[s.val] W (Wanted l s W)) := fun W hW => wants_any (StepsAt.kept h (Kept.of_below (L1.out.trans hW) _)) hw h1
  have CO : Hid (∀ W, Later W1 W → Calls Tryz.prog 66 #[s.val] W (Owns s l W)) := fun W hW => own_any (StepsAt.kept h (Kept.of_below (L1.out.trans hW) _)) hl6
  have CW : Hid (∀ W, Later W1 W → Calls Tryz.prog 31 #[s.val] W fun e w' => e = .returned (.tuple #[.agg #[.int .i64 0, .int .i64 0, .int .i64 0, .int .i64 0, .int .i64 0, .bool false], .int .i64 (wantsW l s), .bool false]) ∧ Later W w') := fun W hW => (CW0.out W hW).mono (fun e w' he => ⟨by rw [he.1]; unfold wantsC; rw [hq]; rfl, he.2⟩)
  obtain ⟨ticks, ht⟩ : ∃ t, wantsW l s = t := ⟨_, rfl⟩
  rw [ht] at CW
  have HW1 := hide hW1.symm
  have HG := hide hg.symm
  clear hW1 hg h hl6 hw h1 hq ht CW0
  have xe := X1.out
  rw [← HW1.out, ← HG.out] at xe
  have XE := hide xe
  clear xe
  go_enter Tryz.func71, Tryz.ntmps71
  go_wp2_with (refine wpList_load_saga (by rfl) _ (by rfl) (by rfl) XE.out ?_; simp only [HW1.out, HG.out])
  refine (CW.out _ (Later.refl _)).mono ?_
  rintro e w2 ⟨rfl, hl⟩
  have L12 := hide hl
  have L2 := hide (L1.out.trans hl)
  have X2 := hide (X1.out.below hl)
  have Y2 := hide (Y1.out.below hl)
  clear hl CW
  obtain ⟨w3, hw3⟩ : ∃ w3, w3 = w2.alloc (.cells #[.int .i64 0, .int .i64 0, .int .i64 0, .int .i64 0, .int .i64 0, .bool false] 42 (0, 0)) := ⟨_, rfl⟩
  obtain ⟨y, hy⟩ : ∃ y, y = w2.heap.size := ⟨_, rfl⟩
  have B3 : Hid (CBox y ⟨0, 0, 0, false⟩ w3) := by rw [hw3, hy]; exact heap_alloc_new w2 _
  have L23 : Hid (Later w2 w3) := by rw [hw3]; exact (Below.refl _ _).alloc (Nat.le_refl _) _
  have L13 := hide (L12.out.trans L23.out)
  have L3 := hide (L2.out.trans L23.out)
  have X3 := hide (X2.out.below L23.out)
  have Y3 := hide (Y2.out.below L23.out)
  obtain ⟨k0, k1, k2, k3, k4, k5, kf⟩ := B3.out.cells
  rw [hw3, hy] at k3 k4 k5
  have x3 := X3.out
  have y3 := Y3.out
  rw [hw3] at x3 y3
  have XR := hide x3
  have HW3 := hide hw3.symm
  have HY := hide hy.symm
  clear k0 k1 k2 kf hw3 hy x3 y3
  go_wp2_with (refine wpList_load_saga (by rfl) _ (by rfl) (by rfl) XR.out ?_; simp only [HW3.out, HY.out])
  refine (CO.out _ L13.out).mono ?_
  rintro e w4 ⟨P, N, K, rfl, hs, hl⟩
  have HS9 := hide hs
  have HLT := hide (Y3.out.lt)
  have L4 := hide (L3.out.trans hl)
  have HSZ := hide (Below.size L3.out)
  have Y4 := hide (Y3.out.below hl)
  clear hl hs
  go_wp2_with (first | (refine wpList_load_saga (by rfl) _ (by rfl) (by rfl) X3.out ?_) | (refine wpList_store_saga (by rfl) _ _ (by rfl) (by rfl) Y4.out (by rfl) ?_; intro w5 Z5 G5))
  have S9 : Hid (StepsAt (w.heap.size ≤ ·) w5 (.slice P N K) l) := FlatAt.mono (own_kept HS9.out HLT.out G5) (fun i _ hf => Nat.le_trans HSZ.out hf)
  have HLF : Hid (Later w _) := L4.out.grown G5 (Below.size L4.out) (fun k hk => by have := Option.some.inj hk; have := HG0.out; omega)
  refine bodyPost_ret (results_box2 Tryz.results71 _ _ (g + 1) 72 _ _ (by rfl) Z5 Tryz.underlying72 (by rfl) (by kernel_rfl) (.bool false) (by rfl)) (by rfl) ?_
  exact ⟨P, N, K, rfl, S9.out, HLF.out⟩
set_option maxHeartbeats 4000000 in
theorem br_some {F : Nat → Prop} {s : SagaD} {l : List StepD} {step tr : Int} {back : Bool} {pg pb : Nat} {good : Bool} (h : StepsAt F w s.v l) (hl6 : l.length ≤ 1000000) (hw : ∀ x ∈ l, x.wf) (h1 : I64 s.step) (hl8 : l.length ≤ 8) (p1 : 1 ≤ s.step) (p8 : s.step ≤ 8) (p2 : 0 ≤ s.tr) (p3 : s.tr ≤ 900) (hpg : pg < w.heap.size) (hpb : pb < w.heap.size) (hgd : w.cell? ⟨pg, 0, none⟩ = some (.bool good)) (hbk : w.cell? ⟨pb, 0, none⟩ = some (.bool back)) (hq : wantsB l s = true) (Q : Bool) (hQ : isIt l s step tr back = Q) : Calls Tryz.prog 71 #[s.val, .int .i64 step, .int .i64 tr, .bool back, .func (.func 72) #[] #[.pointer (some ⟨pg, 0, none⟩), .pointer (some ⟨pb, 0, none⟩)]] w (Told (if Q then reportE l s back good else s) Q l w) := by
  obtain ⟨W1, hW1⟩ : ∃ W1, W1 = (w.alloc (.cells s.cells.toArray 72 (0, 0))).alloc (.cells #[.string ⟨#[]⟩, .slice none 0 0, .int .i64 0, .int .i64 0, .int .i64 0, .bool false, .bool false, .bool false, .bool false, .bool false, .bool false, .bool false, .bool false] 72 (0, 0)) := ⟨_, rfl⟩
  obtain ⟨g, hg⟩ : ∃ g, g = w.heap.size := ⟨_, rfl⟩
  have X1 : Hid (SBox 72 g s W1) := by rw [hW1, hg]; exact (heap_alloc_old _ _ (by simp)).trans (heap_alloc_new _ _)
  have Y1 : Hid (SBox 72 (g + 1) SagaD.zero W1) := by rw [hW1, hg]; exact heap_second _ _ _
  have L1 : Hid (Later w W1) := by rw [hW1]; exact ((Below.refl _ _).alloc (Nat.le_refl _) _).alloc (by simp) _
  have HG0 : Hid (w.heap.size ≤ g) := Nat.le_of_eq hg.symm
  have CW0 : Hid (∀ W, Later W1 W → Calls Tryz.prog 31 #[s.val] W (Wanted l s W)) := fun W hW => wants_any (StepsAt.kept h (Kept.of_below (L1.out.trans hW) _)) hw h1
  have CO : Hid (∀ W, Later W1 W → Calls Tryz.prog 66 #[s.val] W (Owns s l W)) := fun W hW => own_any (StepsAt.kept h (Kept.of_below (L1.out.trans hW) _)) hl6
  obtain ⟨cs, hcs⟩ : ∃ c, (stepAt l s.step).stub = c := ⟨_, rfl⟩
  obtain ⟨ct, hct⟩ : ∃ c, s.step = c := ⟨_, rfl⟩
  obtain ⟨cr, hcr⟩ : ∃ c, s.tr = c := ⟨_, rfl⟩
  obtain ⟨cb, hcb⟩ : ∃ c, decide (s.st = 2) = c := ⟨_, rfl⟩
  have CW : Hid (∀ W, Later W1 W → Calls Tryz.prog 31 #[s.val] W fun e w' => e = .returned (.tuple #[.agg #[.int .i64 0, .int .i64 cs, .int .i64 0, .int .i64 ct, .int .i64 cr, .bool cb], .int .i64 (wantsW l s), .bool true]) ∧ Later W w') := fun W hW => (CW0.out W hW).mono (fun e w' he => ⟨by rw [he.1]; unfold wantsC; rw [hq, if_pos rfl, hcs, hct, hcr, hcb]; rfl, he.2⟩)
  obtain ⟨ticks, ht⟩ : ∃ t, wantsW l s = t := ⟨_, rfl⟩
  rw [ht] at CW
  have HQ : Hid (Q = (decide (ct = step) && (decide (cr = tr) && (cb == back)))) := by show _ = _; rw [← hQ]; unfold isIt; rw [hq, hct, hcr, hcb, Bool.true_and]
  obtain ⟨R, hR⟩ : ∃ R, (if Q then reportE l s back good else s) = R := ⟨_, rfl⟩
  have HR : Hid (R = if Q then reportE l s back good else s) := hR.symm
  rw [hR]
  have CE : Hid (∀ W, Later W1 W → Calls Tryz.prog 72 #[s.val, .pointer (some ⟨pg, 0, none⟩), .pointer (some ⟨pb, 0, none⟩)] W (Gives (reportE l s back good).val W)) := fun W hW => rep_any (StepsAt.kept h (Kept.of_below (L1.out.trans hW) _)) hl8 hw p1 p8 p2 p3 (Nat.lt_of_lt_of_le hpg (Below.size (L1.out.trans hW))) (Nat.lt_of_lt_of_le hpb (Below.size (L1.out.trans hW))) ((Below.cell (L1.out.trans hW) (p := ⟨pg, 0, none⟩) hpg).trans hgd) ((Below.cell (L1.out.trans hW) (p := ⟨pb, 0, none⟩) hpb).trans hbk)
  have COE : Hid (∀ W, Later W1 W → Calls Tryz.prog 66 #[(reportE l s back good).val] W (Owns (reportE l s back good) l W)) := fun W hW => own_any (s := reportE l s back good) (by rw [reportE_v]; exact StepsAt.kept h (Kept.of_below (L1.out.trans hW) _)) hl6
  have HW1 := hide hW1.symm
  have HG := hide hg.symm
  clear hW1 hg h hl6 hw h1 hq hQ ht CW0 hR hcs hct hcr hcb p1 p8 p2 p3 hl8 hpg hpb hgd hbk
  have xe := X1.out
  rw [← HW1.out, ← HG.out] at xe
  have XE := hide xe
  clear xe
  go_enter Tryz.func71, Tryz.ntmps71
  go_wp2_with (refine wpList_load_saga (by rfl) _ (by rfl) (by rfl) XE.out ?_; simp only [HW1.out, HG.out])
  refine (CW.out _ (Later.refl _)).mono ?_
  rintro e w2 ⟨rfl, hl⟩
  have L12 := hide hl
  have L2 := hide (L1.out.trans hl)
  have X2 := hide (X1.out.below hl)
  have Y2 := hide (Y1.out.below hl)
  clear hl CW
  obtain ⟨w3, hw3⟩ : ∃ w3, w3 = w2.alloc (.cells #[.int .i64 0, .int .i64 cs, .int .i64 0, .int .i64 ct, .int .i64 cr, .bool cb] 42 (0, 0)) := ⟨_, rfl⟩
  obtain ⟨y, hy⟩ : ∃ y, y = w2.heap.size := ⟨_, rfl⟩
  have B3 : Hid (CBox y ⟨cs, ct, cr, cb⟩ w3) := by rw [hw3, hy]; exact heap_alloc_new w2 _
  have L23 : Hid (Later w2 w3) := by rw [hw3]; exact (Below.refl _ _).alloc (Nat.le_refl _) _
  have L13 := hide (L12.out.trans L23.out)
  have L3 := hide (L2.out.trans L23.out)
  have X3 := hide (X2.out.below L23.out)
  have Y3 := hide (Y2.out.below L23.out)
  obtain ⟨k0, k1, k2, k3, k4, k5, kf⟩ := B3.out.cells
  rw [hw3, hy] at k3 k4 k5
  have x3 := X3.out
  have y3 := Y3.out
  rw [hw3] at x3 y3
  have XR := hide x3
  have HW3 := hide hw3.symm
  have HY := hide hy.symm
  clear k0 k1 k2 kf hw3 hy x3 y3
  by_cases g1 : ct = step
  · subst g1
    by_cases g2 : cr = tr
    · subst g2
      cases hcmp : (cb == back) with
      | true =>
        obtain rfl : back = cb := (show cb = back by simpa using hcmp).symm
        obtain rfl : Q = true := by rw [HQ.out]; simp
        obtain rfl : R = reportE l s back good := by rw [HR.out]; rfl
        clear HQ HR hcmp
        go_wp2_with (refine wpList_load_saga (by rfl) _ (by rfl) (by rfl) XR.out ?_; simp only [HW3.out, HY.out])
        refine (CE.out _ L13.out).mono ?_
        rintro e w5 ⟨rfl, hl⟩
        have L15 := hide (L13.out.trans hl)
        have L5 := hide (L3.out.trans hl)
        have Y5 := hide (Y3.out.below hl)
        clear hl
        go_wp2_with (fail)
        refine (COE.out _ L15.out).mono ?_
        rintro e w6 ⟨P, N, K, rfl, hs, hl⟩
        have HS9 := hide hs
        have HLT := hide (Y5.out.lt)
        have L6 := hide (L5.out.trans hl)
        have HSZ := hide (Below.size L5.out)
        have Y6 := hide (Y5.out.below hl)
        clear hl hs
        go_wp2_with (first | (refine wpList_load_saga (by rfl) _ (by rfl) (by rfl) X3.out ?_) | (refine wpList_store_saga (by rfl) _ _ (by rfl) (by rfl) Y6.out (by rfl) ?_; intro w7 Z7 G7))
        have S9 : Hid (StepsAt (w.heap.size ≤ ·) w7 (.slice P N K) l) := FlatAt.mono (own_kept HS9.out HLT.out G7) (fun i _ hf => Nat.le_trans HSZ.out hf)
        have HLF : Hid (Later w _) := L6.out.grown G7 (Below.size L6.out) (fun k hk => by have := Option.some.inj hk; have := HG0.out; omega)
        refine bodyPost_ret (results_box2 Tryz.results71 _ _ (g + 1) 72 _ _ (by rfl) Z7 Tryz.underlying72 (by rfl) (by kernel_rfl) (.bool true) (by rfl)) (by rfl) ?_
        exact ⟨P, N, K, rfl, S9.out, HLF.out⟩

      | false =>
        have hne : (cb != back) = true := by cases cb <;> cases back <;> simp_all
        obtain rfl : Q = false := by rw [HQ.out]; simp [hcmp]
        obtain rfl : R = s := by rw [HR.out]; rfl
        clear HQ HR
        go_wp2_with (refine wpList_load_saga (by rfl) _ (by rfl) (by rfl) XR.out ?_; simp only [HW3.out, HY.out])
        refine (CO.out _ L13.out).mono ?_
        rintro e w4 ⟨P, N, K, rfl, hs, hl⟩
        have HS9 := hide hs
        have HLT := hide (Y3.out.lt)
        have L4 := hide (L3.out.trans hl)
        have HSZ := hide (Below.size L3.out)
        have Y4 := hide (Y3.out.below hl)
        clear hl hs
        go_wp2_with (first | (refine wpList_load_saga (by rfl) _ (by rfl) (by rfl) X3.out ?_) | (refine wpList_store_saga (by rfl) _ _ (by rfl) (by rfl) Y4.out (by rfl) ?_; intro w5 Z5 G5))
        have S9 : Hid (StepsAt (w.heap.size ≤ ·) w5 (.slice P N K) l) := FlatAt.mono (own_kept HS9.out HLT.out G5) (fun i _ hf => Nat.le_trans HSZ.out hf)
        have HLF : Hid (Later w _) := L4.out.grown G5 (Below.size L4.out) (fun k hk => by have := Option.some.inj hk; have := HG0.out; omega)
        refine bodyPost_ret (results_box2 Tryz.results71 _ _ (g + 1) 72 _ _ (by rfl) Z5 Tryz.underlying72 (by rfl) (by kernel_rfl) (.bool false) (by rfl)) (by rfl) ?_
        exact ⟨P, N, K, rfl, S9.out, HLF.out⟩

    · have hne : (cr != tr) = true := by simpa using g2
      obtain rfl : Q = false := by rw [HQ.out]; simp [g2]
      obtain rfl : R = s := by rw [HR.out]; rfl
      clear HQ HR
      go_wp2_with (refine wpList_load_saga (by rfl) _ (by rfl) (by rfl) XR.out ?_; simp only [HW3.out, HY.out])
      refine (CO.out _ L13.out).mono ?_
      rintro e w4 ⟨P, N, K, rfl, hs, hl⟩
      have HS9 := hide hs
      have HLT := hide (Y3.out.lt)
      have L4 := hide (L3.out.trans hl)
      have HSZ := hide (Below.size L3.out)
      have Y4 := hide (Y3.out.below hl)
      clear hl hs
      go_wp2_with (first | (refine wpList_load_saga (by rfl) _ (by rfl) (by rfl) X3.out ?_) | (refine wpList_store_saga (by rfl) _ _ (by rfl) (by rfl) Y4.out (by rfl) ?_; intro w5 Z5 G5))
      have S9 : Hid (StepsAt (w.heap.size ≤ ·) w5 (.slice P N K) l) := FlatAt.mono (own_kept HS9.out HLT.out G5) (fun i _ hf => Nat.le_trans HSZ.out hf)
      have HLF : Hid (Later w _) := L4.out.grown G5 (Below.size L4.out) (fun k hk => by have := Option.some.inj hk; have := HG0.out; omega)
      refine bodyPost_ret (results_box2 Tryz.results71 _ _ (g + 1) 72 _ _ (by rfl) Z5 Tryz.underlying72 (by rfl) (by kernel_rfl) (.bool false) (by rfl)) (by rfl) ?_
      exact ⟨P, N, K, rfl, S9.out, HLF.out⟩

  · have hne : (ct != step) = true := by simpa using g1
    obtain rfl : Q = false := by rw [HQ.out]; simp [g1]
    obtain rfl : R = s := by rw [HR.out]; rfl
    clear HQ HR
    go_wp2_with (refine wpList_load_saga (by rfl) _ (by rfl) (by rfl) XR.out ?_; simp only [HW3.out, HY.out])
    refine (CO.out _ L13.out).mono ?_
    rintro e w4 ⟨P, N, K, rfl, hs, hl⟩
    have HS9 := hide hs
    have HLT := hide (Y3.out.lt)
    have L4 := hide (L3.out.trans hl)
    have HSZ := hide (Below.size L3.out)
    have Y4 := hide (Y3.out.below hl)
    clear hl hs
    go_wp2_with (first | (refine wpList_load_saga (by rfl) _ (by rfl) (by rfl) X3.out ?_) | (refine wpList_store_saga (by rfl) _ _ (by rfl) (by rfl) Y4.out (by rfl) ?_; intro w5 Z5 G5))
    have S9 : Hid (StepsAt (w.heap.size ≤ ·) w5 (.slice P N K) l) := FlatAt.mono (own_kept HS9.out HLT.out G5) (fun i _ hf => Nat.le_trans HSZ.out hf)
    have HLF : Hid (Later w _) := L4.out.grown G5 (Below.size L4.out) (fun k hk => by have := Option.some.inj hk; have := HG0.out; omega)
    refine bodyPost_ret (results_box2 Tryz.results71 _ _ (g + 1) 72 _ _ (by rfl) Z5 Tryz.underlying72 (by rfl) (by kernel_rfl) (.bool false) (by rfl)) (by rfl) ?_
    exact ⟨P, N, K, rfl, S9.out, HLF.out⟩

end
end Go.Proofs.YtdkiopajilakcaaGreat
/- How a saga begins; a try that is told of, or of which nothing is told in time. -/
namespace Go.Proofs.YtdkiopajilakcaaGreat
open Go.RowKit
section
variable {w : World}
theorem bl_any {F : Nat → Prop} {s : SagaD} {l : List StepD} {step tr : Int} {back : Bool} (h : StepsAt F w s.v l) (hl6 : l.length ≤ 1000000) (hw : ∀ x ∈ l, x.wf) (h1 : I64 s.step) : Calls Tryz.prog 71 #[s.val, .int .i64 step, .int .i64 tr, .bool back, .func (.func 76) #[] #[]] w (Told (lapseF l s step tr back) (isIt l s step tr back) l w) := by
  cases hq : wantsB l s with
  | false =>
    have hi : isIt l s step tr back = false := by unfold isIt; rw [hq]; rfl
    unfold lapseF
    rw [hi]
    exact bl_none h hl6 hw h1 hq
  | true =>
    obtain ⟨he, p1, p2, p3, p4, p5, p6, p7⟩ := wants_parts hq
    have := tries_le (k := s.step) he
    exact bl_some h hl6 hw h1 (check_good he).1 p1 p3 (by omega) (by omega) hq _ rfl
theorem br_any {F : Nat → Prop} {s : SagaD} {l : List StepD} {step tr : Int} {back good : Bool} {pg pb : Nat} (h : StepsAt F w s.v l) (hl6 : l.length ≤ 1000000) (hw : ∀ x ∈ l, x.wf) (h1 : I64 s.step) (hpg : pg < w.heap.size) (hpb : pb < w.heap.size) (hgd : w.cell? ⟨pg, 0, none⟩ = some (.bool good)) (hbk : w.cell? ⟨pb, 0, none⟩ = some (.bool back)) : Calls Tryz.prog 71 #[s.val, .int .i64 step, .int .i64 tr, .bool back, .func (.func 72) #[] #[.pointer (some ⟨pg, 0, none⟩), .pointer (some ⟨pb, 0, none⟩)]] w (Told (reportF l s step tr back good) (isIt l s step tr back) l w) := by
  cases hq : wantsB l s with
  | false =>
    have hi : isIt l s step tr back = false := by unfold isIt; rw [hq]; rfl
    unfold reportF
    rw [hi]
    exact br_none h hl6 hw h1 hq
  | true =>
    obtain ⟨he, p1, p2, p3, p4, p5, p6, p7⟩ := wants_parts hq
    have := tries_le (k := s.step) he
    exact br_some h hl6 hw h1 (check_good he).1 p1 p3 (by omega) (by omega) hpg hpb hgd hbk hq _ rfl
set_option maxHeartbeats 4000000 in
theorem lapse_any {F : Nat → Prop} {s : SagaD} {l : List StepD} {step tr : Int} {back : Bool} (h : StepsAt F w s.v l) (hl6 : l.length ≤ 1000000) (hw : ∀ x ∈ l, x.wf) (h1 : I64 s.step) : Calls Tryz.prog 42 #[s.val, .int .i64 step, .int .i64 tr, .bool back] w (Told (lapseF l s step tr back) (isIt l s step tr back) l w) := by
  obtain ⟨W1, hW1⟩ : ∃ W1, W1 = (w.alloc (.cells s.cells.toArray 72 (0, 0))).alloc (.cells #[.string ⟨#[]⟩, .slice none 0 0, .int .i64 0, .int .i64 0, .int .i64 0, .bool false, .bool false, .bool false, .bool false, .bool false, .bool false, .bool false, .bool false] 72 (0, 0)) := ⟨_, rfl⟩
  obtain ⟨g, hg⟩ : ∃ g, g = w.heap.size := ⟨_, rfl⟩
  have X1 : Hid (SBox 72 g s W1) := by rw [hW1, hg]; exact (heap_alloc_old _ _ (by simp)).trans (heap_alloc_new _ _)
  have Y1 : Hid (SBox 72 (g + 1) SagaD.zero W1) := by rw [hW1, hg]; exact heap_second _ _ _
  have L1 : Hid (Later w W1) := by rw [hW1]; exact ((Below.refl _ _).alloc (Nat.le_refl _) _).alloc (by simp) _
  have HG0 : Hid (w.heap.size ≤ g) := Nat.le_of_eq hg.symm
  have C : Hid (∀ W, Later W1 W → Calls Tryz.prog 71 #[s.val, .int .i64 step, .int .i64 tr, .bool back, .func (.func 76) #[] #[]] W (Told (lapseF l s step tr back) (isIt l s step tr back) l W)) := fun W hW => bl_any (StepsAt.kept h (Kept.of_below (L1.out.trans hW) _)) hl6 hw h1
  obtain ⟨s2, hs2⟩ : ∃ x, lapseF l s step tr back = x := ⟨_, rfl⟩
  obtain ⟨Q, hQ⟩ : ∃ x, isIt l s step tr back = x := ⟨_, rfl⟩
  rw [hs2, hQ] at C ⊢
  have HW1 := hide hW1.symm
  have HG := hide hg.symm
  clear hW1 hg h hl6 hw h1 hs2 hQ
  have xe := X1.out
  rw [← HW1.out, ← HG.out] at xe
  have XE := hide xe
  clear xe
  go_enter Tryz.func42, Tryz.ntmps42
  go_wp2_with (refine wpList_load_saga (by rfl) _ (by rfl) (by rfl) XE.out ?_; simp only [HW1.out, HG.out])
  refine (C.out _ (Later.refl _)).mono ?_
  rintro e w2 ⟨P, N, K, rfl, hs, hl⟩
  have HLT := hide (Y1.out.lt)
  have HSZ := hide (Below.size L1.out)
  have HS9 := hide hs
  have L2 := hide (L1.out.trans hl)
  have Y2 := hide (Y1.out.below hl)
  clear hl hs
  go_wp2_with (first | (refine wpList_load_saga (by rfl) _ (by rfl) (by rfl) X1.out ?_) | (refine wpList_store_saga (by rfl) _ _ (by rfl) (by rfl) Y2.out (by rfl) ?_; intro w3 Z3 G3))
  have S9 : Hid (StepsAt (w.heap.size ≤ ·) w3 (.slice P N K) l) := FlatAt.mono (own_kept HS9.out HLT.out G3) (fun i _ hf => Nat.le_trans HSZ.out hf)
  have HLF : Hid (Later w _) := L2.out.grown G3 (Below.size L2.out) (fun k hk => by have := Option.some.inj hk; have := HG0.out; omega)
  refine bodyPost_ret (results_box2 Tryz.results42 _ _ (g + 1) 72 _ _ (by rfl) Z3 Tryz.underlying72 (by rfl) (by kernel_rfl) (.bool Q) (by rfl)) (by rfl) ?_
  exact ⟨P, N, K, rfl, S9.out, HLF.out⟩
set_option maxHeartbeats 4000000 in
theorem report_any {F : Nat → Prop} {s : SagaD} {l : List StepD} {step tr : Int} {back good : Bool} (h : StepsAt F w s.v l) (hl6 : l.length ≤ 1000000) (hw : ∀ x ∈ l, x.wf) (h1 : I64 s.step) : Calls Tryz.prog 40 #[s.val, .int .i64 step, .int .i64 tr, .bool back, .bool good] w (Told (reportF l s step tr back good) (isIt l s step tr back) l w) := by
  obtain ⟨W1, hW1⟩ : ∃ W1, W1 = (((w.alloc (.cells s.cells.toArray 72 (0, 0))).alloc (.cells #[.bool back] 4 (0, 0))).alloc (.cells #[.bool good] 4 (0, 0))).alloc (.cells #[.string ⟨#[]⟩, .slice none 0 0, .int .i64 0, .int .i64 0, .int .i64 0, .bool false, .bool false, .bool false, .bool false, .bool false, .bool false, .bool false, .bool false] 72 (0, 0)) := ⟨_, rfl⟩
  obtain ⟨g, hg⟩ : ∃ g, g = w.heap.size := ⟨_, rfl⟩
  have hz : W1.heap.size = g + 4 := by rw [hW1, hg]; simp
  have X1 : Hid (SBox 72 g s W1) := by rw [hW1, hg]; exact (heap_alloc_old _ _ (by simp <;> omega)).trans ((heap_alloc_old _ _ (by simp <;> omega)).trans ((heap_alloc_old _ _ (by simp)).trans (heap_alloc_new _ _)))
  have K1 : Hid (W1.heap[g + 1]? = some (.cells #[.bool back] 4 (0, 0))) := by rw [hW1, hg]; exact (heap_alloc_old _ _ (by simp <;> omega)).trans ((heap_alloc_old _ _ (by simp)).trans (heap_second _ _ _))
  have K2 : Hid (W1.heap[g + 1 + 1]? = some (.cells #[.bool good] 4 (0, 0))) := by
    rw [hW1, hg]
    refine (heap_alloc_old _ _ (by simp)).trans ?_
    have hh := heap_second (w.alloc (.cells s.cells.toArray 72 (0, 0))) (.cells #[.bool back] 4 (0, 0)) (.cells #[.bool good] 4 (0, 0))
    rwa [show (w.alloc (.cells s.cells.toArray 72 (0, 0))).heap.size = w.heap.size + 1 from by simp] at hh
  have Y1 : Hid (SBox 72 (g + 1 + 1 + 1) SagaD.zero W1) := by
    rw [hW1, hg]
    have hh := heap_alloc_new (((w.alloc (.cells s.cells.toArray 72 (0, 0))).alloc (.cells #[.bool back] 4 (0, 0))).alloc (.cells #[.bool good] 4 (0, 0))) (.cells #[.string ⟨#[]⟩, .slice none 0 0, .int .i64 0, .int .i64 0, .int .i64 0, .bool false, .bool false, .bool false, .bool false, .bool false, .bool false, .bool false, .bool false] 72 (0, 0))
    rwa [show (((w.alloc (.cells s.cells.toArray 72 (0, 0))).alloc (.cells #[.bool back] 4 (0, 0))).alloc (.cells #[.bool good] 4 (0, 0))).heap.size = w.heap.size + 1 + 1 + 1 from by simp] at hh
  have L1 : Hid (Later w W1) := by rw [hW1]; exact ((((Below.refl _ _).alloc (Nat.le_refl _) _).alloc (by simp) _).alloc (by simp <;> omega) _).alloc (by simp; omega) _
  have HG0 : Hid (w.heap.size ≤ g) := Nat.le_of_eq hg.symm
  have cb := (cell_of_row W1 (g + 1) 0 _ _ _ K1.out).trans (show _ = some (Value.bool back) from rfl)
  have cg := (cell_of_row W1 (g + 1 + 1) 0 _ _ _ K2.out).trans (show _ = some (Value.bool good) from rfl)
  have C : Hid (∀ W, Later W1 W → Calls Tryz.prog 71 #[s.val, .int .i64 step, .int .i64 tr, .bool back, .func (.func 72) #[] #[.pointer (some ⟨g + 1 + 1, 0, none⟩), .pointer (some ⟨g + 1, 0, none⟩)]] W (Told (reportF l s step tr back good) (isIt l s step tr back) l W)) := fun W hW => br_any (StepsAt.kept h (Kept.of_below (L1.out.trans hW) _)) hl6 hw h1 (by have := Below.size hW; omega) (by have := Below.size hW; omega) ((Below.cell hW (p := ⟨g + 1 + 1, 0, none⟩) (by show g + 1 + 1 < _; omega)).trans cg) ((Below.cell hW (p := ⟨g + 1, 0, none⟩) (by show g + 1 < _; omega)).trans cb)
  obtain ⟨s2, hs2⟩ : ∃ x, reportF l s step tr back good = x := ⟨_, rfl⟩
  obtain ⟨Q, hQ⟩ : ∃ x, isIt l s step tr back = x := ⟨_, rfl⟩
  rw [hs2, hQ] at C ⊢
  have HW1 := hide hW1.symm
  have HG := hide hg.symm
  have xe := X1.out
  rw [hW1, hg] at xe
  have XE := hide xe
  clear hW1 hg h hl6 hw h1 hs2 hQ xe cg hz
  go_enter Tryz.func40, Tryz.ntmps40
  go_wp2_with (refine wpList_load_saga (by rfl) _ (by rfl) (by rfl) XE.out ?_; simp only [HW1.out, HG.out])
  refine (C.out _ (Later.refl _)).mono ?_
  rintro e w2 ⟨P, N, K, rfl, hs, hl⟩
  have HLT := hide (Y1.out.lt)
  have HSZ := hide (Below.size L1.out)
  have HS9 := hide hs
  have L2 := hide (L1.out.trans hl)
  have Y2 := hide (Y1.out.below hl)
  clear hl hs
  go_wp2_with (first | (refine wpList_load_saga (by rfl) _ (by rfl) (by rfl) X1.out ?_) | (refine wpList_store_saga (by rfl) _ _ (by rfl) (by rfl) Y2.out (by rfl) ?_; intro w3 Z3 G3))
  have S9 : Hid (StepsAt (w.heap.size ≤ ·) w3 (.slice P N K) l) := FlatAt.mono (own_kept HS9.out HLT.out G3) (fun i _ hf => Nat.le_trans HSZ.out hf)
  have HLF : Hid (Later w _) := L2.out.grown G3 (Below.size L2.out) (fun k hk => by have := Option.some.inj hk; have := HG0.out; omega)
  refine bodyPost_ret (results_box2 Tryz.results40 _ _ (g + 1 + 1 + 1) 72 _ _ (by rfl) Z3 Tryz.underlying72 (by rfl) (by kernel_rfl) (.bool Q) (by rfl)) (by rfl) ?_
  exact ⟨P, N, K, rfl, S9.out, HLF.out⟩
/-- What Begin says of a definition that may be: a saga that is running, its steps in new memory. -/
def Begun (name : ByteArray) (l : List StepD) (w : World) (e : Ending) (w' : World) : Prop := ∃ p n c, e = .returned (.tuple #[(SagaD.mk name p n c 1 1 1 (upH 0)).val, .int .i64 0]) ∧ StepsAt (w.heap.size ≤ ·) w' (.slice p n c) l ∧ Later w w'
set_option maxHeartbeats 4000000 in
theorem begin_err {F : Nat → Prop} {name : ByteArray} {A : Option Addr} {n c : Nat} {l : List StepD} (h : StepsAt F w (.slice A n c) l) (he : (checkF name l).2 ≠ 0) : Calls Tryz.prog 63 #[.agg #[.string name, .slice A n c]] w fun e w' => e = .returned (.tuple #[SagaD.zero.val, .int .i64 (((checkF name l).2 : Nat) : Int)]) ∧ Later w w' := by
  obtain ⟨W1, hW1⟩ : ∃ W1, W1 = (w.alloc (.cells #[.string name, .slice A n c] 35 (0, 0))).alloc (.cells #[.string ⟨#[]⟩, .slice none 0 0, .int .i64 0, .int .i64 0, .int .i64 0, .bool false, .bool false, .bool false, .bool false, .bool false, .bool false, .bool false, .bool false] 72 (0, 0)) := ⟨_, rfl⟩
  obtain ⟨g, hg⟩ : ∃ g, g = w.heap.size := ⟨_, rfl⟩
  have X1 : Hid (DefBox g name (.slice A n c) W1) := by rw [hW1, hg]; exact (heap_alloc_old _ _ (by simp)).trans (heap_alloc_new _ _)
  have Y1 : Hid (SBox 72 (g + 1) SagaD.zero W1) := by rw [hW1, hg]; exact heap_second _ _ _
  have L1 : Hid (Later w W1) := by rw [hW1]; exact ((Below.refl _ _).alloc (Nat.le_refl _) _).alloc (by simp) _
  have HG0 : Hid (w.heap.size ≤ g) := Nat.le_of_eq hg.symm
  have CC : Hid (Calls Tryz.prog 92 #[.agg #[.string name, .slice A n c]] W1 fun e w' => e = .returned (.tuple #[.int .i64 (((checkF name l).1 : Nat) : Int), .int .i64 (((checkF name l).2 : Nat) : Int)]) ∧ Later W1 w') := check_any (StepsAt.kept h (Kept.of_below L1.out _))
  obtain ⟨k1, hk1⟩ : ∃ k1, (checkF name l).1 = k1 := ⟨_, rfl⟩
  obtain ⟨k2, hk2⟩ : ∃ k2, (checkF name l).2 = k2 := ⟨_, rfl⟩
  rw [hk1, hk2] at CC
  have e0 := X1.out.name_
  have e1 := X1.out.steps
  rw [hW1, hg] at e0 e1
  rw [hk2]
  have hb : ((k2 : Int) != 0) = true := by simpa using (show ¬ (k2 : Int) = 0 by omega)
  have HW1 := hide hW1.symm
  have HG := hide hg.symm
  clear hW1 hg h he hk1 hk2
  go_enter Tryz.func63, Tryz.ntmps63
  go_wp2_with (fail)
  simp only [HW1.out, HG.out]
  refine CC.out.mono ?_
  rintro e w2 ⟨rfl, hl⟩
  have L12 := hide hl
  have L2 := hide (L1.out.trans hl)
  have X2 := hide (X1.out.below hl)
  have Y2 := hide (Y1.out.below hl)
  clear hl CC e0 e1
  go_wp2_with (refine wpList_store_saga (s := SagaD.zero) (by rfl) _ _ (by rfl) (by rfl) Y2.out (by rfl) ?_; intro w3 Z3 G3)
  have HLF : Hid (Later w _) := L2.out.grown G3 (Below.size L2.out) (fun k hk => by have := Option.some.inj hk; have := HG0.out; omega)
  refine bodyPost_ret (results_box2 Tryz.results63 _ _ (g + 1) 72 _ _ (by rfl) Z3 Tryz.underlying72 (by rfl) (by kernel_rfl) (.int .i64 (k2 : Int)) (by rfl)) (by rfl) ?_
  exact ⟨rfl, HLF.out⟩
set_option maxHeartbeats 4000000 in
theorem begin_ok {F : Nat → Prop} {name : ByteArray} {A : Option Addr} {n c : Nat} {l : List StepD} (h : StepsAt F w (.slice A n c) l) (he : (checkF name l).2 = 0) : Calls Tryz.prog 63 #[.agg #[.string name, .slice A n c]] w (Begun name l w) := by
  obtain ⟨W1, hW1⟩ : ∃ W1, W1 = (w.alloc (.cells #[.string name, .slice A n c] 35 (0, 0))).alloc (.cells #[.string ⟨#[]⟩, .slice none 0 0, .int .i64 0, .int .i64 0, .int .i64 0, .bool false, .bool false, .bool false, .bool false, .bool false, .bool false, .bool false, .bool false] 72 (0, 0)) := ⟨_, rfl⟩
  obtain ⟨g, hg⟩ : ∃ g, g = w.heap.size := ⟨_, rfl⟩
  have X1 : Hid (DefBox g name (.slice A n c) W1) := by rw [hW1, hg]; exact (heap_alloc_old _ _ (by simp)).trans (heap_alloc_new _ _)
  have Y1 : Hid (SBox 72 (g + 1) SagaD.zero W1) := by rw [hW1, hg]; exact heap_second _ _ _
  have L1 : Hid (Later w W1) := by rw [hW1]; exact ((Below.refl _ _).alloc (Nat.le_refl _) _).alloc (by simp) _
  have HG0 : Hid (w.heap.size ≤ g) := Nat.le_of_eq hg.symm
  have CC : Hid (Calls Tryz.prog 92 #[.agg #[.string name, .slice A n c]] W1 fun e w' => e = .returned (.tuple #[.int .i64 (((checkF name l).1 : Nat) : Int), .int .i64 (((checkF name l).2 : Nat) : Int)]) ∧ Later W1 w') := check_any (StepsAt.kept h (Kept.of_below L1.out _))
  obtain ⟨k1, hk1⟩ : ∃ k1, (checkF name l).1 = k1 := ⟨_, rfl⟩
  obtain ⟨k2, hk2⟩ : ∃ k2, (checkF name l).2 = k2 := ⟨_, rfl⟩
  rw [hk1, hk2] at CC
  have e0 := X1.out.name_
  have e1 := X1.out.steps
  rw [hW1, hg] at e0 e1
  obtain rfl : k2 = 0 := by rw [← hk2]; exact he
  have CA := hide (fun W => at_any (w := W) ⟨name, A, n, c, 0, 0, 0, upH 0⟩ 1 1)
  have CO : Hid (∀ W, Later W1 W → Calls Tryz.prog 66 #[(SagaD.mk name A n c 1 1 1 (upH 0)).val] W (Owns ⟨name, A, n, c, 1, 1, 1, upH 0⟩ l W)) := fun W hW => own_any (s := ⟨name, A, n, c, 1, 1, 1, upH 0⟩) (StepsAt.kept h (Kept.of_below (L1.out.trans hW) _)) (by have := (check_good he).1; omega)
  have HW1 := hide hW1.symm
  have HG := hide hg.symm
  clear hW1 hg h he hk1 hk2
  go_enter Tryz.func63, Tryz.ntmps63
  go_wp2_with (fail)
  simp only [HW1.out, HG.out]
  refine CC.out.mono ?_
  rintro e w2 ⟨rfl, hl⟩
  have L12 := hide hl
  have L2 := hide (L1.out.trans hl)
  have X2 := hide (X1.out.below hl)
  have Y2 := hide (Y1.out.below hl)
  clear hl CC e0 e1
  have d0 := X2.out.name_
  have d1 := X2.out.steps
  go_wp2_with (refine wpList_build_parts (by rfl) 72 _ (by rfl) [(0, .agg #[.string name, .slice A n c])] (by rfl) (SagaD.mk name A n c 0 0 0 (upH 0)).cells.toArray (by kernel_rfl) ?_)
  refine (CA.out _).mono ?_
  rintro e w3 ⟨rfl, hl⟩
  have L13 := hide (L12.out.trans hl)
  have L3 := hide (L2.out.trans hl)
  have Y3 := hide (Y2.out.below hl)
  clear hl CA d0 d1
  go_wp2_with (fail)
  refine (CO.out _ L13.out).mono ?_
  rintro e w4 ⟨P, N, K, rfl, hs, hl⟩
  have HLT := hide (Y3.out.lt)
  have HSZ := hide (Below.size L3.out)
  have HS9 := hide hs
  have L4 := hide (L3.out.trans hl)
  have Y4 := hide (Y3.out.below hl)
  clear hl hs CO
  go_wp2_with (refine wpList_store_saga (s := SagaD.mk name P N K 1 1 1 (upH 0)) (by rfl) _ _ (by rfl) (by rfl) Y4.out (by rfl) ?_; intro w5 Z5 G5)
  have S9 : Hid (StepsAt (w.heap.size ≤ ·) w5 (.slice P N K) l) := FlatAt.mono (own_kept HS9.out HLT.out G5) (fun i _ hf => Nat.le_trans HSZ.out hf)
  have HLF : Hid (Later w _) := L4.out.grown G5 (Below.size L4.out) (fun k hk => by have := Option.some.inj hk; have := HG0.out; omega)
  refine bodyPost_ret (results_box2 Tryz.results63 _ _ (g + 1) 72 _ _ (by rfl) Z5 Tryz.underlying72 (by rfl) (by kernel_rfl) (.int .i64 0) (by rfl)) (by rfl) ?_
  exact ⟨P, N, K, rfl, S9.out, HLF.out⟩
end
end Go.Proofs.YtdkiopajilakcaaGreat
/- A saga is cancelled. -/
namespace Go.Proofs.YtdkiopajilakcaaGreat
open Go.RowKit
/-- What Cancel says: a saga, its steps in new memory, and an error. -/
def CTold (s : SagaD) (err : Int) (l : List StepD) (w : World) (e : Ending) (w' : World) : Prop := ∃ p n c, e = .returned (.tuple #[(s.withV p n c).val, .int .i64 err]) ∧ StepsAt (w.heap.size ≤ ·) w' (.slice p n c) l ∧ Later w w'
section
variable {w : World}
set_option maxHeartbeats 4000000 in
theorem cancel_arg {F : Nat → Prop} {s : SagaD} {l : List StepD} (h : StepsAt F w s.v l) (hl6 : l.length ≤ 1000000) (hw : ∀ x ∈ l, x.wf) (h1 : I64 s.step) (hq : goodF l s = false) : Calls Tryz.prog 36 #[s.val] w (CTold s 2 l w) := by
  obtain ⟨W1, hW1⟩ : ∃ W1, W1 = (w.alloc (.cells s.cells.toArray 72 (0, 0))).alloc (.cells #[.string ⟨#[]⟩, .slice none 0 0, .int .i64 0, .int .i64 0, .int .i64 0, .bool false, .bool false, .bool false, .bool false, .bool false, .bool false, .bool false, .bool false] 72 (0, 0)) := ⟨_, rfl⟩
  obtain ⟨g, hg⟩ : ∃ g, g = w.heap.size := ⟨_, rfl⟩
  have X1 : Hid (SBox 72 g s W1) := by rw [hW1, hg]; exact (heap_alloc_old _ _ (by simp)).trans (heap_alloc_new _ _)
  have Y1 : Hid (SBox 72 (g + 1) SagaD.zero W1) := by rw [hW1, hg]; exact heap_second _ _ _
  have L1 : Hid (Later w W1) := by rw [hW1]; exact ((Below.refl _ _).alloc (Nat.le_refl _) _).alloc (by simp) _
  have HG0 : Hid (w.heap.size ≤ g) := Nat.le_of_eq hg.symm
  have C : Hid (∀ W, Later W1 W → Calls Tryz.prog 61 #[s.val] W (Gives (.bool false) W)) := fun W hW => by rw [← hq]; exact good_any (StepsAt.kept h (Kept.of_below (L1.out.trans hW) _)) hw h1
  have CO : Hid (∀ W, Later W1 W → Calls Tryz.prog 66 #[s.val] W (Owns s l W)) := fun W hW => own_any (StepsAt.kept h (Kept.of_below (L1.out.trans hW) _)) hl6
  have HW1 := hide hW1.symm
  have HG := hide hg.symm
  clear hW1 hg h hl6 hw h1 hq
  have xe := X1.out
  rw [← HW1.out, ← HG.out] at xe
  have XE := hide xe
  clear xe
  go_enter Tryz.func36, Tryz.ntmps36
  go_wp2_with (refine wpList_load_saga (by rfl) _ (by rfl) (by rfl) XE.out ?_; simp only [HW1.out, HG.out])
  refine (C.out _ (Later.refl _)).mono ?_
  rintro e w2 ⟨rfl, hl⟩
  have L12 := hide hl
  have L2 := hide (L1.out.trans hl)
  have X2 := hide (X1.out.below hl)
  have Y2 := hide (Y1.out.below hl)
  clear hl C
  go_wp2_with (refine wpList_load_saga (by rfl) _ (by rfl) (by rfl) X2.out ?_)
  refine (CO.out _ L12.out).mono ?_
  rintro e w3 ⟨P, N, K, rfl, hs, hl⟩
  have HS9 := hide hs
  have HLT := hide (Y2.out.lt)
  have L3 := hide (L2.out.trans hl)
  have HSZ := hide (Below.size L2.out)
  have Y3 := hide (Y2.out.below hl)
  clear hl hs
  go_wp2_with (first | (refine wpList_load_saga (by rfl) _ (by rfl) (by rfl) X2.out ?_) | (refine wpList_store_saga (by rfl) _ _ (by rfl) (by rfl) Y3.out (by rfl) ?_; intro w4 Z4 G4))
  have S9 : Hid (StepsAt (w.heap.size ≤ ·) w4 (.slice P N K) l) := FlatAt.mono (own_kept HS9.out HLT.out G4) (fun i _ hf => Nat.le_trans HSZ.out hf)
  have HLF : Hid (Later w _) := L3.out.grown G4 (Below.size L3.out) (fun k hk => by have := Option.some.inj hk; have := HG0.out; omega)
  refine bodyPost_ret (results_box2 Tryz.results36 _ _ (g + 1) 72 _ _ (by rfl) Z4 Tryz.underlying72 (by rfl) (by kernel_rfl) (.int .i64 2) (by rfl)) (by rfl) ?_
  exact ⟨P, N, K, rfl, S9.out, HLF.out⟩
set_option maxHeartbeats 4000000 in
theorem cancel_undo {F : Nat → Prop} {s : SagaD} {l : List StepD} (h : StepsAt F w s.v l) (hl6 : l.length ≤ 1000000) (hw : ∀ x ∈ l, x.wf) (h1 : I64 s.step) (hq : goodF l s = true) (hst : s.st = 2) : Calls Tryz.prog 36 #[s.val] w (CTold s 0 l w) := by
  obtain ⟨W1, hW1⟩ : ∃ W1, W1 = (w.alloc (.cells s.cells.toArray 72 (0, 0))).alloc (.cells #[.string ⟨#[]⟩, .slice none 0 0, .int .i64 0, .int .i64 0, .int .i64 0, .bool false, .bool false, .bool false, .bool false, .bool false, .bool false, .bool false, .bool false] 72 (0, 0)) := ⟨_, rfl⟩
  obtain ⟨g, hg⟩ : ∃ g, g = w.heap.size := ⟨_, rfl⟩
  have X1 : Hid (SBox 72 g s W1) := by rw [hW1, hg]; exact (heap_alloc_old _ _ (by simp)).trans (heap_alloc_new _ _)
  have Y1 : Hid (SBox 72 (g + 1) SagaD.zero W1) := by rw [hW1, hg]; exact heap_second _ _ _
  have L1 : Hid (Later w W1) := by rw [hW1]; exact ((Below.refl _ _).alloc (Nat.le_refl _) _).alloc (by simp) _
  have HG0 : Hid (w.heap.size ≤ g) := Nat.le_of_eq hg.symm
  have C : Hid (∀ W, Later W1 W → Calls Tryz.prog 61 #[s.val] W (Gives (.bool true) W)) := fun W hW => by rw [← hq]; exact good_any (StepsAt.kept h (Kept.of_below (L1.out.trans hW) _)) hw h1
  have CO : Hid (∀ W, Later W1 W → Calls Tryz.prog 66 #[s.val] W (Owns s l W)) := fun W hW => own_any (StepsAt.kept h (Kept.of_below (L1.out.trans hW) _)) hl6
  have HW1 := hide hW1.symm
  have HG := hide hg.symm
  clear hW1 hg h hl6 hw h1 hq
  have xe := X1.out
  rw [← HW1.out, ← HG.out] at xe
  have XE := hide xe
  clear xe
  go_enter Tryz.func36, Tryz.ntmps36
  go_wp2_with (refine wpList_load_saga (by rfl) _ (by rfl) (by rfl) XE.out ?_; simp only [HW1.out, HG.out])
  refine (C.out _ (Later.refl _)).mono ?_
  rintro e w2 ⟨rfl, hl⟩
  have L12 := hide hl
  have L2 := hide (L1.out.trans hl)
  have X2 := hide (X1.out.below hl)
  have Y2 := hide (Y1.out.below hl)
  clear hl C
  have c2 := X2.out.c2
  rw [hst] at c2
  clear hst
  go_wp2_with (refine wpList_load_saga (by rfl) _ (by rfl) (by rfl) X2.out ?_)
  refine (CO.out _ L12.out).mono ?_
  rintro e w3 ⟨P, N, K, rfl, hs, hl⟩
  have HS9 := hide hs
  have HLT := hide (Y2.out.lt)
  have L3 := hide (L2.out.trans hl)
  have HSZ := hide (Below.size L2.out)
  have Y3 := hide (Y2.out.below hl)
  clear hl hs
  go_wp2_with (first | (refine wpList_load_saga (by rfl) _ (by rfl) (by rfl) X2.out ?_) | (refine wpList_store_saga (by rfl) _ _ (by rfl) (by rfl) Y3.out (by rfl) ?_; intro w4 Z4 G4))
  have S9 : Hid (StepsAt (w.heap.size ≤ ·) w4 (.slice P N K) l) := FlatAt.mono (own_kept HS9.out HLT.out G4) (fun i _ hf => Nat.le_trans HSZ.out hf)
  have HLF : Hid (Later w _) := L3.out.grown G4 (Below.size L3.out) (fun k hk => by have := Option.some.inj hk; have := HG0.out; omega)
  refine bodyPost_ret (results_box2 Tryz.results36 _ _ (g + 1) 72 _ _ (by rfl) Z4 Tryz.underlying72 (by rfl) (by kernel_rfl) (.int .i64 0) (by rfl)) (by rfl) ?_
  exact ⟨P, N, K, rfl, S9.out, HLF.out⟩
set_option maxHeartbeats 4000000 in
theorem cancel_late1 {F : Nat → Prop} {s : SagaD} {l : List StepD} (h : StepsAt F w s.v l) (_hl8 : l.length ≤ 8) (hw : ∀ x ∈ l, x.wf) (h1 : I64 s.step) (hq : goodF l s = true) (n1 : s.st ≠ 1) (n2 : s.st ≠ 2) : Calls Tryz.prog 36 #[s.val] w (CTold SagaD.zero 10 [] w) := by
  obtain ⟨W1, hW1⟩ : ∃ W1, W1 = (w.alloc (.cells s.cells.toArray 72 (0, 0))).alloc (.cells #[.string ⟨#[]⟩, .slice none 0 0, .int .i64 0, .int .i64 0, .int .i64 0, .bool false, .bool false, .bool false, .bool false, .bool false, .bool false, .bool false, .bool false] 72 (0, 0)) := ⟨_, rfl⟩
  obtain ⟨g, hg⟩ : ∃ g, g = w.heap.size := ⟨_, rfl⟩
  have X1 : Hid (SBox 72 g s W1) := by rw [hW1, hg]; exact (heap_alloc_old _ _ (by simp)).trans (heap_alloc_new _ _)
  have Y1 : Hid (SBox 72 (g + 1) SagaD.zero W1) := by rw [hW1, hg]; exact heap_second _ _ _
  have L1 : Hid (Later w W1) := by rw [hW1]; exact ((Below.refl _ _).alloc (Nat.le_refl _) _).alloc (by simp) _
  have HG0 : Hid (w.heap.size ≤ g) := Nat.le_of_eq hg.symm
  have C : Hid (∀ W, Later W1 W → Calls Tryz.prog 61 #[s.val] W (Gives (.bool true) W)) := fun W hW => by rw [← hq]; exact good_any (StepsAt.kept h (Kept.of_below (L1.out.trans hW) _)) hw h1
  have HW1 := hide hW1.symm
  have HG := hide hg.symm
  clear hW1 hg h hw h1 hq
  have xe := X1.out
  rw [← HW1.out, ← HG.out] at xe
  have XE := hide xe
  clear xe
  go_enter Tryz.func36, Tryz.ntmps36
  go_wp2_with (refine wpList_load_saga (by rfl) _ (by rfl) (by rfl) XE.out ?_; simp only [HW1.out, HG.out])
  refine (C.out _ (Later.refl _)).mono ?_
  rintro e w2 ⟨rfl, hl⟩
  have L12 := hide hl
  have L2 := hide (L1.out.trans hl)
  have X2 := hide (X1.out.below hl)
  have Y2 := hide (Y1.out.below hl)
  clear hl C
  have c2 := X2.out.c2
  have b2 : (s.st == 2) = false := by rw [beq_eq_false_iff_ne]; exact n2
  have HN1 := hide n1
  clear n1 n2
  go_wp2_with (fail)
  have XD := hide (show SBox 72 g s w2.drew from X2.out)
  have YD := hide (show SBox 72 (g + 1) SagaD.zero w2.drew from Y2.out)
  have LD := hide (L2.out.trans (Later.drew w2))
  have LD1 := hide (L12.out.trans (Later.drew w2))
  refine wp_region_L (by kernel_rfl) ?_
  refine wpAnyL_take (i := 0) (d := some 17) (v := ?vaa0) rfl rfl (by kernel_rfl) (by kernel_rfl) (by kernel_rfl) (fun _ _ _ h => h) (by rfl) ?yaa0 ?_
  case yaa0 => (intro w' hw'; go_simp; try (with_reducible rfl))
  simp only [Act.put]; try simp only [List.setIfInBounds_toArray]; try simp only [List.set_cons_zero, List.set_cons_succ]
  refine wpAnyL_take (i := 1) (d := some 18) (v := ?vaa1) rfl rfl (by kernel_rfl) (by kernel_rfl) (by kernel_rfl) (fun _ _ _ h => h) (by rfl) ?yaa1 ?_
  case yaa1 => (intro w' hw'; have c2 := (XD.out.below hw').c2; go_simp; try (with_reducible rfl))
  simp only [Act.put]; try simp only [List.setIfInBounds_toArray]; try simp only [List.set_cons_zero, List.set_cons_succ]
  refine wpAnyL_take (i := 2) (d := some 19) (v := .bool true) rfl rfl (by kernel_rfl) (by kernel_rfl) (by kernel_rfl) (fun _ _ _ h => h) (by rfl) ?yaa2 ?_
  case yaa2 => (intro w' hw'; go_simp; simp [HN1.out])
  simp only [Act.put]; try simp only [List.setIfInBounds_toArray]; try simp only [List.set_cons_zero, List.set_cons_succ]
  refine wpAnyL_take (i := 3) (d := some 20) (v := ?vaa3) rfl rfl (by kernel_rfl) (by kernel_rfl) (by kernel_rfl) (fun _ _ _ h => h) (by rfl) ?yaa3 ?_
  case yaa3 => (intro w' hw'; go_simp; try (with_reducible rfl))
  simp only [Act.put]; try simp only [List.setIfInBounds_toArray]; try simp only [List.set_cons_zero, List.set_cons_succ]
  refine wpAnyL_pass (i := 4) (d := some 21) rfl rfl (by kernel_rfl) (by kernel_rfl) (by kernel_rfl) (fun _ _ _ h => h) (by rfl) ?_
  try (simp only [Act.put]; try simp only [List.setIfInBounds_toArray]; try simp only [List.set_cons_zero, List.set_cons_succ])
  refine wpAnyL_pass (i := 5) (d := some 22) rfl rfl (by kernel_rfl) (by kernel_rfl) (by kernel_rfl) (fun _ _ _ h => h) (by rfl) ?_
  try (simp only [Act.put]; try simp only [List.setIfInBounds_toArray]; try simp only [List.set_cons_zero, List.set_cons_succ])
  refine wpAnyL_take (i := 6) (d := some 23) (v := ?vaa6) rfl rfl (by kernel_rfl) (by kernel_rfl) (by kernel_rfl) (fun _ _ _ h => h) (by rfl) ?yaa6 ?_
  case yaa6 => (intro w' hw'; go_simp; try (with_reducible rfl))
  simp only [Act.put]; try simp only [List.setIfInBounds_toArray]; try simp only [List.set_cons_zero, List.set_cons_succ]
  refine wpAnyL_take (i := 7) (d := some 24) (v := ?vaa7) rfl rfl (by kernel_rfl) (by kernel_rfl) (by kernel_rfl) (fun _ _ _ h => h) (by rfl) ?yaa7 ?_
  case yaa7 => (intro w' hw'; go_simp; try (with_reducible rfl))
  simp only [Act.put]; try simp only [List.setIfInBounds_toArray]; try simp only [List.set_cons_zero, List.set_cons_succ]
  refine wpAnyL_pass (i := 8) (d := some 25) rfl rfl (by kernel_rfl) (by kernel_rfl) (by kernel_rfl) (fun _ _ _ h => h) (by rfl) ?_
  try (simp only [Act.put]; try simp only [List.setIfInBounds_toArray]; try simp only [List.set_cons_zero, List.set_cons_succ])
  refine wpAnyL_pass (i := 9) (d := some 26) rfl rfl (by kernel_rfl) (by kernel_rfl) (by kernel_rfl) (fun _ _ _ h => h) (by rfl) ?_
  try (simp only [Act.put]; try simp only [List.setIfInBounds_toArray]; try simp only [List.set_cons_zero, List.set_cons_succ])
  refine wpAnyL_pass (i := 10) (d := some 27) rfl rfl (by kernel_rfl) (by kernel_rfl) (by kernel_rfl) (fun _ _ _ h => h) (by rfl) ?_
  try (simp only [Act.put]; try simp only [List.setIfInBounds_toArray]; try simp only [List.set_cons_zero, List.set_cons_succ])
  refine wpAnyL_pass (i := 11) (d := some 28) rfl rfl (by kernel_rfl) (by kernel_rfl) (by kernel_rfl) (fun _ _ _ h => h) (by rfl) ?_
  try (simp only [Act.put]; try simp only [List.setIfInBounds_toArray]; try simp only [List.set_cons_zero, List.set_cons_succ])
  refine wpAnyL_pass (i := 12) (d := some 29) rfl rfl (by kernel_rfl) (by kernel_rfl) (by kernel_rfl) (fun _ _ _ h => h) (by rfl) ?_
  try (simp only [Act.put]; try simp only [List.setIfInBounds_toArray]; try simp only [List.set_cons_zero, List.set_cons_succ])
  refine wpAnyL_pass (i := 13) (d := some 30) rfl rfl (by kernel_rfl) (by kernel_rfl) (by kernel_rfl) (fun _ _ _ h => h) (by rfl) ?_
  try (simp only [Act.put]; try simp only [List.setIfInBounds_toArray]; try simp only [List.set_cons_zero, List.set_cons_succ])
  refine wpAnyL_take (i := 14) (d := some 31) (v := ?vaa14) rfl rfl (by kernel_rfl) (by kernel_rfl) (by kernel_rfl) (fun _ _ _ h => h) (by rfl) ?yaa14 ?_
  case yaa14 => (intro w' hw'; go_simp; try (with_reducible rfl))
  simp only [Act.put]; try simp only [List.setIfInBounds_toArray]; try simp only [List.set_cons_zero, List.set_cons_succ]
  refine wpAnyL_take (i := 15) (d := some 16) (v := ?vaa15) rfl rfl (by kernel_rfl) (by kernel_rfl) (by kernel_rfl) (fun _ _ _ h => h) (by rfl) ?yaa15 ?_
  case yaa15 => (intro w' hw'; go_simp; try (with_reducible rfl))
  simp only [Act.put]; try simp only [List.setIfInBounds_toArray]; try simp only [List.set_cons_zero, List.set_cons_succ]
  refine wpAnyL_done (by kernel_rfl) ?_ _
  go_wp2_with (refine wpList_store_saga (s := SagaD.zero) (by rfl) _ _ (by rfl) (by rfl) YD.out (by rfl) ?_; intro w8 Z8 G8)
  have HLF : Hid (Later w _) := LD.out.grown G8 (Below.size LD.out) (fun k hk => by have := Option.some.inj hk; have := HG0.out; omega)
  refine bodyPost_ret (results_box2 Tryz.results36 _ _ (g + 1) 72 _ _ (by rfl) Z8 Tryz.underlying72 (by rfl) (by kernel_rfl) (.int .i64 10) (by rfl)) (by rfl) ?_
  exact ⟨none, 0, 0, rfl, FlatAt.nil_ _ _ _, HLF.out⟩
set_option maxHeartbeats 4000000 in
theorem cancel_late2 {F : Nat → Prop} {s : SagaD} {l : List StepD} (h : StepsAt F w s.v l) (hl8 : l.length ≤ 8) (hw : ∀ x ∈ l, x.wf) (h1 : I64 s.step) (hq : goodF l s = true) (hst : s.st = 1) (hse : sealedS l s = true) : Calls Tryz.prog 36 #[s.val] w (CTold SagaD.zero 10 [] w) := by
  obtain ⟨W1, hW1⟩ : ∃ W1, W1 = (w.alloc (.cells s.cells.toArray 72 (0, 0))).alloc (.cells #[.string ⟨#[]⟩, .slice none 0 0, .int .i64 0, .int .i64 0, .int .i64 0, .bool false, .bool false, .bool false, .bool false, .bool false, .bool false, .bool false, .bool false] 72 (0, 0)) := ⟨_, rfl⟩
  obtain ⟨g, hg⟩ : ∃ g, g = w.heap.size := ⟨_, rfl⟩
  have X1 : Hid (SBox 72 g s W1) := by rw [hW1, hg]; exact (heap_alloc_old _ _ (by simp)).trans (heap_alloc_new _ _)
  have Y1 : Hid (SBox 72 (g + 1) SagaD.zero W1) := by rw [hW1, hg]; exact heap_second _ _ _
  have L1 : Hid (Later w W1) := by rw [hW1]; exact ((Below.refl _ _).alloc (Nat.le_refl _) _).alloc (by simp) _
  have HG0 : Hid (w.heap.size ≤ g) := Nat.le_of_eq hg.symm
  have C : Hid (∀ W, Later W1 W → Calls Tryz.prog 61 #[s.val] W (Gives (.bool true) W)) := fun W hW => by rw [← hq]; exact good_any (StepsAt.kept h (Kept.of_below (L1.out.trans hW) _)) hw h1
  have CS : Hid (∀ W, Later W1 W → Calls Tryz.prog 67 #[s.val] W (Gives (.bool (sealedS l s)) W)) := fun W hW => sealedS_any (StepsAt.kept h (Kept.of_below (L1.out.trans hW) _)) (by omega)
  have CP : Hid (∀ W, Later W1 W → Calls Tryz.prog 68 #[.agg #[.string s.name, .slice s.p s.n s.c]] W fun e w' => e = .returned (.int .i64 ((pivotN l : Nat) : Int)) ∧ Later W w') := fun W hW => pivot_any (StepsAt.kept h (Kept.of_below (L1.out.trans hW) _)) (by omega)
  rw [hse] at CS
  have HW1 := hide hW1.symm
  have HG := hide hg.symm
  clear hW1 hg h hl8 hw h1 hq hse
  have xe := X1.out
  rw [← HW1.out, ← HG.out] at xe
  have XE := hide xe
  clear xe
  go_enter Tryz.func36, Tryz.ntmps36
  go_wp2_with (refine wpList_load_saga (by rfl) _ (by rfl) (by rfl) XE.out ?_; simp only [HW1.out, HG.out])
  refine (C.out _ (Later.refl _)).mono ?_
  rintro e w2 ⟨rfl, hl⟩
  have L12 := hide hl
  have L2 := hide (L1.out.trans hl)
  have X2 := hide (X1.out.below hl)
  have Y2 := hide (Y1.out.below hl)
  clear hl C
  have c2 := X2.out.c2
  rw [hst] at c2
  have HS1 := hide hst
  clear hst CP
  go_wp2_with (fail)
  have XD := hide (show SBox 72 g s w2.drew from X2.out)
  have YD := hide (show SBox 72 (g + 1) SagaD.zero w2.drew from Y2.out)
  have LD := hide (L2.out.trans (Later.drew w2))
  have LD1 := hide (L12.out.trans (Later.drew w2))
  refine wp_region_L (by kernel_rfl) ?_
  refine wpAnyL_take (i := 0) (d := some 17) (v := ?vaa0) rfl rfl (by kernel_rfl) (by kernel_rfl) (by kernel_rfl) (fun _ _ _ h => h) (by rfl) ?yaa0 ?_
  case yaa0 => (intro w' hw'; go_simp; try (with_reducible rfl))
  simp only [Act.put]; try simp only [List.setIfInBounds_toArray]; try simp only [List.set_cons_zero, List.set_cons_succ]
  refine wpAnyL_take (i := 1) (d := some 18) (v := ?vaa1) rfl rfl (by kernel_rfl) (by kernel_rfl) (by kernel_rfl) (fun _ _ _ h => h) (by rfl) ?yaa1 ?_
  case yaa1 => (intro w' hw'; have c2 := (XD.out.below hw').c2; rw [HS1.out] at c2; go_simp; try (with_reducible rfl))
  simp only [Act.put]; try simp only [List.setIfInBounds_toArray]; try simp only [List.set_cons_zero, List.set_cons_succ]
  refine wpAnyL_take (i := 2) (d := some 19) (v := ?vaa2) rfl rfl (by kernel_rfl) (by kernel_rfl) (by kernel_rfl) (fun _ _ _ h => h) (by rfl) ?yaa2 ?_
  case yaa2 => (intro w' hw'; go_simp; try (with_reducible rfl))
  simp only [Act.put]; try simp only [List.setIfInBounds_toArray]; try simp only [List.set_cons_zero, List.set_cons_succ]
  refine wpAnyL_take (i := 3) (d := some 20) (v := ?vaa3) rfl rfl (by kernel_rfl) (by kernel_rfl) (by kernel_rfl) (fun _ _ _ h => h) (by rfl) ?yaa3 ?_
  case yaa3 => (intro w' hw'; go_simp; try (with_reducible rfl))
  simp only [Act.put]; try simp only [List.setIfInBounds_toArray]; try simp only [List.set_cons_zero, List.set_cons_succ]
  refine wpAnyL_take (i := 4) (d := some 21) (v := s.val) rfl rfl (by kernel_rfl) (by kernel_rfl) (by kernel_rfl) (fun _ _ _ h => h) (by rfl) ?yaa4 ?_
  case yaa4 => (intro w' hw'; exact exec_load_saga _ (by rfl) (by rfl) (XD.out.below hw'))
  simp only [Act.put]; try simp only [List.setIfInBounds_toArray]; try simp only [List.set_cons_zero, List.set_cons_succ]
  refine wpAnyL_only (i := 5) rfl (by kernel_rfl) (by rfl) fun K hK => ?_
  go_simp
  refine (CS.out _ LD1.out).mono ?_
  rintro e w_5 ⟨rfl, hl_⟩
  have L5 := hide (LD.out.trans hl_)
  have L15 := hide (LD1.out.trans hl_)
  have X5 := hide (XD.out.below hl_)
  have Y5 := hide (YD.out.below hl_)
  refine hK.out _ _ hl_ ?_
  clear hl_
  clear hK K
  try (simp only [Act.put]; try simp only [List.setIfInBounds_toArray]; try simp only [List.set_cons_zero, List.set_cons_succ])
  refine wpAnyL_take (i := 6) (d := some 23) (v := ?vaa6) rfl rfl (by kernel_rfl) (by kernel_rfl) (by kernel_rfl) (fun _ _ _ h => h) (by rfl) ?yaa6 ?_
  case yaa6 => (intro w' hw'; go_simp; try (with_reducible rfl))
  simp only [Act.put]; try simp only [List.setIfInBounds_toArray]; try simp only [List.set_cons_zero, List.set_cons_succ]
  refine wpAnyL_take (i := 7) (d := some 24) (v := ?vaa7) rfl rfl (by kernel_rfl) (by kernel_rfl) (by kernel_rfl) (fun _ _ _ h => h) (by rfl) ?yaa7 ?_
  case yaa7 => (intro w' hw'; go_simp; try (with_reducible rfl))
  simp only [Act.put]; try simp only [List.setIfInBounds_toArray]; try simp only [List.set_cons_zero, List.set_cons_succ]
  refine wpAnyL_pass (i := 8) (d := some 25) rfl rfl (by kernel_rfl) (by kernel_rfl) (by kernel_rfl) (fun _ _ _ h => h) (by rfl) ?_
  try (simp only [Act.put]; try simp only [List.setIfInBounds_toArray]; try simp only [List.set_cons_zero, List.set_cons_succ])
  refine wpAnyL_pass (i := 9) (d := some 26) rfl rfl (by kernel_rfl) (by kernel_rfl) (by kernel_rfl) (fun _ _ _ h => h) (by rfl) ?_
  try (simp only [Act.put]; try simp only [List.setIfInBounds_toArray]; try simp only [List.set_cons_zero, List.set_cons_succ])
  refine wpAnyL_pass (i := 10) (d := some 27) rfl rfl (by kernel_rfl) (by kernel_rfl) (by kernel_rfl) (fun _ _ _ h => h) (by rfl) ?_
  try (simp only [Act.put]; try simp only [List.setIfInBounds_toArray]; try simp only [List.set_cons_zero, List.set_cons_succ])
  refine wpAnyL_pass (i := 11) (d := some 28) rfl rfl (by kernel_rfl) (by kernel_rfl) (by kernel_rfl) (fun _ _ _ h => h) (by rfl) ?_
  try (simp only [Act.put]; try simp only [List.setIfInBounds_toArray]; try simp only [List.set_cons_zero, List.set_cons_succ])
  refine wpAnyL_pass (i := 12) (d := some 29) rfl rfl (by kernel_rfl) (by kernel_rfl) (by kernel_rfl) (fun _ _ _ h => h) (by rfl) ?_
  try (simp only [Act.put]; try simp only [List.setIfInBounds_toArray]; try simp only [List.set_cons_zero, List.set_cons_succ])
  refine wpAnyL_pass (i := 13) (d := some 30) rfl rfl (by kernel_rfl) (by kernel_rfl) (by kernel_rfl) (fun _ _ _ h => h) (by rfl) ?_
  try (simp only [Act.put]; try simp only [List.setIfInBounds_toArray]; try simp only [List.set_cons_zero, List.set_cons_succ])
  refine wpAnyL_take (i := 14) (d := some 31) (v := ?vaa14) rfl rfl (by kernel_rfl) (by kernel_rfl) (by kernel_rfl) (fun _ _ _ h => h) (by rfl) ?yaa14 ?_
  case yaa14 => (intro w' hw'; go_simp; try (with_reducible rfl))
  simp only [Act.put]; try simp only [List.setIfInBounds_toArray]; try simp only [List.set_cons_zero, List.set_cons_succ]
  refine wpAnyL_take (i := 15) (d := some 16) (v := ?vaa15) rfl rfl (by kernel_rfl) (by kernel_rfl) (by kernel_rfl) (fun _ _ _ h => h) (by rfl) ?yaa15 ?_
  case yaa15 => (intro w' hw'; go_simp; try (with_reducible rfl))
  simp only [Act.put]; try simp only [List.setIfInBounds_toArray]; try simp only [List.set_cons_zero, List.set_cons_succ]
  refine wpAnyL_done (by kernel_rfl) ?_ _
  go_wp2_with (refine wpList_store_saga (s := SagaD.zero) (by rfl) _ _ (by rfl) (by rfl) Y5.out (by rfl) ?_; intro w8 Z8 G8)
  have HLF : Hid (Later w _) := L5.out.grown G8 (Below.size L5.out) (fun k hk => by have := Option.some.inj hk; have := HG0.out; omega)
  refine bodyPost_ret (results_box2 Tryz.results36 _ _ (g + 1) 72 _ _ (by rfl) Z8 Tryz.underlying72 (by rfl) (by kernel_rfl) (.int .i64 10) (by rfl)) (by rfl) ?_
  exact ⟨none, 0, 0, rfl, FlatAt.nil_ _ _ _, HLF.out⟩
set_option maxHeartbeats 4000000 in
theorem cancel_late3 {F : Nat → Prop} {s : SagaD} {l : List StepD} (h : StepsAt F w s.v l) (hl8 : l.length ≤ 8) (hw : ∀ x ∈ l, x.wf) (h1 : I64 s.step) (hq : goodF l s = true) (hst : s.st = 1) (hse : sealedS l s = false) (hp : s.step = ((pivotN l : Nat) : Int)) : Calls Tryz.prog 36 #[s.val] w (CTold SagaD.zero 10 [] w) := by
  obtain ⟨W1, hW1⟩ : ∃ W1, W1 = (w.alloc (.cells s.cells.toArray 72 (0, 0))).alloc (.cells #[.string ⟨#[]⟩, .slice none 0 0, .int .i64 0, .int .i64 0, .int .i64 0, .bool false, .bool false, .bool false, .bool false, .bool false, .bool false, .bool false, .bool false] 72 (0, 0)) := ⟨_, rfl⟩
  obtain ⟨g, hg⟩ : ∃ g, g = w.heap.size := ⟨_, rfl⟩
  have X1 : Hid (SBox 72 g s W1) := by rw [hW1, hg]; exact (heap_alloc_old _ _ (by simp)).trans (heap_alloc_new _ _)
  have Y1 : Hid (SBox 72 (g + 1) SagaD.zero W1) := by rw [hW1, hg]; exact heap_second _ _ _
  have L1 : Hid (Later w W1) := by rw [hW1]; exact ((Below.refl _ _).alloc (Nat.le_refl _) _).alloc (by simp) _
  have HG0 : Hid (w.heap.size ≤ g) := Nat.le_of_eq hg.symm
  have C : Hid (∀ W, Later W1 W → Calls Tryz.prog 61 #[s.val] W (Gives (.bool true) W)) := fun W hW => by rw [← hq]; exact good_any (StepsAt.kept h (Kept.of_below (L1.out.trans hW) _)) hw h1
  have CS : Hid (∀ W, Later W1 W → Calls Tryz.prog 67 #[s.val] W (Gives (.bool (sealedS l s)) W)) := fun W hW => sealedS_any (StepsAt.kept h (Kept.of_below (L1.out.trans hW) _)) (by omega)
  have CP : Hid (∀ W, Later W1 W → Calls Tryz.prog 68 #[.agg #[.string s.name, .slice s.p s.n s.c]] W fun e w' => e = .returned (.int .i64 ((pivotN l : Nat) : Int)) ∧ Later W w') := fun W hW => pivot_any (StepsAt.kept h (Kept.of_below (L1.out.trans hW) _)) (by omega)
  rw [hse] at CS
  obtain ⟨Q2, hQ2⟩ : ∃ q, (s.step == ((pivotN l : Nat) : Int)) = q := ⟨_, rfl⟩
  obtain rfl : Q2 = true := by rw [← hQ2, hp]; simp
  have HPV := hide hp
  have HW1 := hide hW1.symm
  have HG := hide hg.symm
  clear hW1 hg h hl8 hw h1 hq hse hp hQ2
  have xe := X1.out
  rw [← HW1.out, ← HG.out] at xe
  have XE := hide xe
  clear xe
  go_enter Tryz.func36, Tryz.ntmps36
  go_wp2_with (refine wpList_load_saga (by rfl) _ (by rfl) (by rfl) XE.out ?_; simp only [HW1.out, HG.out])
  refine (C.out _ (Later.refl _)).mono ?_
  rintro e w2 ⟨rfl, hl⟩
  have L12 := hide hl
  have L2 := hide (L1.out.trans hl)
  have X2 := hide (X1.out.below hl)
  have Y2 := hide (Y1.out.below hl)
  clear hl C
  have c2 := X2.out.c2
  rw [hst] at c2
  have HS1 := hide hst
  clear hst
  go_wp2_with (fail)
  have XD := hide (show SBox 72 g s w2.drew from X2.out)
  have YD := hide (show SBox 72 (g + 1) SagaD.zero w2.drew from Y2.out)
  have LD := hide (L2.out.trans (Later.drew w2))
  have LD1 := hide (L12.out.trans (Later.drew w2))
  refine wp_region_L (by kernel_rfl) ?_
  refine wpAnyL_take (i := 0) (d := some 17) (v := ?vaa0) rfl rfl (by kernel_rfl) (by kernel_rfl) (by kernel_rfl) (fun _ _ _ h => h) (by rfl) ?yaa0 ?_
  case yaa0 => (intro w' hw'; go_simp; try (with_reducible rfl))
  simp only [Act.put]; try simp only [List.setIfInBounds_toArray]; try simp only [List.set_cons_zero, List.set_cons_succ]
  refine wpAnyL_take (i := 1) (d := some 18) (v := ?vaa1) rfl rfl (by kernel_rfl) (by kernel_rfl) (by kernel_rfl) (fun _ _ _ h => h) (by rfl) ?yaa1 ?_
  case yaa1 => (intro w' hw'; have c2 := (XD.out.below hw').c2; rw [HS1.out] at c2; go_simp; try (with_reducible rfl))
  simp only [Act.put]; try simp only [List.setIfInBounds_toArray]; try simp only [List.set_cons_zero, List.set_cons_succ]
  refine wpAnyL_take (i := 2) (d := some 19) (v := ?vaa2) rfl rfl (by kernel_rfl) (by kernel_rfl) (by kernel_rfl) (fun _ _ _ h => h) (by rfl) ?yaa2 ?_
  case yaa2 => (intro w' hw'; go_simp; try (with_reducible rfl))
  simp only [Act.put]; try simp only [List.setIfInBounds_toArray]; try simp only [List.set_cons_zero, List.set_cons_succ]
  refine wpAnyL_take (i := 3) (d := some 20) (v := ?vaa3) rfl rfl (by kernel_rfl) (by kernel_rfl) (by kernel_rfl) (fun _ _ _ h => h) (by rfl) ?yaa3 ?_
  case yaa3 => (intro w' hw'; go_simp; try (with_reducible rfl))
  simp only [Act.put]; try simp only [List.setIfInBounds_toArray]; try simp only [List.set_cons_zero, List.set_cons_succ]
  refine wpAnyL_take (i := 4) (d := some 21) (v := s.val) rfl rfl (by kernel_rfl) (by kernel_rfl) (by kernel_rfl) (fun _ _ _ h => h) (by rfl) ?yaa4 ?_
  case yaa4 => (intro w' hw'; exact exec_load_saga _ (by rfl) (by rfl) (XD.out.below hw'))
  simp only [Act.put]; try simp only [List.setIfInBounds_toArray]; try simp only [List.set_cons_zero, List.set_cons_succ]
  refine wpAnyL_only (i := 5) rfl (by kernel_rfl) (by rfl) fun K hK => ?_
  go_simp
  refine (CS.out _ LD1.out).mono ?_
  rintro e w_5 ⟨rfl, hl_⟩
  have L5 := hide (LD.out.trans hl_)
  have L15 := hide (LD1.out.trans hl_)
  have X5 := hide (XD.out.below hl_)
  have Y5 := hide (YD.out.below hl_)
  refine hK.out _ _ hl_ ?_
  clear hl_
  clear hK K
  try (simp only [Act.put]; try simp only [List.setIfInBounds_toArray]; try simp only [List.set_cons_zero, List.set_cons_succ])
  refine wpAnyL_take (i := 6) (d := some 23) (v := ?vaa6) rfl rfl (by kernel_rfl) (by kernel_rfl) (by kernel_rfl) (fun _ _ _ h => h) (by rfl) ?yaa6 ?_
  case yaa6 => (intro w' hw'; go_simp; try (with_reducible rfl))
  simp only [Act.put]; try simp only [List.setIfInBounds_toArray]; try simp only [List.set_cons_zero, List.set_cons_succ]
  refine wpAnyL_take (i := 7) (d := some 24) (v := ?vaa7) rfl rfl (by kernel_rfl) (by kernel_rfl) (by kernel_rfl) (fun _ _ _ h => h) (by rfl) ?yaa7 ?_
  case yaa7 => (intro w' hw'; go_simp; try (with_reducible rfl))
  simp only [Act.put]; try simp only [List.setIfInBounds_toArray]; try simp only [List.set_cons_zero, List.set_cons_succ]
  refine wpAnyL_take (i := 8) (d := some 25) (v := ?vaa8) rfl rfl (by kernel_rfl) (by kernel_rfl) (by kernel_rfl) (fun _ _ _ h => h) (by rfl) ?yaa8 ?_
  case yaa8 => (intro w' hw'; go_simp; try (with_reducible rfl))
  simp only [Act.put]; try simp only [List.setIfInBounds_toArray]; try simp only [List.set_cons_zero, List.set_cons_succ]
  refine wpAnyL_take (i := 9) (d := some 26) (v := ?vaa9) rfl rfl (by kernel_rfl) (by kernel_rfl) (by kernel_rfl) (fun _ _ _ h => h) (by rfl) ?yaa9 ?_
  case yaa9 => (intro w' hw'; have c3 := (X5.out.below hw').c3; go_simp; try (with_reducible rfl))
  simp only [Act.put]; try simp only [List.setIfInBounds_toArray]; try simp only [List.set_cons_zero, List.set_cons_succ]
  refine wpAnyL_take (i := 10) (d := some 27) (v := ?vaa10) rfl rfl (by kernel_rfl) (by kernel_rfl) (by kernel_rfl) (fun _ _ _ h => h) (by rfl) ?yaa10 ?_
  case yaa10 => (intro w' hw'; go_simp; try (with_reducible rfl))
  simp only [Act.put]; try simp only [List.setIfInBounds_toArray]; try simp only [List.set_cons_zero, List.set_cons_succ]
  refine wpAnyL_take (i := 11) (d := some 28) (v := .agg #[.string s.name, .slice s.p s.n s.c]) rfl rfl (by kernel_rfl) (by kernel_rfl) (by kernel_rfl) (fun _ _ _ h => h) (by rfl) ?yaa11 ?_
  case yaa11 => (intro w' hw'; exact exec_load_sdef _ (by rfl) (by rfl) (X5.out.below hw'))
  simp only [Act.put]; try simp only [List.setIfInBounds_toArray]; try simp only [List.set_cons_zero, List.set_cons_succ]
  refine wpAnyL_only (i := 12) rfl (by kernel_rfl) (by rfl) fun K hK => ?_
  go_simp
  refine (CP.out _ L15.out).mono ?_
  rintro e w_12 ⟨rfl, hl_⟩
  have L12a := hide (L5.out.trans hl_)
  have L112 := hide (L15.out.trans hl_)
  have X12 := hide (X5.out.below hl_)
  have Y12 := hide (Y5.out.below hl_)
  refine hK.out _ _ hl_ ?_
  clear hl_
  clear hK K
  try (simp only [Act.put]; try simp only [List.setIfInBounds_toArray]; try simp only [List.set_cons_zero, List.set_cons_succ])
  refine wpAnyL_take (i := 13) (d := some 30) (v := .bool true) rfl rfl (by kernel_rfl) (by kernel_rfl) (by kernel_rfl) (fun _ _ _ h => h) (by rfl) ?yaa13 ?_
  case yaa13 => (intro w' hw'; go_simp; exact HPV.out)
  simp only [Act.put]; try simp only [List.setIfInBounds_toArray]; try simp only [List.set_cons_zero, List.set_cons_succ]
  refine wpAnyL_take (i := 14) (d := some 31) (v := ?vaa14) rfl rfl (by kernel_rfl) (by kernel_rfl) (by kernel_rfl) (fun _ _ _ h => h) (by rfl) ?yaa14 ?_
  case yaa14 => (intro w' hw'; go_simp; try (with_reducible rfl))
  simp only [Act.put]; try simp only [List.setIfInBounds_toArray]; try simp only [List.set_cons_zero, List.set_cons_succ]
  refine wpAnyL_take (i := 15) (d := some 16) (v := ?vaa15) rfl rfl (by kernel_rfl) (by kernel_rfl) (by kernel_rfl) (fun _ _ _ h => h) (by rfl) ?yaa15 ?_
  case yaa15 => (intro w' hw'; go_simp; try (with_reducible rfl))
  simp only [Act.put]; try simp only [List.setIfInBounds_toArray]; try simp only [List.set_cons_zero, List.set_cons_succ]
  refine wpAnyL_done (by kernel_rfl) ?_ _
  go_wp2_with (refine wpList_store_saga (s := SagaD.zero) (by rfl) _ _ (by rfl) (by rfl) Y12.out (by rfl) ?_; intro w8 Z8 G8)
  have HLF : Hid (Later w _) := L12a.out.grown G8 (Below.size L12a.out) (fun k hk => by have := Option.some.inj hk; have := HG0.out; omega)
  refine bodyPost_ret (results_box2 Tryz.results36 _ _ (g + 1) 72 _ _ (by rfl) Z8 Tryz.underlying72 (by rfl) (by kernel_rfl) (.int .i64 10) (by rfl)) (by rfl) ?_
  exact ⟨none, 0, 0, rfl, FlatAt.nil_ _ _ _, HLF.out⟩
set_option maxHeartbeats 4000000 in
theorem cancel_ok {F : Nat → Prop} {s : SagaD} {l : List StepD} (h : StepsAt F w s.v l) (hl8 : l.length ≤ 8) (hw : ∀ x ∈ l, x.wf) (h1 : I64 s.step) (hq : goodF l s = true) (hst : s.st = 1) (hse : sealedS l s = false) (hp : s.step ≠ ((pivotN l : Nat) : Int)) (p1 : 1 ≤ s.step) (p8 : s.step ≤ 8) : Calls Tryz.prog 36 #[s.val] w (CTold (failsS l (s.hitN true)) 0 l w) := by
  obtain ⟨W1, hW1⟩ : ∃ W1, W1 = (w.alloc (.cells s.cells.toArray 72 (0, 0))).alloc (.cells #[.string ⟨#[]⟩, .slice none 0 0, .int .i64 0, .int .i64 0, .int .i64 0, .bool false, .bool false, .bool false, .bool false, .bool false, .bool false, .bool false, .bool false] 72 (0, 0)) := ⟨_, rfl⟩
  obtain ⟨g, hg⟩ : ∃ g, g = w.heap.size := ⟨_, rfl⟩
  have X1 : Hid (SBox 72 g s W1) := by rw [hW1, hg]; exact (heap_alloc_old _ _ (by simp)).trans (heap_alloc_new _ _)
  have Y1 : Hid (SBox 72 (g + 1) SagaD.zero W1) := by rw [hW1, hg]; exact heap_second _ _ _
  have L1 : Hid (Later w W1) := by rw [hW1]; exact ((Below.refl _ _).alloc (Nat.le_refl _) _).alloc (by simp) _
  have HG0 : Hid (w.heap.size ≤ g) := Nat.le_of_eq hg.symm
  have C : Hid (∀ W, Later W1 W → Calls Tryz.prog 61 #[s.val] W (Gives (.bool true) W)) := fun W hW => by rw [← hq]; exact good_any (StepsAt.kept h (Kept.of_below (L1.out.trans hW) _)) hw h1
  have CS : Hid (∀ W, Later W1 W → Calls Tryz.prog 67 #[s.val] W (Gives (.bool (sealedS l s)) W)) := fun W hW => sealedS_any (StepsAt.kept h (Kept.of_below (L1.out.trans hW) _)) (by omega)
  have CP : Hid (∀ W, Later W1 W → Calls Tryz.prog 68 #[.agg #[.string s.name, .slice s.p s.n s.c]] W fun e w' => e = .returned (.int .i64 ((pivotN l : Nat) : Int)) ∧ Later W w') := fun W hW => pivot_any (StepsAt.kept h (Kept.of_below (L1.out.trans hW) _)) (by omega)
  have CH : Hid (∀ W, Later W1 W → Calls Tryz.prog 69 #[s.val, .bool true] W (Gives (s.hitN true).val W)) := fun W _ => hit_any s true p1 p8
  have CF : Hid (∀ W, Later W1 W → Calls Tryz.prog 70 #[(s.hitN true).val] W (Gives (failsS l (s.hitN true)).val W)) := fun W hW => failsS_any (s := s.hitN true) (StepsAt.kept h (Kept.of_below (L1.out.trans hW) _)) (by omega) (by show I64 s.step; unfold I64; omega)
  have CO : Hid (∀ W, Later W1 W → Calls Tryz.prog 66 #[(failsS l (s.hitN true)).val] W (Owns (failsS l (s.hitN true)) l W)) := fun W hW => own_any (s := failsS l (s.hitN true)) (by rw [failsS_v, hitN_v]; exact StepsAt.kept h (Kept.of_below (L1.out.trans hW) _)) (by omega)
  rw [hse] at CS
  obtain ⟨Q2, hQ2⟩ : ∃ q, (s.step == ((pivotN l : Nat) : Int)) = q := ⟨_, rfl⟩
  obtain rfl : Q2 = false := by rw [← hQ2, beq_eq_false_iff_ne]; exact hp
  have HPV := hide hp
  obtain ⟨s2, hs2⟩ : ∃ x, failsS l (s.hitN true) = x := ⟨_, rfl⟩
  rw [hs2] at CF CO ⊢
  have HW1 := hide hW1.symm
  have HG := hide hg.symm
  clear hW1 hg h hl8 hw h1 hq hse hp hQ2 p1 p8 hs2
  have xe := X1.out
  rw [← HW1.out, ← HG.out] at xe
  have XE := hide xe
  clear xe
  go_enter Tryz.func36, Tryz.ntmps36
  go_wp2_with (refine wpList_load_saga (by rfl) _ (by rfl) (by rfl) XE.out ?_; simp only [HW1.out, HG.out])
  refine (C.out _ (Later.refl _)).mono ?_
  rintro e w2 ⟨rfl, hl⟩
  have L12 := hide hl
  have L2 := hide (L1.out.trans hl)
  have X2 := hide (X1.out.below hl)
  have Y2 := hide (Y1.out.below hl)
  clear hl C
  have c2 := X2.out.c2
  rw [hst] at c2
  have HS1 := hide hst
  clear hst
  go_wp2_with (fail)
  have XD := hide (show SBox 72 g s w2.drew from X2.out)
  have YD := hide (show SBox 72 (g + 1) SagaD.zero w2.drew from Y2.out)
  have LD := hide (L2.out.trans (Later.drew w2))
  have LD1 := hide (L12.out.trans (Later.drew w2))
  refine wp_region_L (by kernel_rfl) ?_
  refine wpAnyL_take (i := 0) (d := some 17) (v := ?vaa0) rfl rfl (by kernel_rfl) (by kernel_rfl) (by kernel_rfl) (fun _ _ _ h => h) (by rfl) ?yaa0 ?_
  case yaa0 => (intro w' hw'; go_simp; try (with_reducible rfl))
  simp only [Act.put]; try simp only [List.setIfInBounds_toArray]; try simp only [List.set_cons_zero, List.set_cons_succ]
  refine wpAnyL_take (i := 1) (d := some 18) (v := ?vaa1) rfl rfl (by kernel_rfl) (by kernel_rfl) (by kernel_rfl) (fun _ _ _ h => h) (by rfl) ?yaa1 ?_
  case yaa1 => (intro w' hw'; have c2 := (XD.out.below hw').c2; rw [HS1.out] at c2; go_simp; try (with_reducible rfl))
  simp only [Act.put]; try simp only [List.setIfInBounds_toArray]; try simp only [List.set_cons_zero, List.set_cons_succ]
  refine wpAnyL_take (i := 2) (d := some 19) (v := ?vaa2) rfl rfl (by kernel_rfl) (by kernel_rfl) (by kernel_rfl) (fun _ _ _ h => h) (by rfl) ?yaa2 ?_
  case yaa2 => (intro w' hw'; go_simp; try (with_reducible rfl))
  simp only [Act.put]; try simp only [List.setIfInBounds_toArray]; try simp only [List.set_cons_zero, List.set_cons_succ]
  refine wpAnyL_take (i := 3) (d := some 20) (v := ?vaa3) rfl rfl (by kernel_rfl) (by kernel_rfl) (by kernel_rfl) (fun _ _ _ h => h) (by rfl) ?yaa3 ?_
  case yaa3 => (intro w' hw'; go_simp; try (with_reducible rfl))
  simp only [Act.put]; try simp only [List.setIfInBounds_toArray]; try simp only [List.set_cons_zero, List.set_cons_succ]
  refine wpAnyL_take (i := 4) (d := some 21) (v := s.val) rfl rfl (by kernel_rfl) (by kernel_rfl) (by kernel_rfl) (fun _ _ _ h => h) (by rfl) ?yaa4 ?_
  case yaa4 => (intro w' hw'; exact exec_load_saga _ (by rfl) (by rfl) (XD.out.below hw'))
  simp only [Act.put]; try simp only [List.setIfInBounds_toArray]; try simp only [List.set_cons_zero, List.set_cons_succ]
  refine wpAnyL_only (i := 5) rfl (by kernel_rfl) (by rfl) fun K hK => ?_
  go_simp
  refine (CS.out _ LD1.out).mono ?_
  rintro e w_5 ⟨rfl, hl_⟩
  have L5 := hide (LD.out.trans hl_)
  have L15 := hide (LD1.out.trans hl_)
  have X5 := hide (XD.out.below hl_)
  have Y5 := hide (YD.out.below hl_)
  refine hK.out _ _ hl_ ?_
  clear hl_
  clear hK K
  try (simp only [Act.put]; try simp only [List.setIfInBounds_toArray]; try simp only [List.set_cons_zero, List.set_cons_succ])
  refine wpAnyL_take (i := 6) (d := some 23) (v := ?vaa6) rfl rfl (by kernel_rfl) (by kernel_rfl) (by kernel_rfl) (fun _ _ _ h => h) (by rfl) ?yaa6 ?_
  case yaa6 => (intro w' hw'; go_simp; try (with_reducible rfl))
  simp only [Act.put]; try simp only [List.setIfInBounds_toArray]; try simp only [List.set_cons_zero, List.set_cons_succ]
  refine wpAnyL_take (i := 7) (d := some 24) (v := ?vaa7) rfl rfl (by kernel_rfl) (by kernel_rfl) (by kernel_rfl) (fun _ _ _ h => h) (by rfl) ?yaa7 ?_
  case yaa7 => (intro w' hw'; go_simp; try (with_reducible rfl))
  simp only [Act.put]; try simp only [List.setIfInBounds_toArray]; try simp only [List.set_cons_zero, List.set_cons_succ]
  refine wpAnyL_take (i := 8) (d := some 25) (v := ?vaa8) rfl rfl (by kernel_rfl) (by kernel_rfl) (by kernel_rfl) (fun _ _ _ h => h) (by rfl) ?yaa8 ?_
  case yaa8 => (intro w' hw'; go_simp; try (with_reducible rfl))
  simp only [Act.put]; try simp only [List.setIfInBounds_toArray]; try simp only [List.set_cons_zero, List.set_cons_succ]
  refine wpAnyL_take (i := 9) (d := some 26) (v := ?vaa9) rfl rfl (by kernel_rfl) (by kernel_rfl) (by kernel_rfl) (fun _ _ _ h => h) (by rfl) ?yaa9 ?_
  case yaa9 => (intro w' hw'; have c3 := (X5.out.below hw').c3; go_simp; try (with_reducible rfl))
  simp only [Act.put]; try simp only [List.setIfInBounds_toArray]; try simp only [List.set_cons_zero, List.set_cons_succ]
  refine wpAnyL_take (i := 10) (d := some 27) (v := ?vaa10) rfl rfl (by kernel_rfl) (by kernel_rfl) (by kernel_rfl) (fun _ _ _ h => h) (by rfl) ?yaa10 ?_
  case yaa10 => (intro w' hw'; go_simp; try (with_reducible rfl))
  simp only [Act.put]; try simp only [List.setIfInBounds_toArray]; try simp only [List.set_cons_zero, List.set_cons_succ]
  refine wpAnyL_take (i := 11) (d := some 28) (v := .agg #[.string s.name, .slice s.p s.n s.c]) rfl rfl (by kernel_rfl) (by kernel_rfl) (by kernel_rfl) (fun _ _ _ h => h) (by rfl) ?yaa11 ?_
  case yaa11 => (intro w' hw'; exact exec_load_sdef _ (by rfl) (by rfl) (X5.out.below hw'))
  simp only [Act.put]; try simp only [List.setIfInBounds_toArray]; try simp only [List.set_cons_zero, List.set_cons_succ]
  refine wpAnyL_only (i := 12) rfl (by kernel_rfl) (by rfl) fun K hK => ?_
  go_simp
  refine (CP.out _ L15.out).mono ?_
  rintro e w_12 ⟨rfl, hl_⟩
  have L12a := hide (L5.out.trans hl_)
  have L112 := hide (L15.out.trans hl_)
  have X12 := hide (X5.out.below hl_)
  have Y12 := hide (Y5.out.below hl_)
  refine hK.out _ _ hl_ ?_
  clear hl_
  clear hK K
  try (simp only [Act.put]; try simp only [List.setIfInBounds_toArray]; try simp only [List.set_cons_zero, List.set_cons_succ])
  refine wpAnyL_take (i := 13) (d := some 30) (v := .bool false) rfl rfl (by kernel_rfl) (by kernel_rfl) (by kernel_rfl) (fun _ _ _ h => h) (by rfl) ?yaa13 ?_
  case yaa13 => (intro w' hw'; go_simp; exact HPV.out)
  simp only [Act.put]; try simp only [List.setIfInBounds_toArray]; try simp only [List.set_cons_zero, List.set_cons_succ]
  refine wpAnyL_take (i := 14) (d := some 31) (v := ?vaa14) rfl rfl (by kernel_rfl) (by kernel_rfl) (by kernel_rfl) (fun _ _ _ h => h) (by rfl) ?yaa14 ?_
  case yaa14 => (intro w' hw'; go_simp; try (with_reducible rfl))
  simp only [Act.put]; try simp only [List.setIfInBounds_toArray]; try simp only [List.set_cons_zero, List.set_cons_succ]
  refine wpAnyL_take (i := 15) (d := some 16) (v := ?vaa15) rfl rfl (by kernel_rfl) (by kernel_rfl) (by kernel_rfl) (fun _ _ _ h => h) (by rfl) ?yaa15 ?_
  case yaa15 => (intro w' hw'; go_simp; try (with_reducible rfl))
  simp only [Act.put]; try simp only [List.setIfInBounds_toArray]; try simp only [List.set_cons_zero, List.set_cons_succ]
  refine wpAnyL_done (by kernel_rfl) ?_ _
  go_wp2_with (refine wpList_load_saga (by rfl) _ (by rfl) (by rfl) X12.out ?_)
  refine (CH.out _ L112.out).mono ?_
  rintro e w21 ⟨rfl, hl⟩
  have L121 := hide (L112.out.trans hl)
  have L21 := hide (L12a.out.trans hl)
  have Y21 := hide (Y12.out.below hl)
  clear hl
  go_wp2_with (fail)
  refine (CF.out _ L121.out).mono ?_
  rintro e w22 ⟨rfl, hl⟩
  have L122 := hide (L121.out.trans hl)
  have L22 := hide (L21.out.trans hl)
  have Y22 := hide (Y21.out.below hl)
  clear hl
  go_wp2_with (fail)
  refine (CO.out _ L122.out).mono ?_
  rintro e w23 ⟨P, N, K, rfl, hs, hl⟩
  have HS9 := hide hs
  have HLT := hide (Y22.out.lt)
  have L23 := hide (L22.out.trans hl)
  have HSZ := hide (Below.size L22.out)
  have Y23 := hide (Y22.out.below hl)
  clear hl hs
  go_wp2_with (first | (refine wpList_load_saga (by rfl) _ (by rfl) (by rfl) X12.out ?_) | (refine wpList_store_saga (by rfl) _ _ (by rfl) (by rfl) Y23.out (by rfl) ?_; intro w24 Z24 G24))
  have S9 : Hid (StepsAt (w.heap.size ≤ ·) w24 (.slice P N K) l) := FlatAt.mono (own_kept HS9.out HLT.out G24) (fun i _ hf => Nat.le_trans HSZ.out hf)
  have HLF : Hid (Later w _) := L23.out.grown G24 (Below.size L23.out) (fun k hk => by have := Option.some.inj hk; have := HG0.out; omega)
  refine bodyPost_ret (results_box2 Tryz.results36 _ _ (g + 1) 72 _ _ (by rfl) Z24 Tryz.underlying72 (by rfl) (by kernel_rfl) (.int .i64 0) (by rfl)) (by rfl) ?_
  exact ⟨P, N, K, rfl, S9.out, HLF.out⟩
/-- The list of steps that Cancel tells. -/
def cancelL (l : List StepD) (s : SagaD) : List StepD := if (cancelF l s).2 = 10 then [] else l
theorem cancel_any {F : Nat → Prop} {s : SagaD} {l : List StepD} (h : StepsAt F w s.v l) (hl6 : l.length ≤ 1000000) (hw : ∀ x ∈ l, x.wf) (h1 : I64 s.step) : Calls Tryz.prog 36 #[s.val] w (CTold (cancelF l s).1 (cancelF l s).2 (cancelL l s) w) := by
  unfold cancelL cancelF
  cases hq : goodF l s with
  | false => exact cancel_arg h hl6 hw h1 hq
  | true =>
    rw [if_pos rfl]
    have he : (checkF s.name l).2 = 0 := by
      unfold goodF at hq
      by_cases he : (checkF s.name l).2 = 0
      · exact he
      · rw [if_pos he] at hq; cases hq
    have hl8 := (check_good he).1
    by_cases n2 : s.st = 2
    · rw [if_pos n2]; exact cancel_undo h hl6 hw h1 hq n2
    · rw [if_neg n2]
      by_cases n1 : s.st = 1
      · have hwb : wantsB l s = true := by unfold wantsB; rw [hq, n1]; rfl
        obtain ⟨_, p1, p2, p3, _⟩ := wants_parts hwb
        cases hse : sealedS l s with
        | true =>
          rw [show lateB l s = true from by unfold lateB; rw [hse]; simp]
          exact cancel_late2 h hl8 hw h1 hq n1 hse
        | false =>
          by_cases hp : s.step = ((pivotN l : Nat) : Int)
          · rw [show lateB l s = true from by unfold lateB; rw [decide_eq_true hp]; simp]
            exact cancel_late3 h hl8 hw h1 hq n1 hse hp
          · rw [show lateB l s = false from by unfold lateB; rw [hse, decide_eq_false hp, n1]; rfl]
            exact cancel_ok h hl8 hw h1 hq n1 hse hp p1 p3
      · rw [show lateB l s = true from by unfold lateB; rw [decide_eq_true n1]; rfl]
        exact cancel_late1 h hl8 hw h1 hq n1 n2
end
end Go.Proofs.YtdkiopajilakcaaGreat
/- Something happens to a saga. -/
namespace Go.Proofs.YtdkiopajilakcaaGreat
open Go.RowKit
structure EvD where
  kind : Int
  step : Int
  tr : Int
  back : Bool
  good : Bool
def EvD.cells (c : EvD) : List Value := [.int .i64 c.kind, .int .i64 c.step, .int .i64 c.tr, .bool c.back, .bool c.good]
abbrev EvD.val (c : EvD) : Value := .agg c.cells.toArray
/-- What it makes of a saga; did it do something? -/
def happenF (l : List StepD) (s : SagaD) (e : EvD) : SagaD × Bool :=
  if e.kind = 0 then (reportF l s e.step e.tr e.back e.good, isIt l s e.step e.tr e.back)
  else if e.kind = 1 then (lapseF l s e.step e.tr e.back, isIt l s e.step e.tr e.back)
  else if e.kind = 2 then ((cancelF l s).1, decide ((cancelF l s).2 = 0))
  else if e.kind = 3 then (reportF l s (wantsC l s).step (wantsC l s).tr (wantsC l s).back true, isIt l s (wantsC l s).step (wantsC l s).tr (wantsC l s).back)
  else if e.kind = 4 then (reportF l s (wantsC l s).step (wantsC l s).tr (wantsC l s).back false, isIt l s (wantsC l s).step (wantsC l s).tr (wantsC l s).back)
  else (lapseF l s (wantsC l s).step (wantsC l s).tr (wantsC l s).back, isIt l s (wantsC l s).step (wantsC l s).tr (wantsC l s).back)
def happenL (l : List StepD) (s : SagaD) (e : EvD) : List StepD := if e.kind = 2 then cancelL l s else l
section
variable {w : World}
end
end Go.Proofs.YtdkiopajilakcaaGreat
/- What comes of a saga, event by event: what is hit, what is told, and how many commands are left. -/
namespace Go.Proofs.YtdkiopajilakcaaGreat
open Go.RowKit

theorem up_get {m : Nat} {i : Nat} (h : i < 8) : (upH (m : Int)).l[i]? = some (decide (i < m)) := by
  have hc : i = 0 ∨ i = 1 ∨ i = 2 ∨ i = 3 ∨ i = 4 ∨ i = 5 ∨ i = 6 ∨ i = 7 := by omega
  rcases hc with rfl | rfl | rfl | rfl | rfl | rfl | rfl | rfl <;> simp only [upH, Hits.l, List.getElem?_cons_zero, List.getElem?_cons_succ] <;> congr 1 <;> simp only [decide_eq_decide] <;> omega
theorem up_set_on {m : Nat} (h : m < 8) : (upH (m : Int)).set m true = upH ((m : Int) + 1) := by
  have hc : m = 0 ∨ m = 1 ∨ m = 2 ∨ m = 3 ∨ m = 4 ∨ m = 5 ∨ m = 6 ∨ m = 7 := by omega
  rcases hc with rfl | rfl | rfl | rfl | rfl | rfl | rfl | rfl <;> rfl
theorem up_set_same {m : Nat} (h : m < 8) : (upH ((m : Int) + 1)).set m true = upH ((m : Int) + 1) := by
  have hc : m = 0 ∨ m = 1 ∨ m = 2 ∨ m = 3 ∨ m = 4 ∨ m = 5 ∨ m = 6 ∨ m = 7 := by omega
  rcases hc with rfl | rfl | rfl | rfl | rfl | rfl | rfl | rfl <;> rfl
theorem up_set_off {m : Nat} (h : m < 8) : (upH ((m : Int) + 1)).set m false = upH (m : Int) := by
  have hc : m = 0 ∨ m = 1 ∨ m = 2 ∨ m = 3 ∨ m = 4 ∨ m = 5 ∨ m = 6 ∨ m = 7 := by omega
  rcases hc with rfl | rfl | rfl | rfl | rfl | rfl | rfl | rfl <;> rfl

/-- Each step ahead of the pivot has a way back. -/
theorem undo_free : ∀ (l done : List StepD), (firstBad done l).2 = 0 → pivotB done = false → ∀ (i : Nat) (s : StepD), l[i]? = some s → (l.take (i + 1)).any (fun a => a.pivot) = false → s.undo = true
  | [], _, _, _, i, s, hs, _ => by simp at hs
  | x :: r, done, h, hd, i, s, hs, hp => by
    unfold firstBad at h
    split at h
    · rename_i h0
      have hxp : x.pivot = false := by
        rw [List.take_succ_cons, List.any_cons] at hp
        cases hq : x.pivot <;> simp_all
      cases i with
      | zero =>
        obtain rfl : x = s := by simpa using hs
        unfold stepErr at h0
        split at h0
        · cases h0
        · split at h0
          · cases h0
          · split at h0
            · cases h0
            · rename_i hu
              rw [hd, hxp] at hu
              simpa using hu
      | succ i =>
        refine undo_free r (done ++ [x]) h ?_ i s (by simpa using hs) ?_
        · unfold pivotB at hd ⊢
          rw [List.any_append, hd]
          simp [hxp]
        · rw [List.take_succ_cons, List.any_cons] at hp
          cases hq : (r.take (i + 1)).any (fun a => a.pivot) <;> simp_all
    · exact absurd h ‹_›
theorem undo_has : ∀ (l done : List StepD), (firstBad done l).2 = 0 → ∀ (i : Nat) (s : StepD), l[i]? = some s → s.undo = true → pivotB (done ++ l.take (i + 1)) = false
  | [], _, _, i, s, hs, _ => by simp at hs
  | x :: r, done, h, i, s, hs, hu => by
    unfold firstBad at h
    split at h
    · rename_i h0
      cases i with
      | zero =>
        obtain rfl : x = s := by simpa using hs
        unfold stepErr at h0
        split at h0
        · cases h0
        · split at h0
          · cases h0
          · split at h0
            · cases h0
            · rename_i hne
              rw [hu] at hne
              unfold pivotB at hne ⊢
              rw [List.any_append]
              simp at hne ⊢
              exact hne
      | succ i =>
        have := undo_has r (done ++ [x]) h i s (by simpa using hs) hu
        rw [List.take_succ_cons]
        simpa using this
    · exact absurd h ‹_›
theorem check_first {name : ByteArray} {l : List StepD} (h : (checkF name l).2 = 0) : (firstBad [] l).2 = 0 := by
  unfold checkF at h
  split at h
  · cases h
  · exact h
/-- The first m steps can all be undone. -/
def Free (l : List StepD) (m : Nat) : Prop := (l.take m).any (fun a => a.pivot) = false
theorem Free.undo {name : ByteArray} {l : List StepD} (hc : (checkF name l).2 = 0) {m : Nat} (h : Free l m) {i : Nat} {s : StepD} (hi : i < m) (hs : l[i]? = some s) : s.undo = true := by
  refine undo_free l [] (check_first hc) rfl i s hs ?_
  unfold Free at h
  rw [List.any_eq_false] at h ⊢
  intro x hx
  refine h x ?_
  obtain ⟨j, hj, rfl⟩ := List.mem_iff_getElem.1 hx
  have hj2 : j < i + 1 := by rw [List.length_take] at hj; omega
  rw [List.getElem_take]
  have hjl : j < l.length := by rw [List.length_take] at hj; omega
  exact List.mem_iff_getElem.2 ⟨j, by rw [List.length_take]; omega, by rw [List.getElem_take]⟩
theorem free_of_undo {name : ByteArray} {l : List StepD} (hc : (checkF name l).2 = 0) {i : Nat} {s : StepD} (hs : l[i]? = some s) (hu : s.undo = true) : Free l (i + 1) := by
  exact undo_has l [] (check_first hc) i s hs hu
theorem Free.le {l : List StepD} {m k : Nat} (h : Free l m) (hk : k ≤ m) : Free l k := by
  unfold Free at h ⊢
  rw [List.any_eq_false] at h ⊢
  intro x hx
  refine h x ?_
  obtain ⟨j, hj, rfl⟩ := List.mem_iff_getElem.1 hx
  rw [List.length_take] at hj
  rw [List.getElem_take]
  exact List.mem_iff_getElem.2 ⟨j, by rw [List.length_take]; omega, by rw [List.getElem_take]⟩
/-- What is not sealed can be undone. -/
theorem free_of_open {l : List StepD} {m : Nat} (h8 : l.length ≤ 8) (hm : m ≤ l.length) (h : sealedF l (upH (m : Int)).l = false) : Free l m := by
  unfold Free
  cases hq : (l.take m).any (fun a => a.pivot) with
  | false => rfl
  | true =>
    exfalso
    rw [List.any_eq_true] at hq
    obtain ⟨x, hx, hxp⟩ := hq
    obtain ⟨j, hj, rfl⟩ := List.mem_iff_getElem.1 hx
    rw [List.length_take] at hj
    rw [List.getElem_take] at hxp
    have hle : l.findIdx (fun s => s.pivot) ≤ j := by
      rcases Nat.lt_or_ge j (l.findIdx (fun s => s.pivot)) with hlt | hge
      · exact absurd hxp (by simpa using List.not_of_lt_findIdx hlt)
      · exact hge
    have hp : pivotN l = l.findIdx (fun s => s.pivot) + 1 := by unfold pivotN; rw [if_pos (by omega)]
    unfold sealedF at h
    rw [hp] at h
    have hg := up_get (m := m) (i := l.findIdx (fun s => s.pivot)) (by omega)
    rw [show ((l.findIdx (fun s => s.pivot) + 1 : Nat) : Int) = (l.findIdx (fun s => s.pivot) : Int) + 1 from by omega, hit_at hg] at h
    simp at h
    omega
theorem down_up {name : ByteArray} {l : List StepD} (hc : (checkF name l).2 = 0) {m : Nat} (hm : m ≤ l.length) (hf : Free l m) : ∀ (K : Nat), m ≤ K → K ≤ l.length → downN l (upH (m : Int)).l K = m
  | 0, h, _ => by
    obtain rfl : m = 0 := by omega
    rfl
  | K + 1, h, hK => by
    have h8 := (check_good hc).1
    have hg := up_get (m := m) (i := K) (by omega)
    have hl : l[K]? = some l[K] := List.getElem?_eq_getElem (by omega)
    have e : okAt l (upH (m : Int)).l K = decide (K < m) := by
      unfold okAt
      rw [hl, hg]
      by_cases hq : K < m
      · simp [Free.undo hc hf hq hl]
      · simp [hq]
    unfold downN
    rw [e]
    by_cases hq : K < m
    · rw [if_pos (by simpa using hq)]; omega
    · rw [if_neg (by simpa using hq)]
      exact down_up hc hm hf K (by omega) (by omega)
theorem downF_up {name : ByteArray} {l : List StepD} (hc : (checkF name l).2 = 0) {m : Nat} {k : Int} (hm : (m : Int) ≤ k) (hk : k ≤ (l.length : Int)) (hf : Free l m) : downF l (upH (m : Int)).l k = m := by
  unfold downF
  rw [Int.min_eq_left hk]
  exact down_up hc (by omega) hf _ (by omega) (by omega)

/-- How many commands the first k steps take, and those of them that can be undone. -/
def sumT : List StepD → Int
  | [] => 0
  | s :: r => triesF s + sumT r
def sumU : List StepD → Int
  | [] => 0
  | s :: r => (if s.undo then triesF s else 0) + sumU r
theorem sumT_app : ∀ (l : List StepD) (s : StepD), sumT (l ++ [s]) = sumT l + triesF s
  | [], s => by simp [sumT]
  | x :: r, s => by rw [List.cons_append, sumT, sumT, sumT_app r s]; omega
theorem sumU_app : ∀ (l : List StepD) (s : StepD), sumU (l ++ [s]) = sumU l + (if s.undo then triesF s else 0)
  | [], s => by simp [sumU]
  | x :: r, s => by rw [List.cons_append, sumU, sumU, sumU_app r s]; omega
theorem sum_both : ∀ (l : List StepD), sumL triesF l = sumT l + sumU l
  | [] => rfl
  | s :: r => by
    rw [sumL, sumT, sumU, sum_both r]
    split <;> omega
theorem take_next {l : List StepD} {i : Nat} {s : StepD} (h : l[i]? = some s) : l.take (i + 1) = l.take i ++ [s] := by
  obtain ⟨hi, rfl⟩ := List.getElem?_eq_some_iff.1 h
  exact List.take_succ_eq_append_getElem hi
def A (l : List StepD) (k : Nat) : Int := sumT (l.take k)
def U (l : List StepD) (k : Nat) : Int := sumU (l.take k)
theorem A_next {l : List StepD} {i : Nat} {s : StepD} (h : l[i]? = some s) : A l (i + 1) = A l i + triesF s := by unfold A; rw [take_next h, sumT_app]
theorem U_next {l : List StepD} {i : Nat} {s : StepD} (h : l[i]? = some s) : U l (i + 1) = U l i + (if s.undo then triesF s else 0) := by unfold U; rw [take_next h, sumU_app]
theorem A_le {name : ByteArray} {l : List StepD} (hc : (checkF name l).2 = 0) {i : Nat} : ∀ (d : Nat), i + d ≤ l.length → A l i ≤ A l (i + d)
  | 0, _ => Int.le_refl _
  | d + 1, h => by
    have hl : l[i + d]? = some l[i + d] := List.getElem?_eq_getElem (by omega)
    have h1 := A_le hc (i := i) d (by omega)
    have h2 := A_next hl
    have h3 := tries_range ((check_good hc).2.2.2 _ (List.getElem_mem (show i + d < l.length by omega)))
    rw [show i + (d + 1) = i + d + 1 from rfl]
    omega
theorem U_le {name : ByteArray} {l : List StepD} (hc : (checkF name l).2 = 0) {i : Nat} : ∀ (d : Nat), i + d ≤ l.length → U l i ≤ U l (i + d)
  | 0, _ => Int.le_refl _
  | d + 1, h => by
    have hl : l[i + d]? = some l[i + d] := List.getElem?_eq_getElem (by omega)
    have h1 := U_le hc (i := i) d (by omega)
    have h2 := U_next hl
    have h3 := tries_range ((check_good hc).2.2.2 _ (List.getElem_mem (show i + d < l.length by omega)))
    rw [show i + (d + 1) = i + d + 1 from rfl]
    split at h2 <;> omega

/-- A saga that is running at step q + 1. -/
structure Runs (l : List StepD) (s : SagaD) (q : Nat) : Prop where
  st : s.st = 1
  step : s.step = (q : Int) + 1
  lt : q < l.length
  lo : 1 ≤ s.tr
  hi : s.tr ≤ triesN l s.step
  hit : s.hit = upH (q : Int) ∨ s.hit = upH ((q : Int) + 1)
/-- One on its way back, at step q + 1. -/
structure Backs (l : List StepD) (s : SagaD) (q : Nat) : Prop where
  st : s.st = 2
  step : s.step = (q : Int) + 1
  lt : q < l.length
  lo : 1 ≤ s.tr
  hi : s.tr ≤ triesN l s.step
  hit : s.hit = upH ((q : Int) + 1)
  free : Free l (q + 1)
section
variable {l : List StepD} {s : SagaD} {q : Nat}
theorem Runs.wants (hc : (checkF s.name l).2 = 0) (h : Runs l s q) : wantsB l s = true := by
  unfold wantsB goodF cameF
  rw [if_neg (by rw [hc]; decide), if_pos h.st, h.st, decide_eq_true h.lo, decide_eq_true h.hi, h.step, show (q : Int) + 1 - 1 = (q : Int) from by omega]
  rcases h.hit with e | e <;> simp [e]
theorem Backs.wants (hc : (checkF s.name l).2 = 0) (h : Backs l s q) : wantsB l s = true := by
  have hl : l[q]? = some (l[q]'h.lt) := List.getElem?_eq_getElem h.lt
  have hu := Free.undo hc h.free (Nat.lt_succ_self q) hl
  unfold wantsB goodF undoAt
  rw [if_neg (by rw [hc]; decide), if_neg (by rw [h.st]; decide), if_pos h.st, h.st, decide_eq_true h.lo, decide_eq_true h.hi, h.step, h.hit, show ((q : Int) + 1 - 1).toNat = q from by omega, hl]
  simp [hu]
theorem done_wants (h1 : s.st ≠ 1) (h2 : s.st ≠ 2) : wantsB l s = false := by unfold wantsB; simp [h1, h2]
theorem tries_one (hc : (checkF s.name l).2 = 0) {k : Nat} (hk : k < l.length) : 1 ≤ triesN l ((k : Int) + 1) := by
  have hl : l[k]? = some l[k] := List.getElem?_eq_getElem hk
  rw [triesN_at hl]
  have hg := (check_good hc).2.2.2 _ (List.getElem_mem hk)
  rw [tries_good hg]
  have := good_nums hg
  omega
/-- Where nothing is sealed, a saga of which m steps are hit goes back to step m. -/
theorem down_to (hc : (checkF s.name l).2 = 0) {m : Nat} (hh : s.hit = upH (m : Int)) (hm : (m : Int) ≤ s.step) (hs : s.step ≤ (l.length : Int)) (hf : Free l m) : downS l s = if m = 0 then s.ended 4 0 else s.at_ 2 (m : Int) := by
  unfold downS
  rw [hh, downF_up hc hm hs hf]
theorem back_at (hc : (checkF s.name l).2 = 0) {m : Nat} (hh : s.hit = upH ((m : Int) + 1)) (hm : m < l.length) (hf : Free l (m + 1)) : Backs l (s.at_ 2 ((m : Int) + 1)) m :=
  ⟨rfl, rfl, hm, Int.le_refl 1, tries_one (s := s) hc hm, hh, hf⟩
/-- What comes of a saga, of which m steps are hit, when it fails. -/
theorem fails_case (hc : (checkF s.name l).2 = 0) {m : Nat} (hh : s.hit = upH (m : Int)) (hm : (m : Int) ≤ s.step) (hs : s.step ≤ (l.length : Int)) :
    failsS l s = s.ended 5 s.step ∨ (m = 0 ∧ failsS l s = s.ended 4 0) ∨ (∃ k, m = k + 1 ∧ failsS l s = s.at_ 2 ((k : Int) + 1) ∧ Backs l (s.at_ 2 ((k : Int) + 1)) k) := by
  unfold failsS
  cases hq : sealedS l s with
  | true => exact .inl (by rw [if_pos rfl])
  | false =>
    rw [if_neg (by simp)]
    have hf : Free l m := free_of_open (check_good hc).1 (by omega) (by unfold sealedS at hq; rw [hh] at hq; exact hq)
    rw [down_to hc hh hm hs hf]
    cases m with
    | zero => exact .inr (.inl ⟨rfl, by rw [if_pos rfl]⟩)
    | succ k =>
      rw [if_neg (by omega), show ((k + 1 : Nat) : Int) = (k : Int) + 1 from by omega]
      exact .inr (.inr ⟨k, rfl, rfl, back_at hc (by rw [hh]; rfl) (by omega) hf⟩)
end
end Go.Proofs.YtdkiopajilakcaaGreat
/- What an event makes of a saga that is running or on its way back, and how many commands are left. -/
namespace Go.Proofs.YtdkiopajilakcaaGreat
open Go.RowKit
section
variable {l : List StepD} {s : SagaD} {q : Nat} {ev : EvD}
theorem wants_fields (h : wantsB l s = true) : (wantsC l s).step = s.step ∧ (wantsC l s).tr = s.tr ∧ (wantsC l s).back = decide (s.st = 2) := by
  unfold wantsC
  rw [h]
  exact ⟨rfl, rfl, rfl⟩
theorem is_wanted (h : wantsB l s = true) : isIt l s (wantsC l s).step (wantsC l s).tr (wantsC l s).back = true := by
  obtain ⟨e1, e2, e3⟩ := wants_fields h
  unfold isIt
  rw [h, e1, e2, e3]
  simp
/-- What an event that is about what is wanted makes of a saga. -/
def evE (l : List StepD) (s : SagaD) (k : Int) : SagaD := if k = 3 then reportE l s (decide (s.st = 2)) true else if k = 4 then missedS l s else lapseE l s
theorem hap_it (h : wantsB l s = true) (hk : 3 ≤ ev.kind) : happenF l s ev = (evE l s ev.kind, true) := by
  have hi := is_wanted h
  obtain ⟨e1, e2, e3⟩ := wants_fields h
  unfold happenF evE
  rw [if_neg (by omega), if_neg (by omega), if_neg (by omega)]
  unfold reportF lapseF
  rw [hi, e3]
  split
  · rfl
  · split <;> rfl
theorem hap_off (h : wantsB l s = false) (hk : ev.kind ≠ 2) : happenF l s ev = (s, false) := by
  have hi : ∀ a b c, isIt l s a b c = false := fun a b c => by unfold isIt; rw [h]; rfl
  unfold happenF reportF lapseF
  rw [hi, hi]
  simp [hk]
theorem Runs.withV (h : Runs l s q) (p : Option Addr) (n c : Nat) : Runs l (s.withV p n c) q := ⟨h.st, h.step, h.lt, h.lo, h.hi, h.hit⟩
theorem Backs.withV (h : Backs l s q) (p : Option Addr) (n c : Nat) : Backs l (s.withV p n c) q := ⟨h.st, h.step, h.lt, h.lo, h.hi, h.hit, h.free⟩
/-- A saga that is missed, of which m steps are hit. -/
theorem missed_run (hc : (checkF s.name l).2 = 0) (h : Runs l s q) {m : Nat} (hh : s.hit = upH (m : Int)) (hm : m = q ∨ m = q + 1) :
    (missedS l s).name = s.name ∧ ((Runs l (missedS l s) q ∧ (missedS l s).tr = s.tr + 1) ∨ (missedS l s).st = 5 ∨ (q = 0 ∧ (missedS l s).st = 4) ∨ (∃ k, Backs l (missedS l s) k ∧ (missedS l s).tr = 1 ∧ q ≤ k + 1 ∧ k ≤ q)) := by
  unfold missedS
  by_cases ht : s.tr < triesN l s.step
  · rw [if_pos ht]
    exact ⟨rfl, .inl ⟨⟨h.st, h.step, h.lt, by show 1 ≤ s.tr + 1; have := h.lo; omega, by show s.tr + 1 ≤ triesN l s.step; omega, h.hit⟩, rfl⟩⟩
  · rw [if_neg ht, if_neg (by rw [h.st]; decide)]
    have hlt := h.lt
    rcases fails_case hc hh (by have := h.step; omega) (by have := h.step; omega) with e | ⟨h0, e⟩ | ⟨k, hk, e, hb⟩
    · rw [e]; exact ⟨rfl, .inr (.inl rfl)⟩
    · rw [e]; exact ⟨rfl, .inr (.inr (.inl ⟨by omega, rfl⟩))⟩
    · rw [e]; exact ⟨rfl, .inr (.inr (.inr ⟨k, hb, rfl, by omega, by omega⟩))⟩
theorem missed_back (h : Backs l s q) : (missedS l s).name = s.name ∧ ((Backs l (missedS l s) q ∧ (missedS l s).tr = s.tr + 1) ∨ (missedS l s).st = 5) := by
  unfold missedS
  by_cases ht : s.tr < triesN l s.step
  · rw [if_pos ht]
    exact ⟨rfl, .inl ⟨⟨h.st, h.step, h.lt, by show 1 ≤ s.tr + 1; have := h.lo; omega, by show s.tr + 1 ≤ triesN l s.step; omega, h.hit, h.free⟩, rfl⟩⟩
  · rw [if_neg ht, if_pos h.st]
    exact ⟨rfl, .inr rfl⟩
theorem hitN_step (h : s.step = (q : Int) + 1) (b : Bool) : s.hitN b = ⟨s.name, s.p, s.n, s.c, s.st, s.step, s.tr, s.hit.set q b⟩ := by
  unfold SagaD.hitN
  rw [h, show ((q : Int) + 1 - 1).toNat = q from by omega]
theorem Runs.hitOn (hc : (checkF s.name l).2 = 0) (h : Runs l s q) : (s.hitN true).hit = upH ((q : Int) + 1) := by
  have h8 := (check_good hc).1
  have hlt := h.lt
  rw [hitN_step h.step]
  show s.hit.set q true = _
  rcases h.hit with e | e
  · rw [e]; exact up_set_on (by omega)
  · rw [e]; exact up_set_same (by omega)
theorem Runs.on (hc : (checkF s.name l).2 = 0) (h : Runs l s q) : Runs l (s.hitN true) q := ⟨h.st, h.step, h.lt, h.lo, h.hi, .inr (h.hitOn hc)⟩
theorem Backs.hitOn (hc : (checkF s.name l).2 = 0) (h : Backs l s q) : (s.hitN true).hit = upH ((q : Int) + 1) := by
  have h8 := (check_good hc).1
  have hlt := h.lt
  rw [hitN_step h.step]
  show s.hit.set q true = _
  rw [h.hit]; exact up_set_same (by omega)
theorem Backs.on (hc : (checkF s.name l).2 = 0) (h : Backs l s q) : Backs l (s.hitN true) q := ⟨h.st, h.step, h.lt, h.lo, h.hi, h.hitOn hc, h.free⟩
/-- What an event makes of a saga that is running. -/
def RunOut (l : List StepD) (s : SagaD) (q : Nat) (k : Int) (t : SagaD) : Prop :=
  (k = 3 ∧ q + 1 = l.length ∧ t.st = 3) ∨ (k = 3 ∧ Runs l t (q + 1) ∧ t.tr = 1) ∨ (k ≠ 3 ∧ Runs l t q ∧ t.tr = s.tr + 1) ∨ (k ≠ 3 ∧ t.st = 5) ∨ (k ≠ 3 ∧ q = 0 ∧ t.st = 4) ∨ (k ≠ 3 ∧ ∃ j, Backs l t j ∧ t.tr = 1 ∧ q ≤ j + 1 ∧ j ≤ q)
theorem run_ev (hc : (checkF s.name l).2 = 0) (h : Runs l s q) (k : Int) : (evE l s k).name = s.name ∧ RunOut l s q k (evE l s k) := by
  unfold evE
  have hst := h.st
  by_cases h3 : k = 3
  · rw [if_pos h3]
    unfold reportE
    rw [show decide (s.st = 2) = false from by rw [hst]; rfl]
    simp only [if_pos, Bool.false_eq_true, if_false]
    unfold nextS
    have hs : (s.hitN true).step = (q : Int) + 1 := h.step
    rw [hs]
    by_cases hn : (q : Int) + 1 = (l.length : Int)
    · rw [if_pos hn]
      exact ⟨rfl, .inl ⟨h3, by omega, rfl⟩⟩
    · rw [if_neg hn]
      have hlt := h.lt
      refine ⟨rfl, .inr (.inl ⟨h3, ⟨rfl, rfl, by omega, Int.le_refl 1, tries_one (s := s) hc (k := q + 1) (by omega), .inl ?_⟩, rfl⟩)⟩
      exact h.hitOn hc
  · rw [if_neg h3]
    by_cases h4 : k = 4
    · rw [if_pos h4]
      have hm : ∃ m : Nat, s.hit = upH (m : Int) ∧ (m = q ∨ m = q + 1) := by
        rcases h.hit with e | e
        · exact ⟨q, e, .inl rfl⟩
        · exact ⟨q + 1, by rw [e]; rfl, .inr rfl⟩
      obtain ⟨m, hh, hm⟩ := hm
      obtain ⟨e1, e2 | e2 | e2 | e2⟩ := missed_run hc h hh hm
      · exact ⟨e1, .inr (.inr (.inl ⟨h3, e2⟩))⟩
      · exact ⟨e1, .inr (.inr (.inr (.inl ⟨h3, e2⟩)))⟩
      · exact ⟨e1, .inr (.inr (.inr (.inr (.inl ⟨h3, e2⟩))))⟩
      · exact ⟨e1, .inr (.inr (.inr (.inr (.inr ⟨h3, e2⟩))))⟩
    · rw [if_neg h4]
      unfold lapseE
      obtain ⟨e1, e2 | e2 | e2 | e2⟩ := missed_run (s := s.hitN true) hc (h.on hc) (m := q + 1) (by rw [h.hitOn hc]; rfl) (.inr rfl)
      · exact ⟨e1, .inr (.inr (.inl ⟨h3, e2⟩))⟩
      · exact ⟨e1, .inr (.inr (.inr (.inl ⟨h3, e2⟩)))⟩
      · exact ⟨e1, .inr (.inr (.inr (.inr (.inl ⟨h3, e2⟩))))⟩
      · exact ⟨e1, .inr (.inr (.inr (.inr (.inr ⟨h3, e2⟩))))⟩
/-- What an event makes of one on its way back. -/
def BackOut (l : List StepD) (s : SagaD) (q : Nat) (k : Int) (t : SagaD) : Prop :=
  (k = 3 ∧ q = 0 ∧ t.st = 4) ∨ (k = 3 ∧ ∃ j, q = j + 1 ∧ Backs l t j ∧ t.tr = 1) ∨ (k ≠ 3 ∧ Backs l t q ∧ t.tr = s.tr + 1) ∨ (k ≠ 3 ∧ t.st = 5)
theorem back_ev (hc : (checkF s.name l).2 = 0) (h : Backs l s q) (k : Int) : (evE l s k).name = s.name ∧ BackOut l s q k (evE l s k) := by
  unfold evE
  have hst := h.st
  have h8 := (check_good hc).1
  have hlt := h.lt
  by_cases h3 : k = 3
  · rw [if_pos h3]
    unfold reportE
    rw [show decide (s.st = 2) = true from by rw [hst]; rfl]
    simp only [if_pos]
    have hh : (s.hitN false).hit = upH (q : Int) := by
      rw [hitN_step h.step]
      show s.hit.set q false = _
      rw [h.hit]
      exact up_set_off (by omega)
    have hs : (s.hitN false).step = (q : Int) + 1 := h.step
    have hd := down_to (s := s.hitN false) hc hh (by rw [hs]; omega) (by rw [hs]; omega) (h.free.le (by omega))
    rw [hd]
    cases q with
    | zero => rw [if_pos rfl]; exact ⟨rfl, .inl ⟨h3, rfl, rfl⟩⟩
    | succ j =>
      rw [if_neg (by omega)]
      refine ⟨rfl, .inr (.inl ⟨h3, j, rfl, ?_, rfl⟩)⟩
      rw [show ((j + 1 : Nat) : Int) = (j : Int) + 1 from by omega]
      exact back_at (s := s.hitN false) hc (by rw [hh]; rfl) (by omega) (h.free.le (by omega))
  · rw [if_neg h3]
    by_cases h4 : k = 4
    · rw [if_pos h4]
      obtain ⟨e1, e2 | e2⟩ := missed_back h
      · exact ⟨e1, .inr (.inr (.inl ⟨h3, e2⟩))⟩
      · exact ⟨e1, .inr (.inr (.inr ⟨h3, e2⟩))⟩
    · rw [if_neg h4]
      unfold lapseE
      obtain ⟨e1, e2 | e2⟩ := missed_back (h.on hc)
      · exact ⟨e1, .inr (.inr (.inl ⟨h3, e2⟩))⟩
      · exact ⟨e1, .inr (.inr (.inr ⟨h3, e2⟩))⟩
/-- Cancelled, while it is running. -/
theorem cancel_run (hc : (checkF s.name l).2 = 0) (h : Runs l s q) : ((cancelF l s).2 = 10 ∧ (cancelF l s).1 = SagaD.zero) ∨ ((cancelF l s).2 = 0 ∧ (cancelF l s).1.name = s.name ∧ ((cancelF l s).1.st = 5 ∨ Backs l (cancelF l s).1 q)) := by
  have hw := wants_parts (h.wants hc)
  unfold cancelF
  rw [if_pos hw.2.2.2.2.2.2.2, if_neg (by rw [h.st]; decide)]
  cases lateB l s with
  | true => exact .inl ⟨rfl, rfl⟩
  | false =>
    have hlt := h.lt
    have hs : (s.hitN true).step = (q : Int) + 1 := h.step
    rw [if_neg (by simp)]
    refine .inr ⟨rfl, ?_⟩
    rcases fails_case (s := s.hitN true) hc (m := q + 1) (by rw [h.hitOn hc]; rfl) (by rw [hs]; omega) (by rw [hs]; omega) with e | ⟨h0, e⟩ | ⟨k, hk, e, hb⟩
    · rw [e]; exact ⟨rfl, .inl rfl⟩
    · omega
    · obtain rfl : q = k := by omega
      rw [e]; exact ⟨rfl, .inr hb⟩
theorem cancel_back (hc : (checkF s.name l).2 = 0) (h : Backs l s q) : cancelF l s = (s, 0) := by
  have hw := wants_parts (h.wants hc)
  unfold cancelF
  rw [if_pos hw.2.2.2.2.2.2.2, if_pos h.st]
theorem cancel_off (h2 : s.st ≠ 2) (h1 : s.st ≠ 1) : ((cancelF l s).2 = 10 ∧ (cancelF l s).1 = SagaD.zero) ∨ ((cancelF l s).2 = 2 ∧ (cancelF l s).1 = s) := by
  unfold cancelF
  cases goodF l s with
  | false => exact .inr ⟨rfl, rfl⟩
  | true =>
    rw [if_pos rfl, if_neg h2, show lateB l s = true from by unfold lateB; simp [h1]]
    exact .inl ⟨rfl, rfl⟩

theorem downS_step (l : List StepD) (s : SagaD) : 0 ≤ (downS l s).step ∧ (downS l s).step ≤ (l.length : Int) := by
  have := downF_le l s.hit.l s.step
  unfold downS
  split
  · exact ⟨Int.le_refl 0, by show (0 : Int) ≤ _; omega⟩
  · exact ⟨by show (0 : Int) ≤ ((downF l s.hit.l s.step : Nat) : Int); omega, by show ((downF l s.hit.l s.step : Nat) : Int) ≤ _; omega⟩
theorem failsS_step {l : List StepD} {s : SagaD} (h0 : 0 ≤ s.step) (h1 : s.step ≤ 8) (hl : l.length ≤ 8) : 0 ≤ (failsS l s).step ∧ (failsS l s).step ≤ 9 := by
  unfold failsS
  split
  · exact ⟨h0, by show s.step ≤ 9; omega⟩
  · have := downS_step l s; omega
theorem missedS_step {l : List StepD} {s : SagaD} (h0 : 0 ≤ s.step) (h1 : s.step ≤ 8) (hl : l.length ≤ 8) : 0 ≤ (missedS l s).step ∧ (missedS l s).step ≤ 9 := by
  unfold missedS
  split
  · exact ⟨h0, by show s.step ≤ 9; omega⟩
  · split
    · exact ⟨h0, by show s.step ≤ 9; omega⟩
    · exact failsS_step h0 h1 hl
theorem ev_step {l : List StepD} {s : SagaD} (k : Int) (h0 : 0 ≤ s.step) (h1 : s.step ≤ 8) (hl : l.length ≤ 8) : 0 ≤ (evE l s k).step ∧ (evE l s k).step ≤ 9 := by
  unfold evE
  split
  · unfold reportE
    split
    · split
      · have := downS_step l (s.hitN false); omega
      · unfold nextS
        split
        · exact ⟨Int.le_refl 0, by show (0 : Int) ≤ 9; omega⟩
        · exact ⟨by show 0 ≤ s.step + 1; omega, by show s.step + 1 ≤ 9; omega⟩
    · exact missedS_step h0 h1 hl
  · split
    · exact missedS_step h0 h1 hl
    · exact missedS_step (s := s.hitN true) h0 h1 hl
theorem cancel_step {l : List StepD} {s : SagaD} (h0 : 0 ≤ s.step) (h1 : s.step ≤ 8) (hl : l.length ≤ 8) : 0 ≤ (cancelF l s).1.step ∧ (cancelF l s).1.step ≤ 9 := by
  unfold cancelF
  split
  · split
    · exact ⟨h0, by show s.step ≤ 9; omega⟩
    · split
      · exact ⟨Int.le_refl 0, by show (0 : Int) ≤ 9; omega⟩
      · exact failsS_step (s := s.hitN true) h0 h1 hl
  · exact ⟨h0, by show s.step ≤ 9; omega⟩

/-- How many commands are left at most. -/
def phi (l : List StepD) (s : SagaD) : Int :=
  if s.st = 1 then A l l.length - A l (s.step - 1).toNat - s.tr + 1 + U l l.length else if s.st = 2 then U l (s.step - 1).toNat + triesN l s.step - s.tr + 1 else 0
theorem Runs.phi (h : Runs l s q) : phi l s = A l l.length - A l q - s.tr + 1 + U l l.length := by
  unfold Proofs.YtdkiopajilakcaaGreat.phi
  rw [if_pos h.st, h.step, show ((q : Int) + 1 - 1).toNat = q from by omega]
theorem Backs.phi (h : Backs l s q) : phi l s = U l q + triesN l ((q : Int) + 1) - s.tr + 1 := by
  unfold Proofs.YtdkiopajilakcaaGreat.phi
  rw [if_neg (by rw [h.st]; decide), if_pos h.st, h.step, show ((q : Int) + 1 - 1).toNat = q from by omega]
theorem phi_off (h1 : s.st ≠ 1) (h2 : s.st ≠ 2) : phi l s = 0 := by unfold phi; rw [if_neg h1, if_neg h2]
theorem U_nn {name : ByteArray} (hc : (checkF name l).2 = 0) {k : Nat} (hk : k ≤ l.length) : 0 ≤ U l k := by
  have := U_le hc (i := 0) k (by omega)
  rw [Nat.zero_add] at this
  exact this
theorem Runs.pos (hc : (checkF s.name l).2 = 0) (h : Runs l s q) : 1 + U l l.length ≤ Proofs.YtdkiopajilakcaaGreat.phi l s := by
  have hl : l[q]? = some (l[q]'h.lt) := List.getElem?_eq_getElem h.lt
  have h1 := A_next hl
  have hlt := h.lt
  have h2 := A_le hc (i := q + 1) (l.length - (q + 1)) (by omega)
  rw [show q + 1 + (l.length - (q + 1)) = l.length from by omega] at h2
  have h3 := h.hi
  rw [h.step, triesN_at hl] at h3
  rw [h.phi]
  omega
theorem Backs.pos (_hc : (checkF s.name l).2 = 0) (h : Backs l s q) : 1 + U l q ≤ Proofs.YtdkiopajilakcaaGreat.phi l s := by
  have h3 := h.hi
  rw [h.step] at h3
  rw [h.phi]
  omega
theorem Backs.top {name : ByteArray} (hc : (checkF name l).2 = 0) (h : Backs l s q) (ht : s.tr = 1) : Proofs.YtdkiopajilakcaaGreat.phi l s = U l (q + 1) := by
  have hl : l[q]? = some (l[q]'h.lt) := List.getElem?_eq_getElem h.lt
  have h1 := U_next hl
  rw [Free.undo hc h.free (Nat.lt_succ_self q) hl, if_pos rfl] at h1
  rw [h.phi, ht, triesN_at hl, h1]
  omega
theorem run_less (hc : (checkF s.name l).2 = 0) (h : Runs l s q) {k : Int} {t : SagaD} (ht : RunOut l s q k t) : Proofs.YtdkiopajilakcaaGreat.phi l t + 1 ≤ Proofs.YtdkiopajilakcaaGreat.phi l s := by
  have h0 := h.pos hc
  have hu := U_nn hc (Nat.le_refl l.length)
  have hlt := h.lt
  rcases ht with ⟨_, _, e⟩ | ⟨_, e, e2⟩ | ⟨_, e, e2⟩ | ⟨_, e⟩ | ⟨_, _, e⟩ | ⟨_, j, e, e2, _, _⟩
  · rw [phi_off (s := t) (by rw [e]; decide) (by rw [e]; decide)]; omega
  · have hl : l[q]? = some (l[q]'h.lt) := List.getElem?_eq_getElem h.lt
    have h1 := A_next hl
    have h3 := h.hi
    rw [h.step, triesN_at hl] at h3
    rw [e.phi, h.phi, e2]
    omega
  · rw [e.phi, h.phi, e2]; omega
  · rw [phi_off (s := t) (by rw [e]; decide) (by rw [e]; decide)]; omega
  · rw [phi_off (s := t) (by rw [e]; decide) (by rw [e]; decide)]; omega
  · have := e.lt
    rw [e.top hc e2]
    have h4 := U_le hc (i := j + 1) (l.length - (j + 1)) (by omega)
    rw [show j + 1 + (l.length - (j + 1)) = l.length from by omega] at h4
    omega
theorem back_less (hc : (checkF s.name l).2 = 0) (h : Backs l s q) {k : Int} {t : SagaD} (ht : BackOut l s q k t) : Proofs.YtdkiopajilakcaaGreat.phi l t + 1 ≤ Proofs.YtdkiopajilakcaaGreat.phi l s := by
  have h0 := h.pos hc
  have hlt := h.lt
  have hu := U_nn hc (k := q) (by omega)
  rcases ht with ⟨_, _, e⟩ | ⟨_, j, hj, e, e2⟩ | ⟨_, e, e2⟩ | ⟨_, e⟩
  · rw [phi_off (s := t) (by rw [e]; decide) (by rw [e]; decide)]; omega
  · rw [e.top hc e2, ← hj]; omega
  · rw [e.phi, h.phi, e2]; omega
  · rw [phi_off (s := t) (by rw [e]; decide) (by rw [e]; decide)]; omega
theorem begin_runs {name : ByteArray} (hc : (checkF name l).2 = 0) (p : Option Addr) (n c : Nat) : Runs l ⟨name, p, n, c, 1, 1, 1, upH 0⟩ 0 :=
  ⟨rfl, rfl, (check_good hc).2.1, Int.le_refl 1, tries_one (s := ⟨name, p, n, c, 1, 1, 1, upH 0⟩) hc (k := 0) (check_good hc).2.1, .inl rfl⟩
theorem begin_phi {name : ByteArray} (hc : (checkF name l).2 = 0) (p : Option Addr) (n c : Nat) : Proofs.YtdkiopajilakcaaGreat.phi l ⟨name, p, n, c, 1, 1, 1, upH 0⟩ = sumF triesF name l := by
  rw [(begin_runs hc p n c).phi]
  unfold sumF
  rw [if_pos hc, sum_both]
  unfold A U
  rw [List.take_length, List.take_zero]
  show sumT l - 0 - 1 + 1 + sumU l = _
  omega
end
end Go.Proofs.YtdkiopajilakcaaGreat
