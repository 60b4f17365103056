/- Texts merged: SagB, SagH, Clone, ChkB, ChkC, RefB, RChk, PlanS, SagC, SagD, Turned, BkA, BkB, Chain, BkC, BkD, ShelfD, Ints, RefInts, BkE, BkF, OrderR. -/
import Derived.Test.YtpckdhjnhnonhaaGreatBaseS1
import Derived.ChangeKeysEq
import Derived.Test.YtpckdhjnhnonhaaGreatProg
import Derived.OwnWalk
import Derived.Maps.RangeWalk
import Derived.Shelf.SlIterI.Nil
import Derived.Shelf.SortM.Plain
import Derived.Shelf.SortM.SortNone
import Derived.Ground.GgzProg
import Derived.Ground.SlgmProg
import Derived.Laws.CopyOwn
import Derived.Deep.QuietTactic
import Derived.BigQuiet
import Derived.Maps.AppendAt
/- A saga in a block of its own: read and written whole, or cell by cell. -/
namespace Go.Proofs.YtpckdhjnhnonhaaGreat
open Go.RowKit

def SBox (T : TypeId) (g : Nat) (s : SagaD) (w : World) : Prop := w.heap[g]? = some (.cells s.cells.toArray T (0, 0))
theorem SagaD.one (s : SagaD) : ∀ u ∈ s.cells, u.oneCell' = true := by
  intro u hu
  simp only [SagaD.cells, List.mem_cons, List.not_mem_nil, or_false] at hu
  rcases hu with rfl | rfl | rfl | rfl | rfl | rfl | rfl | rfl | rfl | rfl | rfl | rfl | rfl <;> rfl
theorem saga_put (x y : SagaD) : putAt x.cells.toArray 0 y.cells = y.cells.toArray := by simp [putAt, SagaD.cells]
section
variable {T : TypeId} {w w' : World} {g : Nat} {s : SagaD}
theorem SBox.lt (h : SBox T g s w) : g < w.heap.size := lt_of_block h
theorem SBox.below (h : SBox T g s w) (hl : Later w w') : SBox T g s w' := (Below.block hl g (lt_of_block h)).trans h
theorem SBox.other (h : SBox T g s w) {r : Option Nat} (hg : w.grownBy w' r) (hr : some g ≠ r) : SBox T g s w' := (hg.block g h.lt hr).trans h
theorem SBox.c0 (h : SBox T g s w) : w.cell? ⟨g, 0, none⟩ = some (.string s.name) := (cell_of_row w g 0 _ _ _ h).trans rfl
theorem SBox.c1 (h : SBox T g s w) : w.cell? ⟨g, 1, none⟩ = some (.slice s.p s.n s.c) := (cell_of_row w g 1 _ _ _ h).trans rfl
theorem SBox.c2 (h : SBox T g s w) : w.cell? ⟨g, 2, none⟩ = some (.int .i64 s.st) := (cell_of_row w g 2 _ _ _ h).trans rfl
theorem SBox.c3 (h : SBox T g s w) : w.cell? ⟨g, 3, none⟩ = some (.int .i64 s.step) := (cell_of_row w g 3 _ _ _ h).trans rfl
theorem SBox.c4 (h : SBox T g s w) : w.cell? ⟨g, 4, none⟩ = some (.int .i64 s.tr) := (cell_of_row w g 4 _ _ _ h).trans rfl
theorem SBox.hit (h : SBox T g s w) : w.cell? ⟨g, 5, none⟩ = some (.bool s.hit.a0) ∧ w.cell? ⟨g, 6, none⟩ = some (.bool s.hit.a1) ∧ w.cell? ⟨g, 7, none⟩ = some (.bool s.hit.a2) ∧ w.cell? ⟨g, 8, none⟩ = some (.bool s.hit.a3) ∧
    w.cell? ⟨g, 9, none⟩ = some (.bool s.hit.a4) ∧ w.cell? ⟨g, 10, none⟩ = some (.bool s.hit.a5) ∧ w.cell? ⟨g, 11, none⟩ = some (.bool s.hit.a6) ∧ w.cell? ⟨g, 12, none⟩ = some (.bool s.hit.a7) :=
  ⟨(cell_of_row w g 5 _ _ _ h).trans rfl, (cell_of_row w g 6 _ _ _ h).trans rfl, (cell_of_row w g 7 _ _ _ h).trans rfl, (cell_of_row w g 8 _ _ _ h).trans rfl, (cell_of_row w g 9 _ _ _ h).trans rfl, (cell_of_row w g 10 _ _ _ h).trans rfl, (cell_of_row w g 11 _ _ _ h).trans rfl, (cell_of_row w g 12 _ _ _ h).trans rfl⟩
theorem SBox.thaw (h : SBox T g s w) (i : Nat) : w.frozen? ⟨g, i, none⟩ = false := frozen_of_row w g i _ _ h
theorem SBox.bools (h : SBox T g s w) : BoolsAt (fun _ => True) w (.slice (some ⟨g, 5, none⟩) 8 8) s.hit.l := by
  obtain ⟨h0, h1, h2, h3, h4, h5, h6, h7⟩ := h.hit
  refine ⟨rfl, ?_, some ⟨g, 5, none⟩, 8, rfl, Nat.le_refl _, by unfold maxLen; omega, (fun e => by cases e), fun _ => ⟨g, 5, rfl, trivial, h.lt, fun j u hj => ?_⟩⟩
  · intro u hu
    simp only [Hits.l, List.map_cons, List.map_nil, List.mem_cons, List.not_mem_nil, or_false] at hu
    rcases hu with rfl | rfl | rfl | rfl | rfl | rfl | rfl | rfl <;> rfl
  · have hj8 : j < 8 := (List.getElem?_eq_some_iff.1 hj).1
    have hc : j = 0 ∨ j = 1 ∨ j = 2 ∨ j = 3 ∨ j = 4 ∨ j = 5 ∨ j = 6 ∨ j = 7 := by omega
    rcases hc with rfl | rfl | rfl | rfl | rfl | rfl | rfl | rfl
    · obtain rfl : Value.bool s.hit.a0 = u := Option.some.inj hj
      exact h0
    · obtain rfl : Value.bool s.hit.a1 = u := Option.some.inj hj
      exact h1
    · obtain rfl : Value.bool s.hit.a2 = u := Option.some.inj hj
      exact h2
    · obtain rfl : Value.bool s.hit.a3 = u := Option.some.inj hj
      exact h3
    · obtain rfl : Value.bool s.hit.a4 = u := Option.some.inj hj
      exact h4
    · obtain rfl : Value.bool s.hit.a5 = u := Option.some.inj hj
      exact h5
    · obtain rfl : Value.bool s.hit.a6 = u := Option.some.inj hj
      exact h6
    · obtain rfl : Value.bool s.hit.a7 = u := Option.some.inj hj
      exact h7
end
section
variable {ops : Array Oper} {rest : List Oper} {op : Oper} {a : Act} {w : World} {Q : Exit → Act → World → Prop} {T : TypeId} {g : Nat} {s z : SagaD}
theorem wpList_load_saga (hgd : op.guard = none) (x : Operand) (ho : op.op = .load 36 x) (hx : a.eval x = .pointer (some ⟨g, 0, none⟩)) (hg : SBox T g s w)
    (h : wpList Tryz.prog ops Q rest (a.put op.dst s.val) w) : wpList Tryz.prog ops Q (op :: rest) a w :=
  wpList_load_box hgd 36 x ho g 0 hx T _ hg 13 _ Tryz.underlying36 (by rfl) (by kernel_rfl) s.cells (by rfl) (by rfl) h
theorem exec_load_saga (x : Operand) (ho : op.op = .load 36 x) (hx : a.eval x = .pointer (some ⟨g, 0, none⟩)) (hg : SBox T g s w) : (execOp a.eval op).run Tryz.prog w = .ok (.value s.val) w :=
  exec_load_box 36 x ho g 0 hx T _ hg 13 _ Tryz.underlying36 (by rfl) (by kernel_rfl) s.cells (by rfl) (by rfl)
theorem exec_load_hits (x : Operand) (ho : op.op = .load 34 x) (hx : a.eval x = .pointer (some ⟨g, 5, none⟩)) (hg : SBox T g s w) : (execOp a.eval op).run Tryz.prog w = .ok (.value s.hit.val) w :=
  exec_load_box 34 x ho g 5 hx T _ hg 8 _ Tryz.underlying34 (by rfl) (by kernel_rfl) s.hit.cells (by rfl) (by rfl)
theorem exec_load_sdef (x : Operand) (ho : op.op = .load 31 x) (hx : a.eval x = .pointer (some ⟨g, 0, none⟩)) (hg : SBox T g s w) : (execOp a.eval op).run Tryz.prog w = .ok (.value (.agg #[.string s.name, .slice s.p s.n s.c])) w :=
  exec_load_box 31 x ho g 0 hx T _ hg 2 _ Tryz.underlying31 (by rfl) (by kernel_rfl) [.string s.name, .slice s.p s.n s.c] (by rfl) (by rfl)
theorem wpList_store_saga (hgd : op.guard = none) (x y : Operand) (ho : op.op = .store 36 x y) (hx : a.eval x = .pointer (some ⟨g, 0, none⟩)) (hg : SBox T g z w) (hy : a.eval y = s.val)
    (h : ∀ w', SBox T g s w' → w.grownBy w' (some g) → wpList Tryz.prog ops Q rest (a.put op.dst undef) w') : wpList Tryz.prog ops Q (op :: rest) a w :=
  wpList_store_box hgd 36 x y ho g 0 s.cells.toArray hx hy T _ hg (by kernel_rfl) (by exact Nat.le_of_ble_eq_true rfl) (by exact s.one) (fun w' hb hg' => h w' (by rw [show s.cells.toArray.toList = s.cells from rfl, saga_put] at hb; exact hb) hg')
end
theorem eql_hits (x y : Hits) (w : World) : (binOp .eql 34 x.val y.val).run Tryz.prog w = .ok (.bool (decide (x = y))) w := by
  obtain ⟨x0, x1, x2, x3, x4, x5, x6, x7⟩ := x
  obtain ⟨y0, y1, y2, y3, y4, y5, y6, y7⟩ := y
  obtain ⟨i, hi, _⟩ := info_parts (show (Tryz.prog.info? 4).map (fun i => (i.zero, i.size, i.bytes)) = some (some (.bool false), 1, 1) from by kernel_rfl)
  obtain ⟨r, hr, hiff⟩ := run_eqItems_plain (P := Tryz.prog) w 9998 (e := 4) (by kernel_rfl) (Hits.cells ⟨x0, x1, x2, x3, x4, x5, x6, x7⟩).toArray (Hits.cells ⟨y0, y1, y2, y3, y4, y5, y6, y7⟩).toArray (D := 1) (D' := 1) (List.range 8)
    [[.bool x0], [.bool x1], [.bool x2], [.bool x3], [.bool x4], [.bool x5], [.bool x6], [.bool x7]] [[.bool y0], [.bool y1], [.bool y2], [.bool y3], [.bool y4], [.bool y5], [.bool y6], [.bool y7]] (by kernel_rfl) (by kernel_rfl)
  have e : r = decide ((⟨x0, x1, x2, x3, x4, x5, x6, x7⟩ : Hits) = ⟨y0, y1, y2, y3, y4, y5, y6, y7⟩) := by
    rw [Bool.eq_iff_iff, hiff]
    simp
  rw [run_eql_struct, show (10000 : Nat) = 9999 + 1 from rfl, run_equalIn_array w 9999 _ _ Tryz.underlying34 hi, show (9999 : Nat) = 9998 + 1 from rfl, hr, e]
  rfl
end Go.Proofs.YtpckdhjnhnonhaaGreat
/- A step is hit, or not any more. -/
namespace Go.Proofs.YtpckdhjnhnonhaaGreat
open Go.RowKit
section
variable {w : World}
set_option maxHeartbeats 8000000 in
theorem hit_any (s : SagaD) (b : Bool) (h1 : 1 ≤ s.step) (h8 : s.step ≤ 8) : Calls Tryz.prog 58 #[s.val, .bool b] w (Gives (s.hitN b).val w) := by
  unfold SagaD.val SagaD.hitN SagaD.cells
  obtain ⟨nm, p, n, c, st, step, tr, ⟨a0, a1, a2, a3, a4, a5, a6, a7⟩⟩ := s
  simp only at h1 h8 ⊢
  have hc : step = 1 ∨ step = 2 ∨ step = 3 ∨ step = 4 ∨ step = 5 ∨ step = 6 ∨ step = 7 ∨ step = 8 := by omega
  clear h1 h8
  rcases hc with rfl | rfl | rfl | rfl | rfl | rfl | rfl | rfl
  all_goals
    go_enter Tryz.func58, Tryz.ntmps58
    go_wp2
    refine bodyPost_ret (results_cell_row Tryz.results58 _ _ (w.heap.size + 1) 36 _ (0, 0) _ (by rfl) (heap_second _ _ _) Tryz.underlying36 (by rfl) (by kernel_rfl)) (by rfl) ?_
    exact ⟨rfl, ((Below.refl _ _).alloc (Nat.le_refl _) _).alloc (by simp) _⟩

end
end Go.Proofs.YtpckdhjnhnonhaaGreat
/- slices.Clone at steps and operations. -/
namespace Go.Proofs.YtpckdhjnhnonhaaGreat.Sd
open Go.RowKit

theorem Tryz.infoStep : (Tryz.prog.info? 67).map (fun i => (i.zero, i.size, i.bytes)) = some (some (.agg #[.string ⟨#[]⟩, .int .i64 0, .int .i64 0, .int .i64 0, .bool false, .bool false]), 6, 48) := by kernel_rfl
def Cloned (E k : Nat) (n : Nat) (xs : List Value) (w : World) (e : Ending) (w' : World) : Prop :=
  ∃ v, e = .returned v ∧ w'.ownsRow w.heap.size E k v n xs ∧ Below w.heap.size w w'

set_option maxHeartbeats 1000000 in
set_option maxRecDepth 100000 in
theorem clone_steps (F : Nat → Prop) (v : Value) (n : Nat) (xs : List Value) (w : World) (h : FlatAt F w 6 v n xs) (hn : n ≤ 1000000) :
    Calls Tryz.prog 52 #[v] w (Cloned 67 6 n xs w) := by
  obtain ⟨i0, hi, hz0, hz1, hz2⟩ := info_parts Tryz.infoStep
  obtain ⟨A, c, rfl, h1, h2, h3⟩ := h.shape
  have H := hide h
  rcases A with _ | a
  · have hc := h3 rfl
    subst hc
    obtain rfl : n = 0 := by omega
    have hxs : xs = [] := List.eq_nil_of_length_eq_zero (by have := h.len; simpa using this)
    subst hxs
    have hq := fun w => Lib.run_eql_slice_nil (P := Tryz.prog) w 29 _ none 0 0 0 0 Tryz.underlying29
    clear h h3
    go_enter Tryz.func52, Tryz.ntmps52
    go_wp2
    go_ret
    exact ⟨_, rfl, World.ownsRow_nil _ _ _ _, Below.refl _ _⟩
  · have hq := fun w => Lib.run_eql_slice_nil (P := Tryz.prog) w 29 _ (some a) n c 0 0 Tryz.underlying29
    clear h h3
    go_enter Tryz.func52, Tryz.ntmps52
    go_wp2_with (at_builtin; refine wpList_append_flat _ rfl _ _ 29 rfl w.heap.size 67 i0 _ 6 48 Tryz.underlying29 hi hz0 hz1 hz2 rfl (by decide) _ 0 [] rfl (ownsRow_lit w _ 6) F _ n c xs rfl (H.out.kept (Kept.of_below ((Below.refl _ _).alloc (Nat.le_refl _) _) F)) (by unfold maxLen; omega) (by omega) (by simp) ?_; intro v' w1 ho hg)
    go_ret
    exact ⟨_, rfl, by simpa using ho, ((Below.refl _ _).alloc (Nat.le_refl _) _).trans (later_own (ownsRow_lit w _ 6) (by simp) hg)⟩

end Go.Proofs.YtpckdhjnhnonhaaGreat.Sd
/- A step looked at; a definition looked at. -/
namespace Go.Proofs.YtpckdhjnhnonhaaGreat
open Go.RowKit

section
variable {w : World}
theorem err_bad {done : List StepD} {s : StepD} (h : stepBad s = true) : stepErr done s = 2 := by unfold stepErr; rw [if_pos h]
theorem err_late {done : List StepD} {s : StepD} (h : stepBad s = false) (h2 : (namedB done s || (pivotB done && s.pivot)) = true) : stepErr done s = 9 := by unfold stepErr; rw [if_neg (by simp [h]), if_pos h2]
theorem err_undo {done : List StepD} {s : StepD} (h : stepBad s = false) (h2 : (namedB done s || (pivotB done && s.pivot)) = false) (h3 : (s.undo == (pivotB done || s.pivot)) = true) : stepErr done s = 10 := by unfold stepErr; rw [if_neg (by simp [h]), if_neg (by simp [h2]), if_pos h3]
theorem err_none {done : List StepD} {s : StepD} (h : stepBad s = false) (h2 : (namedB done s || (pivotB done && s.pivot)) = false) (h3 : (s.undo == (pivotB done || s.pivot)) = false) : stepErr done s = 0 := by unfold stepErr; rw [if_neg (by simp [h]), if_neg (by simp [h2]), if_neg (by simp [h3])]

set_option maxHeartbeats 8000000 in
set_option maxRecDepth 100000 in
theorem checkStep_any {F : Nat → Prop} {s : StepD} {done : List StepD} {A : Option Addr} {n cap : Nat} (h : StepsAt F w (.slice A n cap) done) (hn : n = done.length) (hs : n ≤ 1000) :
    Calls Tryz.prog 99 #[.agg s.cells.toArray, .slice A n cap] w fun e w' => e = .returned (.int .i64 ((stepErr done s : Nat) : Int)) ∧ Later w w' := by
  obtain ⟨E, hE⟩ : ∃ E, stepErr done s = E := ⟨_, rfl⟩
  rw [hE]
  have HE := hide hE
  obtain ⟨W1, hW1⟩ : ∃ W1, W1 = w.alloc (.cells s.cells.toArray 67 (0, 0)) := ⟨_, rfl⟩
  obtain ⟨x, hx⟩ : ∃ x, x = w.heap.size := ⟨_, rfl⟩
  have B1 : Hid (StepBox x s W1) := by rw [hW1, hx]; exact heap_alloc_new w _
  have L1 : Hid (Later w W1) := by rw [hW1]; exact (Below.refl _ _).alloc (Nat.le_refl _) _
  have C1 := hide (contains_ask (w := W1) (v := ⟨110, #[.pointer (some ⟨x, 0, none⟩)]⟩) (f := fun a => decide (a.name = s.name)) (StepsAt.kept h (Kept.of_below L1.out _)) hn ⟨enters_named1, fun W t hl => named1_any W t s x (by
    have h2 : StepBox x s W := (Below.block hl x (lt_of_block B1.out)).trans B1.out
    exact h2.cells.1)⟩ hs)
  have H := hide h
  have HN := hide hn
  unfold StepD.cells at hW1
  obtain ⟨nm, hnm⟩ : ∃ nm, namedB done s = nm := ⟨_, rfl⟩
  obtain ⟨bh, hbh⟩ : ∃ bh, pivotB done = bh := ⟨_, rfl⟩
  have hC : (done.any fun a => decide (a.name = s.name)) = nm := hnm
  have hP : (done.any fun a => a.pivot) = bh := hbh
  rw [hC] at C1
  have HNM := hide hnm
  have HBH := hide hbh
  have HP := hide hP
  have HW1 := hide hW1.symm
  have HX := hide hx.symm
  simp only [SetV.val] at C1
  unfold StepD.cells
  clear h hn hW1 hx hC hP hnm hbh hE
  go_enter Tryz.func99, Tryz.ntmps99
  go_wp2_with (fail)
  have hw := HW1.out
  have hxx := HX.out
  simp only [hw, hxx]
  clear hw hxx
  refine C1.out.mono ?_
  rintro e w2 ⟨rfl, hl2⟩
  have L2 := hide (L1.out.trans hl2)
  have B2 : Hid (StepBox x s w2) := (Below.block hl2 x (lt_of_block B1.out)).trans B1.out
  have C2 := hide (contains_ask (w := w2) (v := ⟨111, #[]⟩) (f := fun a => a.pivot) (StepsAt.kept H.out (Kept.of_below L2.out _)) HN.out ⟨enters_pivot2, fun W t _ => pivot2_any W t⟩ hs)
  rw [HP.out] at C2
  simp only [SetV.val] at C2
  clear C1 hl2 L1 B1 HP
  go_wp2_with (fail)
  refine C2.out.mono ?_
  rintro e w3 ⟨rfl, hl3⟩
  have L3 := hide (L2.out.trans hl3)
  have B3 : Hid (StepBox x s w3) := (Below.block hl3 x (lt_of_block B2.out)).trans B2.out
  obtain ⟨b0, b1, b2, b3, b4, b5, bf⟩ := B3.out.cells
  have CN := hide (name_any (w := w3) s.name)
  clear C2 hl3 L2 B2 bf b1 b2 b3 b4 b5
  go_wp2_with (fail)
  refine CN.out.mono ?_
  rintro e w4 ⟨rfl, hl4⟩
  have L4 := hide (L3.out.trans hl4)
  have B4 : Hid (StepBox x s w4) := (Below.block hl4 x (lt_of_block B3.out)).trans B3.out
  obtain ⟨b0', b1, b2, b3, b4, b5, bf⟩ := B4.out.cells
  obtain ⟨q0, hq0⟩ : ∃ q, nameF s.name.data.toList = q := ⟨_, rfl⟩
  obtain ⟨q1, hq1⟩ : ∃ q, outB s.stub 1 4 = q := ⟨_, rfl⟩
  obtain ⟨q2, hq2⟩ : ∃ q, outB s.retry 0 9 = q := ⟨_, rfl⟩
  obtain ⟨q3, hq3⟩ : ∃ q, outB s.wait 1 99 = q := ⟨_, rfl⟩
  have o1 := fun w => outside_any (w := w) s.stub 1 4
  have o2 := fun w => outside_any (w := w) s.retry 0 9
  have o3 := fun w => outside_any (w := w) s.wait 1 99
  rw [hq1] at o1
  rw [hq2] at o2
  rw [hq3] at o3
  have O1 := hide o1
  have O2 := hide o2
  have O3 := hide o3
  have HBAD : Hid (stepBad s = (!q0 || (q1 || (q2 || q3)))) := by show _ = _; unfold stepBad; rw [hq0, hq1, hq2, hq3]
  rw [hq0]
  clear CN hl4 L3 B3 bf b0 o1 o2 o3 hq0 hq1 hq2 hq3
  cases q0 with
  | false =>
    go_wp2
    go_ret
    exact ⟨ret_int (by rw [← HE.out, err_bad HBAD.out]; rfl), L4.out⟩
  | true =>
    cases q1 with
    | true =>
      go_wp2_with (fail)
      refine (O1.out _).mono ?_
      rintro e w5 ⟨rfl, hq⟩
      obtain rfl := hq.symm
      go_wp2
      go_ret
      exact ⟨ret_int (by rw [← HE.out, err_bad HBAD.out]; rfl), L4.out⟩
    | false =>
      cases q2 with
      | true =>
        go_wp2_with (fail)
        refine (O1.out _).mono ?_
        rintro e w5 ⟨rfl, hq⟩
        obtain rfl := hq.symm
        go_wp2_with (fail)
        refine (O2.out _).mono ?_
        rintro e w6 ⟨rfl, hq⟩
        obtain rfl := hq.symm
        go_wp2
        go_ret
        exact ⟨ret_int (by rw [← HE.out, err_bad HBAD.out]; rfl), L4.out⟩
      | false =>
        go_wp2_with (fail)
        refine (O1.out _).mono ?_
        rintro e w5 ⟨rfl, hq⟩
        obtain rfl := hq.symm
        go_wp2_with (fail)
        refine (O2.out _).mono ?_
        rintro e w6 ⟨rfl, hq⟩
        obtain rfl := hq.symm
        go_wp2_with (fail)
        refine (O3.out _).mono ?_
        rintro e w7 ⟨rfl, hq⟩
        obtain rfl := hq.symm
        clear O1 O2 O3
        cases q3 with
        | true =>
          go_wp2
          go_ret
          exact ⟨ret_int (by rw [← HE.out, err_bad HBAD.out]; rfl), L4.out⟩
        | false =>
          have HB0 : Hid (stepBad s = false) := HBAD.out
          obtain ⟨un, hun⟩ : ∃ un, s.undo = un := ⟨_, rfl⟩
          obtain ⟨pv, hpv⟩ : ∃ pv, s.pivot = pv := ⟨_, rfl⟩
          rw [hun] at b4
          rw [hpv] at b5
          have HUN := hide hun
          have HPV := hide hpv
          clear hun hpv HBAD
          cases nm with
          | true =>
            go_wp2
            go_ret
            exact ⟨ret_int (by rw [← HE.out, err_late HB0.out (by rw [HNM.out]; rfl)]; rfl), L4.out⟩
          | false =>
            cases bh <;> cases pv <;> cases un <;> (
              go_wp2
              go_ret
              refine ⟨ret_int ?_, L4.out⟩
              rw [← HE.out]
              first
                | (rw [err_late HB0.out (by rw [HNM.out, HBH.out, HPV.out]; rfl)]; rfl)
                | (rw [err_undo HB0.out (by rw [HNM.out, HBH.out, HPV.out]; rfl) (by rw [HBH.out, HPV.out, HUN.out]; rfl)]; rfl)
                | (rw [err_none HB0.out (by rw [HNM.out, HBH.out, HPV.out]; rfl) (by rw [HBH.out, HPV.out, HUN.out]; rfl)]; rfl))
end
end Go.Proofs.YtpckdhjnhnonhaaGreat
/- A definition looked at. -/
namespace Go.Proofs.YtpckdhjnhnonhaaGreat
open Go.RowKit

theorem steps_to {k n c : Nat} (hk : k ≤ n) (hn : n ≤ c) (A : Option Addr) (w : World) :
    (Instr.slice 29 (.slice A n c) none (some (.int .i64 (k : Int))) none).run Tryz.prog w = .ok (.slice A k c) w := by
  have ht : Tryz.prog.underlying 29 = some (.slice (Tryz.prog.elem 29)) := by kernel_rfl
  obtain ⟨i0, hi, hz0, hz1, hz2⟩ := info_parts (show (Tryz.prog.info? (Tryz.prog.elem 29)).map (fun i => (i.zero, i.size, i.bytes)) = some (some (.agg #[.string ⟨#[]⟩, .int .i64 0, .int .i64 0, .int .i64 0, .bool false, .bool false]), 6, 48) from by kernel_rfl)
  have h1 := run_slice_h (P := Tryz.prog) w 29 A n c ht .i64 (k : Int) (by omega) (by omega)
  rw [h1]
  have hs : (sizeOf (Tryz.prog.elem 29)).run Tryz.prog w = .ok 6 w := by simp [sizeOf, typeInfo, hi, hz1]
  rw [hs]
  simp only [Result.andThen, sliced, Int.toNat_natCast, Nat.sub_zero]
  rcases A with _ | a
  · simp
  · simp [Addr.add]
theorem exec_to {op : Oper} {a : Act} {w : World} (x z : Operand) (ho : op.op = .slice 29 x none (some z) none) (A : Option Addr) (n c k : Nat) (hx : a.eval x = .slice A n c) (hz : a.eval z = .int .i64 (k : Int)) (hk : k ≤ n) (hn : n ≤ c) :
    (execOp a.eval op).run Tryz.prog w = .ok (.value (.slice A k c)) w := by
  have ht : Tryz.prog.underlying 29 = some (.slice (Tryz.prog.elem 29)) := by kernel_rfl
  have h1 := steps_to hk hn A w
  unfold execOp
  simp only [ho, hx, hz, Option.map_some, Option.map_none, Sem.run_bind, Sem.run_pure]
  rw [run_sliceAt_slice _ _ _ _ _ _ ht, h1]
  rfl
theorem steps_take {F : Nat → Prop} {w : World} {A : Option Addr} {n c k : Nat} {l : List StepD} (h : StepsAt F w (.slice A n c) l) (hn : n = l.length) (hk : k ≤ n) : StepsAt F w (.slice A k c) (l.take k) := by
  subst hn
  obtain ⟨h1, h2, A', c', hv, h3, h4, h5, h6⟩ := h
  obtain ⟨rfl, rfl⟩ : A = A' ∧ c = c' := by injection hv with e1 _ e3; exact ⟨e1, e3⟩
  have hl : (l.take k).length = k := by simp; omega
  have hf := Sd.flat_take StepD.cells 6 l k (fun s _ => s.len)
  unfold StepsAt
  rw [hl, hf]
  refine ⟨?_, fun u hu => h2 u (List.mem_of_mem_take hu), A, c, rfl, by omega, h4, h5, fun h0 => ?_⟩
  · rw [List.length_take, h1]
    have := Nat.mul_le_mul_right 6 hk
    omega
  · obtain ⟨b, off, hA, hF, hb, hr⟩ := h6 (by omega)
    refine ⟨b, off, hA, hF, hb, fun j u hj => hr j u ?_⟩
    rw [List.getElem?_take_of_lt (by have := (List.getElem?_eq_some_iff.1 hj).1; rw [List.length_take] at this; omega)] at hj
    exact hj

section
variable {w : World}
set_option maxHeartbeats 8000000 in
set_option maxRecDepth 100000 in
theorem check_any {F : Nat → Prop} {name : ByteArray} {v : Value} {steps : List StepD} (h : StepsAt F w v steps) :
    Calls Tryz.prog 75 #[.agg #[.string name, v]] w fun e w' => e = .returned (.tuple #[.int .i64 (((checkF name steps).1 : Nat) : Int), .int .i64 (((checkF name steps).2 : Nat) : Int)]) ∧ Later w w' := by
  obtain ⟨A, cap, rfl, hc1, hc2, _⟩ := FlatAt.shape h
  obtain ⟨n, hn⟩ : ∃ n, steps.length = n := ⟨_, rfl⟩
  rw [hn] at h hc1 ⊢
  obtain ⟨c1, hc1'⟩ : ∃ c, (checkF name steps).1 = c := ⟨_, rfl⟩
  obtain ⟨c2, hc2'⟩ : ∃ c, (checkF name steps).2 = c := ⟨_, rfl⟩
  rw [hc1', hc2']
  have HC1 := hide hc1'
  have HC2 := hide hc2'
  obtain ⟨W1, hW1⟩ : ∃ W1, W1 = w.alloc (.cells #[.string name, .slice A n cap] 31 (0, 0)) := ⟨_, rfl⟩
  obtain ⟨y, hy⟩ : ∃ y, y = w.heap.size := ⟨_, rfl⟩
  have B1 : Hid (W1.heap[y]? = some (.cells #[.string name, .slice A n cap] 31 (0, 0))) := by rw [hW1, hy]; exact heap_alloc_new w _
  have L1 : Hid (Later w W1) := by rw [hW1]; exact (Below.refl _ _).alloc (Nat.le_refl _) _
  have CN := hide (name_any (w := W1) name)
  obtain ⟨q0, hq0⟩ : ∃ q, nameF name.data.toList = q := ⟨_, rfl⟩
  rw [hq0] at CN
  obtain ⟨q1, hq1⟩ : ∃ q, outB (n : Int) 1 8 = q := ⟨_, rfl⟩
  have o1 := fun w => outside_any (w := w) (n : Int) 1 8
  rw [hq1] at o1
  have O1 := hide o1
  have hbad : (!nameF name.data.toList || (decide (steps.length < 1) || decide (8 < steps.length))) = (!q0 || q1) := by
    rw [hq0, ← hq1, hn]
    congr 1
    unfold outB
    congr 1
    · rw [decide_eq_decide]; omega
    · rw [decide_eq_decide]; omega
  have HBAD := hide hbad
  have HQ1 := hide hq1
  have H := hide h
  have HN := hide hn
  have HW1 := hide hW1.symm
  have HY := hide hy.symm
  clear h hn hW1 hy hc1' hc2' hq0 hq1 hbad o1
  go_enter Tryz.func75, Tryz.ntmps75
  go_wp2_with (fail)
  have hw := HW1.out
  have hyy := HY.out
  simp only [hw, hyy]
  clear hw hyy
  have c0 : W1.cell? ⟨y, 0, none⟩ = some (.string name) := (cell_of_row W1 y 0 _ _ _ B1.out).trans rfl
  have hy1 : y < W1.heap.size := lt_of_block B1.out
  go_wp2_with (fail)
  refine CN.out.mono ?_
  rintro e w2 ⟨rfl, hl2⟩
  have L2 := hide (L1.out.trans hl2)
  have B2 : Hid (w2.heap[y]? = some (.cells #[.string name, .slice A n cap] 31 (0, 0))) := (Below.block hl2 y (lt_of_block B1.out)).trans B1.out
  have c1' : w2.cell? ⟨y, 1, none⟩ = some (.slice A n cap) := (cell_of_row w2 y 1 _ _ _ B2.out).trans rfl
  have hy2 : y < w2.heap.size := lt_of_block B2.out
  clear CN hl2 L1 c0 hy1
  cases q0 with
  | false =>
    have HF : Hid (checkF name steps = (0, 2)) := by show _ = _; unfold checkF; rw [HBAD.out]; rfl
    have e1 : c1 = 0 := by rw [← HC1.out, HF.out]
    have e2 : c2 = 2 := by rw [← HC2.out, HF.out]
    have E1 := hide e1
    have E2 := hide e2
    clear e1 e2
    go_wp2
    go_ret2
    exact ⟨by rw [E1.out, E2.out]; rfl, L2.out⟩
  | true =>
    go_wp2_with (fail)
    refine (O1.out _).mono ?_
    rintro e w3 ⟨rfl, hq⟩
    obtain rfl := hq.symm
    clear O1
    cases q1 with
    | true =>
      have HF : Hid (checkF name steps = (0, 2)) := by show _ = _; unfold checkF; rw [HBAD.out]; rfl
      have e1 : c1 = 0 := by rw [← HC1.out, HF.out]
      have e2 : c2 = 2 := by rw [← HC2.out, HF.out]
      have E1 := hide e1
      have E2 := hide e2
      clear e1 e2
      go_wp2
      go_ret2
      exact ⟨by rw [E1.out, E2.out]; rfl, L2.out⟩
    | false =>
      have HF : Hid (checkF name steps = firstBad (steps.take 0) (steps.drop 0)) := by show _ = _; unfold checkF; rw [HBAD.out]; rfl
      have hn8 : n ≤ 8 := by
        have := HQ1.out
        simp only [outB, Bool.or_eq_false_iff, decide_eq_false_iff_not] at this
        omega
      clear HBAD HQ1
      go_wp2_with (fail)
      go_loopw [20] (fun v wr => ∃ i : Nat, v = .int .i64 (i : Int) ∧ i ≤ n ∧ checkF name steps = firstBad (steps.take i) (steps.drop i) ∧ Later w2 wr) (fun v _ => n - (Go.RowKit.intOf v).toNat)
      case atStart => exact ⟨0, rfl, by omega, HF.out, Later.refl _⟩
      case round =>
        obtain ⟨i, rfl, hi, hsum, hlat⟩ := hrel
        have HS := hide hsum
        have HL := hide hlat
        have BR : Hid (wr.heap[y]? = some (.cells #[.string name, .slice A n cap] 31 (0, 0))) := (Below.block hlat y (lt_of_block B2.out)).trans B2.out
        clear hsum hlat
        by_cases hlt : i < n
        · have HR := hide (StepsAt.kept H.out (Kept.of_below (L2.out.trans HL.out) F))
          obtain ⟨s, b, off, c', hs', hvv, _, _, _, hr⟩ := StepsAt.at_ HR.out (i := i) (by rw [HN.out]; exact hlt)
          rw [HN.out] at hvv
          obtain ⟨rfl, rfl⟩ : A = some ⟨b, off, none⟩ ∧ cap = c' := by injection hvv with e1 _ e3; exact ⟨e1, e3⟩
          obtain ⟨r0, r1, r2, r3, r4, r5⟩ := range_step hr
          have HSI := hide hs'
          obtain ⟨W5, hW5⟩ : ∃ W5, W5 = wr.alloc (.cells s.cells.toArray 67 (0, 0)) := ⟨_, rfl⟩
          obtain ⟨x, hx⟩ : ∃ x, x = wr.heap.size := ⟨_, rfl⟩
          have B5 : Hid (StepBox x s W5) := by rw [hW5, hx]; exact heap_alloc_new wr _
          have L5 : Hid (Later wr W5) := by rw [hW5]; exact (Below.refl _ _).alloc (Nat.le_refl _) _
          have BR5 : Hid (W5.heap[y]? = some (.cells #[.string name, .slice (some ⟨b, off, none⟩) n cap] 31 (0, 0))) := (Below.block L5.out y (lt_of_block BR.out)).trans BR.out
          have CS := hide (checkStep_any (w := W5.drew) (s := s) (done := steps.take i) (steps_take (StepsAt.kept HR.out (Kept.of_below (L5.out.trans (Later.drew W5)) F)) HN.out.symm (by omega : i ≤ n)) (by rw [List.length_take, HN.out]; omega) (by omega))
          obtain ⟨E, hE⟩ : ∃ E, stepErr (steps.take i) s = E := ⟨_, rfl⟩
          rw [hE] at CS
          have HE := hide hE
          have d1 : W5.cell? ⟨y, 1, none⟩ = some (.slice (some ⟨b, off, none⟩) n cap) := (cell_of_row W5 y 1 _ _ _ BR5.out).trans rfl
          have hy5 : y < W5.heap.size := lt_of_block BR5.out
          unfold StepD.cells at hW5
          have HW5 := hide hW5.symm
          have HX := hide hx.symm
          clear hs' hvv hr hW5 hx hE
          have cR : wr.cell? ⟨y, 1, none⟩ = some (.slice (some ⟨b, off, none⟩) n cap) := (cell_of_row wr y 1 _ _ _ BR.out).trans rfl
          go_wp2_with (fail)
          have hw := HW5.out
          have hxx := HX.out
          simp only [hw, hxx]
          clear hw hxx r0 r1 r2 r3 r4 r5
          refine wp_region_L (by kernel_rfl) ?_
          refine wpAnyL_take (i := 0) (d := some 25) (v := .agg s.cells.toArray) rfl rfl (by kernel_rfl) (by kernel_rfl) (by kernel_rfl) (fun _ _ _ h => h) (by rfl) ?yab0 ?_
          case yab0 => (intro w' hw'; exact exec_load_box 67 _ (by rfl) x 0 (by rfl) 67 _ ((Below.block ((Later.drew _).trans hw') x (lt_of_block B5.out)).trans B5.out) 6 _ Tryz.underlying67 (by rfl) (by kernel_rfl) s.cells (by rfl) (by rfl))
          simp only [Act.put]; try simp only [sA_, sZ_, sS_]
          refine wpAnyL_take (i := 1) (d := some 26) (v := ?vab1) rfl rfl (by kernel_rfl) (by kernel_rfl) (by kernel_rfl) (fun _ _ _ h => h) (by rfl) ?yab1 ?_
          case yab1 => (intro w' hw'; go_simp; try (with_reducible rfl))
          simp only [Act.put]; try simp only [sA_, sZ_, sS_]
          refine wpAnyL_take (i := 2) (d := some 27) (v := .slice (some ⟨b, off, none⟩) n cap) rfl rfl (by kernel_rfl) (by kernel_rfl) (by kernel_rfl) (fun _ _ _ h => h) (by rfl) ?yab2 ?_
          case yab2 => (intro w' hw'; have y := later_cell ((Later.drew _).trans hw') d1; go_simp)
          simp only [Act.put]; try simp only [sA_, sZ_, sS_]
          refine wpAnyL_take (i := 3) (d := some 28) (v := ?vab3) rfl rfl (by kernel_rfl) (by kernel_rfl) (by kernel_rfl) (fun _ _ _ h => h) (by rfl) ?yab3 ?_
          case yab3 => (intro w' hw'; go_simp; try (with_reducible rfl))
          simp only [Act.put]; try simp only [sA_, sZ_, sS_]
          refine wpAnyL_take (i := 4) (d := some 29) (v := .slice (some ⟨b, off, none⟩) i cap) rfl rfl (by kernel_rfl) (by kernel_rfl) (by kernel_rfl) (fun _ _ _ h => h) (by rfl) ?yab4 ?_
          case yab4 => (intro w' hw'; exact exec_to _ _ (by rfl) (some ⟨b, off, none⟩) n cap i (by rfl) (by rfl) (by omega) hc1)
          simp only [Act.put]; try simp only [sA_, sZ_, sS_]
          refine wpAnyL_only (i := 5) rfl (by kernel_rfl) (by rfl) fun K hK => ?_
          go_simp
          refine CS.out.mono ?_
          rintro e w6 ⟨rfl, hl6⟩
          have HL6 := hide (HL.out.trans (L5.out.trans ((Later.drew W5).trans hl6)))
          refine hK.out _ _ hl6 ?_
          clear hl6 CS
          clear hK K
          try (simp only [Act.put]; try simp only [sA_, sZ_, sS_])
          refine wpAnyL_take (i := 6) (d := some 6) (v := ?vab6) rfl rfl (by kernel_rfl) (by kernel_rfl) (by kernel_rfl) (fun _ _ _ h => h) (by rfl) ?yab6 ?_
          case yab6 => (intro w' hw'; go_simp; try (with_reducible rfl))
          simp only [Act.put]; try simp only [sA_, sZ_, sS_]
          refine wpAnyL_done (by kernel_rfl) ?_ _
          by_cases hE0 : E = 0
          · have hb : ((E : Int) != 0) = false := by rw [hE0]; rfl
            have HE0 := hide hE0
            clear hE0
            go_wp2_with (fail)
            go_roundw
            case rel =>
              refine ⟨i + 1, by go_num, by omega, ?_, HL6.out⟩
              rw [HS.out, firstBad_at HSI.out, HE.out, if_pos HE0.out]
            case measure => simp [Go.RowKit.intOf]; omega
          · have hb : ((E : Int) != 0) = true := by simp; omega
            have hres : checkF name steps = (i + 1, E) := by rw [HS.out, firstBad_at HSI.out, HE.out, if_neg hE0]
            have e1 : c1 = i + 1 := by rw [← HC1.out, hres]
            have e2 : c2 = E := by rw [← HC2.out, hres]
            have E1 := hide e1
            have E2 := hide e2
            clear hE0 hres e1 e2
            go_wp2_with (fail)
            go_ret2
            exact ⟨by rw [E1.out, E2.out]; rfl, L2.out.trans HL6.out⟩
        · have hie : i = n := by omega
          have hres : checkF name steps = (0, 0) := by rw [HS.out, hie, ← HN.out, firstBad_end]
          have e1 : c1 = 0 := by rw [← HC1.out, hres]
          have e2 : c2 = 0 := by rw [← HC2.out, hres]
          have E1 := hide e1
          have E2 := hide e2
          clear hres e1 e2 hie
          go_wp2_with (fail)
          go_ret2
          exact ⟨by rw [E1.out, E2.out]; rfl, L2.out.trans HL.out⟩
end
end Go.Proofs.YtpckdhjnhnonhaaGreat
/- The document's kinds of bytes, and its names. -/
namespace Go.Proofs.YtpckdhjnhnonhaaGreat
open Go.RowKit

section
variable {w : World}
theorem refSmall_any (b : Nat) : Calls Tryz.prog 112 #[.int .u8 (b : Int)] w fun e w' => e = .returned (.bool (smallB b)) ∧ w' = w := by
  unfold smallB
  go_enter Tryz.func112, Tryz.ntmps112
  by_cases h1 : 97 ≤ b
  · by_cases h2 : b ≤ 122
    · have e1 : (97 : Int) ≤ (b : Int) := by omega
      have e2 : (b : Int) ≤ 122 := by omega
      go_wp2
      go_ret
      exact ⟨ret_bool (by simp [h1, h2]), rfl⟩
    · have e1 : (97 : Int) ≤ (b : Int) := by omega
      have e2 : ¬ (b : Int) ≤ 122 := by omega
      go_wp2
      go_ret
      exact ⟨ret_bool (by simp), rfl⟩
  · have e1 : ¬ (97 : Int) ≤ (b : Int) := by omega
    go_wp2
    go_ret
    exact ⟨ret_bool (by simp), rfl⟩
theorem refDigit_any (b : Nat) : Calls Tryz.prog 130 #[.int .u8 (b : Int)] w fun e w' => e = .returned (.bool (digitB b)) ∧ w' = w := by
  unfold digitB
  go_enter Tryz.func130, Tryz.ntmps130
  by_cases h1 : 48 ≤ b
  · by_cases h2 : b ≤ 57
    · have e1 : (48 : Int) ≤ (b : Int) := by omega
      have e2 : (b : Int) ≤ 57 := by omega
      go_wp2
      go_ret
      exact ⟨ret_bool (by simp [h1, h2]), rfl⟩
    · have e1 : (48 : Int) ≤ (b : Int) := by omega
      have e2 : ¬ (b : Int) ≤ 57 := by omega
      go_wp2
      go_ret
      exact ⟨ret_bool (by simp), rfl⟩
  · have e1 : ¬ (48 : Int) ≤ (b : Int) := by omega
    go_wp2
    go_ret
    exact ⟨ret_bool (by simp), rfl⟩
set_option maxHeartbeats 1000000 in
theorem refPart_any (b : Nat) : Calls Tryz.prog 113 #[.int .u8 (b : Int)] w fun e w' => e = .returned (.bool (partB b)) ∧ w' = w := by
  unfold partB
  have CS := hide (refSmall_any (w := w) b)
  have CD := hide (refDigit_any (w := w) b)
  obtain ⟨p, hp⟩ : ∃ p, smallB b = p := ⟨_, rfl⟩
  obtain ⟨q, hq⟩ : ∃ q, digitB b = q := ⟨_, rfl⟩
  rw [hp] at CS ⊢
  rw [hq] at CD ⊢
  clear hp hq
  have e45 : (b == 45) = ((b : Int) == 45) := by rw [Bool.eq_iff_iff, beq_iff_eq, beq_iff_eq]; omega
  have e95 : (b == 95) = ((b : Int) == 95) := by rw [Bool.eq_iff_iff, beq_iff_eq, beq_iff_eq]; omega
  rw [e45, e95]
  clear e45 e95
  go_enter Tryz.func113, Tryz.ntmps113
  go_wp2_with (fail)
  refine CS.out.mono ?_
  rintro e w1 ⟨rfl, rfl⟩
  cases p with
  | true =>
    go_wp2_with (fail)
    go_ret
    exact ⟨ret_bool (by simp), rfl⟩
  | false =>
    go_wp2_with (fail)
    refine CD.out.mono ?_
    rintro e w1 ⟨rfl, rfl⟩
    cases q with
    | true =>
      go_wp2_with (fail)
      go_ret
      exact ⟨ret_bool (by simp), rfl⟩
    | false =>
      cases h45 : ((b : Int) == 45) with
      | true =>
        go_wp2_with (fail)
        go_ret
        exact ⟨ret_bool (by rw [h45]; simp), rfl⟩
      | false =>
        go_wp2_with (fail)
        go_ret
        exact ⟨ret_bool (by rw [h45]; simp), rfl⟩

theorem idx_at (s : ByteArray) (q : Nat) (c : UInt8) (hq : q < s.size) (hc : s.data.toList[q]? = some c) (W : World) : (Instr.index 9 (.string s) (.int .i64 (q : Int))).run Tryz.prog W = .ok (.int .u8 (c.toNat : Int)) W := by
  obtain ⟨c', hc', hx, _⟩ := byte_at s q hq
  obtain rfl : c = c' := by rw [hc] at hc'; injection hc'
  rw [run_index_string (P := Tryz.prog) W 9 s .i64 (q : Int) Tryz.underlying9, dif_pos ⟨by omega, by omega⟩]
  have e : (q : Int).toNat = q := by omega
  simp only [e, hx]

set_option maxHeartbeats 2000000 in
theorem refName_any (s : ByteArray) : Calls Tryz.prog 101 #[.string s] w fun e w' => e = .returned (.bool (nameF s.data.toList)) ∧ Later w w' := by
  obtain ⟨L, hL⟩ : ∃ L, L = s.data.toList := ⟨_, rfl⟩
  have hlen : L.length = s.size := by rw [hL, Array.length_toList]; rfl
  rw [← hL]
  have HL := hide hL
  have HLEN := hide hlen
  have L0 := hide (Later.refl w)
  by_cases h1 : s.size < 1
  · have hb : (s.size : Int) < 1 := by omega
    have hf : nameF L = false := by
      cases hn : nameF L with
      | false => rfl
      | true => have := ((nameF_iff L).1 hn).1; omega
    rw [hf]
    clear hL hlen hf
    go_enter Tryz.func101, Tryz.ntmps101
    go_wp2
    go_ret
    exact ⟨rfl, L0.out⟩
  · have hb : ¬ (s.size : Int) < 1 := by omega
    by_cases h2 : 16 < s.size
    · have hb2 : 16 < (s.size : Int) := by omega
      have hf : nameF L = false := by
        cases hn : nameF L with
        | false => rfl
        | true => have := ((nameF_iff L).1 hn).2.1; omega
      rw [hf]
      clear hL hlen hf
      go_enter Tryz.func101, Tryz.ntmps101
      go_wp2
      go_ret
      exact ⟨rfl, L0.out⟩
    · have hb2 : ¬ 16 < (s.size : Int) := by omega
      obtain ⟨c0, hc0⟩ : ∃ c, L[0]? = some c := ⟨_, List.getElem?_eq_getElem (by omega)⟩
      have hi0 : ∀ W : World, (Instr.index 9 (.string s) (.int .i64 0)).run Tryz.prog W = .ok (.int .u8 (c0.toNat : Int)) W := fun W => by
        have := idx_at s 0 c0 (by omega) (by rw [← hL]; exact hc0) W
        exact this
      have HC0 := hide hc0
      have CS := hide (refSmall_any (w := w) c0.toNat)
      clear hL hlen hc0
      cases hs : smallB c0.toNat with
      | false =>
        rw [hs] at CS
        have hf := nameF_not0 HC0.out hs
        rw [hf]
        clear hf hs
        go_enter Tryz.func101, Tryz.ntmps101
        go_wp2_with (fail)
        refine CS.out.mono ?_
        rintro e w1 ⟨rfl, rfl⟩
        go_wp2_with (fail)
        go_ret
        exact ⟨rfl, L0.out⟩
      | true =>
        rw [hs] at CS
        have HS := hide hs
        clear hs
        go_enter Tryz.func101, Tryz.ntmps101
        go_wp2_with (fail)
        refine CS.out.mono ?_
        rintro e w1 ⟨rfl, rfl⟩
        clear hi0 CS
        go_wp2_with (fail)
        go_loopw [3] (fun v wr => wr = w1 ∧ ∃ q : Nat, v = .int .i64 (q : Int) ∧ q ≤ L.length ∧ ∀ c ∈ L.take q, partB c.toNat = true) (fun v _ => L.length - (Go.RowKit.intOf v).toNat)
        case atStart => exact ⟨rfl, 0, rfl, by omega, by simp⟩
        case round =>
          obtain ⟨rfl, q, rfl, hq, hall⟩ := hrel
          have HA := hide hall
          clear hall
          by_cases hlt : q < L.length
          · obtain ⟨c, hc⟩ : ∃ c, L[q]? = some c := ⟨_, List.getElem?_eq_getElem hlt⟩
            have hls : (q : Int) < (s.size : Int) := by have := HLEN.out; omega
            have hi : ∀ W : World, (Instr.index 9 (.string s) (.int .i64 (q : Int))).run Tryz.prog W = .ok (.int .u8 (c.toNat : Int)) W := idx_at s q c (by omega) (by rw [← HL.out]; exact hc)
            have CP := hide (refPart_any (w := wr) c.toNat)
            have HC := hide hc
            clear hc
            cases hp : partB c.toNat with
            | false =>
              rw [hp] at CP
              have hf := nameF_not HC.out hp
              have HF := hide hf
              clear hf hp
              go_wp2_with (fail)
              refine CP.out.mono ?_
              rintro e w1 ⟨rfl, rfl⟩
              go_wp2_with (fail)
              go_ret
              exact ⟨ret_bool HF.out.symm, L0.out⟩
            | true =>
              rw [hp] at CP
              have HP := hide hp
              clear hp
              go_wp2_with (fail)
              refine CP.out.mono ?_
              rintro e w1 ⟨rfl, rfl⟩
              go_wp2_with (fail)
              go_roundw
              case rel =>
                refine ⟨trivial, q + 1, by go_num, by omega, ?_⟩
                intro y hy
                rw [List.take_add_one, HC.out] at hy
                simp only [Option.toList_some, List.mem_append, List.mem_singleton] at hy
                rcases hy with hy | rfl
                · exact HA.out y hy
                · exact HP.out
              case measure => simp [Go.RowKit.intOf]; omega
          · have hls : ¬ (q : Int) < (s.size : Int) := by have := HLEN.out; omega
            have hf : nameF L = true := by
              rw [nameF_iff]
              refine ⟨by have := HLEN.out; omega, by have := HLEN.out; omega, fun c hc => ?_, ?_⟩
              · rw [HC0.out] at hc
                injection hc with hc
                rw [← hc]
                exact HS.out
              · have := HA.out
                rwa [List.take_of_length_le (by omega)] at this
            go_wp2_with (fail)
            go_ret
            exact ⟨rfl, L0.out⟩
end
end Go.Proofs.YtpckdhjnhnonhaaGreat
/- The document's Check. -/
namespace Go.Proofs.YtpckdhjnhnonhaaGreat
open Go.RowKit

section
variable {w : World}
set_option maxHeartbeats 16000000 in
set_option maxRecDepth 100000 in
theorem rcheck_any {F : Nat → Prop} {name : ByteArray} {v : Value} {steps : List StepD} (h : StepsAt F w v steps) :
    Calls Tryz.prog 80 #[.agg #[.string name, v]] w fun e w' => e = .returned (.tuple #[.int .i64 (((checkF name steps).1 : Nat) : Int), .int .i64 (((checkF name steps).2 : Nat) : Int)]) ∧ Later w w' := by
  obtain ⟨A, cap, rfl, hc1, hc2, _⟩ := FlatAt.shape h
  obtain ⟨n, hn⟩ : ∃ n, steps.length = n := ⟨_, rfl⟩
  rw [hn] at h hc1 ⊢
  obtain ⟨c1, hc1'⟩ : ∃ c, (checkF name steps).1 = c := ⟨_, rfl⟩
  obtain ⟨c2, hc2'⟩ : ∃ c, (checkF name steps).2 = c := ⟨_, rfl⟩
  rw [hc1', hc2']
  have HC1 := hide hc1'
  have HC2 := hide hc2'
  obtain ⟨W1, hW1⟩ : ∃ W1, W1 = w.alloc (.cells #[.string name, .slice A n cap] 31 (0, 0)) := ⟨_, rfl⟩
  obtain ⟨y, hy⟩ : ∃ y, y = w.heap.size := ⟨_, rfl⟩
  have B1 : Hid (W1.heap[y]? = some (.cells #[.string name, .slice A n cap] 31 (0, 0))) := by rw [hW1, hy]; exact heap_alloc_new w _
  have L1 : Hid (Later w W1) := by rw [hW1]; exact (Below.refl _ _).alloc (Nat.le_refl _) _
  have CN := hide (refName_any (w := W1) name)
  obtain ⟨q0, hq0⟩ : ∃ q, nameF name.data.toList = q := ⟨_, rfl⟩
  rw [hq0] at CN
  have HBAD : Hid ((!nameF name.data.toList || (decide (steps.length < 1) || decide (8 < steps.length))) = (!q0 || (decide (n < 1) || decide (8 < n)))) := by show _ = _; rw [hq0, hn]
  have H := hide h
  have HN := hide hn
  have HW1 := hide hW1.symm
  have HY := hide hy.symm
  clear h hn hW1 hy hc1' hc2' hq0
  go_enter Tryz.func80, Tryz.ntmps80
  go_wp2_with (fail)
  have hw := HW1.out
  have hyy := HY.out
  simp only [hw, hyy]
  clear hw hyy
  have c0 : W1.cell? ⟨y, 0, none⟩ = some (.string name) := (cell_of_row W1 y 0 _ _ _ B1.out).trans rfl
  have hy1 : y < W1.heap.size := lt_of_block B1.out
  go_wp2_with (fail)
  refine CN.out.mono ?_
  rintro e w2 ⟨rfl, hl2⟩
  have L2 := hide (L1.out.trans hl2)
  have B2 : Hid (w2.heap[y]? = some (.cells #[.string name, .slice A n cap] 31 (0, 0))) := (Below.block hl2 y (lt_of_block B1.out)).trans B1.out
  have c1' : w2.cell? ⟨y, 1, none⟩ = some (.slice A n cap) := (cell_of_row w2 y 1 _ _ _ B2.out).trans rfl
  have hy2 : y < w2.heap.size := lt_of_block B2.out
  clear CN hl2 L1 c0 hy1
  by_cases hbad : (!q0 || (decide (n < 1) || decide (8 < n))) = true
  · have HF : Hid (checkF name steps = (0, 2)) := by show _ = _; unfold checkF; rw [HBAD.out, hbad]; rfl
    have e1 : c1 = 0 := by rw [← HC1.out, HF.out]
    have e2 : c2 = 2 := by rw [← HC2.out, HF.out]
    have E1 := hide e1
    have E2 := hide e2
    clear e1 e2
    cases q0 with
    | false =>
      clear hbad HBAD
      go_wp2
      go_ret2
      exact ⟨by rw [E1.out, E2.out]; rfl, L2.out⟩
    | true =>
      by_cases h1 : n < 1
      · have k1 : decide ((n : Int) < 1) = true := decide_eq_true (by omega)
        clear hbad HBAD
        go_wp2
        go_ret2
        exact ⟨by rw [E1.out, E2.out]; rfl, L2.out⟩
      · have k1 : decide ((n : Int) < 1) = false := decide_eq_false (by omega)
        have h8 : 8 < n := by simp at hbad; omega
        have k2 : decide ((n : Int) > 8) = true := decide_eq_true (by omega)
        clear hbad HBAD
        go_wp2
        go_ret2
        exact ⟨by rw [E1.out, E2.out]; rfl, L2.out⟩
  · obtain rfl : q0 = true := by cases q0 <;> simp_all
    have h1 : ¬ n < 1 := by simp at hbad; omega
    have h8 : ¬ 8 < n := by simp at hbad; omega
    have HF : Hid (checkF name steps = firstBad (steps.take 0) (steps.drop 0)) := by show _ = _; unfold checkF; rw [HBAD.out, if_neg hbad]; rfl
    have k1 : decide ((n : Int) < 1) = false := decide_eq_false (by omega)
    have k2 : decide ((n : Int) > 8) = false := decide_eq_false (by omega)
    clear hbad HBAD
    go_wp2_with (fail)
    go_loopw [4, 28] (fun t4 v wr => ∃ i : Nat, v = .int .i64 (i : Int) ∧ i ≤ n ∧ t4 = .bool (pivotB (steps.take i)) ∧ checkF name steps = firstBad (steps.take i) (steps.drop i) ∧ Later w2 wr) (fun _ v _ => n - (Go.RowKit.intOf v).toNat)
    case atStart => exact ⟨0, rfl, by omega, rfl, HF.out, Later.refl _⟩
    case round =>
      obtain ⟨i, rfl, hi, rfl, hsum, hlat⟩ := hrel
      clear k1 k2
      have HS := hide hsum
      have HL := hide hlat
      have BR : Hid (wr.heap[y]? = some (.cells #[.string name, .slice A n cap] 31 (0, 0))) := (Below.block hlat y (lt_of_block B2.out)).trans B2.out
      clear hsum hlat
      obtain ⟨pb, hpb⟩ : ∃ pb, pivotB (steps.take i) = pb := ⟨_, rfl⟩
      rw [hpb]
      by_cases hlt : i < n
      · have HR := hide (StepsAt.kept H.out (Kept.of_below (L2.out.trans HL.out) F))
        obtain ⟨s, b, off, c', hs', hvv, _, _, _, hr⟩ := StepsAt.at_ HR.out (i := i) (by rw [HN.out]; exact hlt)
        rw [HN.out] at hvv
        obtain ⟨rfl, rfl⟩ : A = some ⟨b, off, none⟩ ∧ cap = c' := by injection hvv with e1 _ e3; exact ⟨e1, e3⟩
        obtain ⟨r0, r1, r2, r3, r4, r5⟩ := range_step hr
        have HSI := hide hs'
        have HPB := hide hpb
        obtain ⟨W5, hW5⟩ : ∃ W5, W5 = wr.alloc (.cells s.cells.toArray 67 (0, 0)) := ⟨_, rfl⟩
        obtain ⟨x, hx⟩ : ∃ x, x = wr.heap.size := ⟨_, rfl⟩
        have B5 : Hid (StepBox x s W5) := by rw [hW5, hx]; exact heap_alloc_new wr _
        have L5 : Hid (Later wr W5) := by rw [hW5]; exact (Below.refl _ _).alloc (Nat.le_refl _) _
        have BR5 : Hid (W5.heap[y]? = some (.cells #[.string name, .slice (some ⟨b, off, none⟩) n cap] 31 (0, 0))) := (Below.block L5.out y (lt_of_block BR.out)).trans BR.out
        have CS := hide (refName_any (w := W5) s.name)
        obtain ⟨q1, hq1⟩ : ∃ q, nameF s.name.data.toList = q := ⟨_, rfl⟩
        rw [hq1] at CS
        obtain ⟨E, hE⟩ : ∃ E, stepErr (steps.take i) s = E := ⟨_, rfl⟩
        have HE := hide hE
        have HQ1 := hide hq1
        have hx5 : x < W5.heap.size := lt_of_block B5.out
        obtain ⟨b0, b1, b2, b3, b4, b5, bf⟩ := B5.out.cells
        unfold StepD.cells at hW5
        have HW5 := hide hW5.symm
        have HX := hide hx.symm
        have cR : wr.cell? ⟨y, 1, none⟩ = some (.slice (some ⟨b, off, none⟩) n cap) := (cell_of_row wr y 1 _ _ _ BR.out).trans rfl
        clear hs' hvv hr hW5 hx hE hq1 hpb bf b1 b2 b3 b4 b5
        go_wp2_with (fail)
        have hw := HW5.out
        have hxx := HX.out
        simp only [hw, hxx]
        clear hw hxx r0 r1 r2 r3 r4 r5 cR
        go_wp2_with (fail)
        refine CS.out.mono ?_
        rintro e w6 ⟨rfl, hl6⟩
        have HL6 : Hid (Later w2 w6) := HL.out.trans (L5.out.trans hl6)
        have B6 : Hid (StepBox x s w6) := (Below.block hl6 x (lt_of_block B5.out)).trans B5.out
        have BR6 : Hid (w6.heap[y]? = some (.cells #[.string name, .slice (some ⟨b, off, none⟩) n cap] 31 (0, 0))) := (Below.block hl6 y (lt_of_block BR5.out)).trans BR5.out
        have hx6 : x < w6.heap.size := lt_of_block B6.out
        obtain ⟨b0', b1, b2, b3, b4, b5, bf⟩ := B6.out.cells
        clear CS hl6 hx5 b0 bf
        have HDONE : ∀ k : Nat, k ≠ 0 → E = k → c1 = i + 1 ∧ c2 = k := fun k hk hEk => by
          have hres : checkF name steps = (i + 1, E) := by rw [HS.out, firstBad_at HSI.out, HE.out, if_neg (by omega)]
          exact ⟨by rw [← HC1.out, hres], by rw [← HC2.out, hres, hEk]⟩
        have HDN := hide HDONE
        clear HDONE
        by_cases hbad : stepBad s = true
        · have hE2 : E = 2 := by rw [← HE.out]; exact err_bad hbad
          obtain ⟨e1, e2⟩ := HDN.out 2 (by omega) hE2
          have E1 := hide e1
          have E2 := hide e2
          have LR := hide (L2.out.trans HL6.out)
          clear hE2 e1 e2 HDN
          unfold stepBad outB at hbad
          rw [HQ1.out] at hbad
          cases q1 with
          | false =>
            clear hbad
            go_wp2
            go_ret2
            exact ⟨by rw [E1.out, E2.out]; rfl, LR.out⟩
          | true =>
            by_cases g0 : s.stub < 1
            · have f0 : decide (s.stub < 1) = true := decide_eq_true g0
              clear hbad
              go_wp2
              go_ret2
              exact ⟨by rw [E1.out, E2.out]; rfl, LR.out⟩
            · have f0 : decide (s.stub < 1) = false := decide_eq_false g0
              by_cases g1 : s.stub > 4
              · have f1 : decide (s.stub > 4) = true := decide_eq_true g1
                clear hbad
                go_wp2
                go_ret2
                exact ⟨by rw [E1.out, E2.out]; rfl, LR.out⟩
              · have f1 : decide (s.stub > 4) = false := decide_eq_false g1
                by_cases g2 : s.retry < 0
                · have f2 : decide (s.retry < 0) = true := decide_eq_true g2
                  clear hbad
                  go_wp2
                  go_ret2
                  exact ⟨by rw [E1.out, E2.out]; rfl, LR.out⟩
                · have f2 : decide (s.retry < 0) = false := decide_eq_false g2
                  by_cases g3 : s.retry > 9
                  · have f3 : decide (s.retry > 9) = true := decide_eq_true g3
                    clear hbad
                    go_wp2
                    go_ret2
                    exact ⟨by rw [E1.out, E2.out]; rfl, LR.out⟩
                  · have f3 : decide (s.retry > 9) = false := decide_eq_false g3
                    by_cases g4 : s.wait < 1
                    · have f4 : decide (s.wait < 1) = true := decide_eq_true g4
                      clear hbad
                      go_wp2
                      go_ret2
                      exact ⟨by rw [E1.out, E2.out]; rfl, LR.out⟩
                    · have f4 : decide (s.wait < 1) = false := decide_eq_false g4
                      have g5 : s.wait > 99 := by
                        simp at hbad
                        omega
                      have f5 : decide (s.wait > 99) = true := decide_eq_true g5
                      clear hbad
                      go_wp2
                      go_ret2
                      exact ⟨by rw [E1.out, E2.out]; rfl, LR.out⟩
        · have HB0 : Hid (stepBad s = false) := by show _ = _; simpa using hbad
          unfold stepBad outB at hbad
          rw [HQ1.out] at hbad
          simp only [Bool.or_eq_true, Bool.not_eq_true', decide_eq_true_eq, not_or, Bool.not_eq_false] at hbad
          obtain ⟨rfl, ⟨g1, g2⟩, ⟨g3, g4⟩, g5, g6⟩ := hbad
          have f1 : decide (s.stub < 1) = false := decide_eq_false g1
          have f2 : decide (s.stub > 4) = false := decide_eq_false g2
          have f3 : decide (s.retry < 0) = false := decide_eq_false g3
          have f4 : decide (s.retry > 9) = false := decide_eq_false g4
          have f5 : decide (s.wait < 1) = false := decide_eq_false g5
          have f6 : decide (s.wait > 99) = false := decide_eq_false g6
          have d1 : w6.cell? ⟨y, 1, none⟩ = some (.slice (some ⟨b, off, none⟩) n cap) := (cell_of_row w6 y 1 _ _ _ BR6.out).trans rfl
          have hy6 : y < w6.heap.size := lt_of_block BR6.out
          clear g1 g2 g3 g4 g5 g6 b4 b5
          go_wp2_with (fail)
          clear f1 f2 f3 f4 f5 f6 b1 b2 b3
          go_loopw [74] (fun v wr' => ∃ j : Nat, v = .int .i64 (j : Int) ∧ j ≤ i ∧ namedB (steps.take j) s = false ∧ Later w6 wr') (fun v _ => i - (Go.RowKit.intOf v).toNat)
          case atStart => exact ⟨0, rfl, by omega, rfl, Later.refl _⟩
          case round =>
            obtain ⟨j, rfl, hj, hnm, hlat⟩ := hrel
            have HNM := hide hnm
            have HLJ := hide hlat
            clear hnm hlat
            have BJ : Hid (StepBox x s wr) := (Below.block HLJ.out x (lt_of_block B6.out)).trans B6.out
            by_cases hlj : j < i
            · have HRJ := hide (StepsAt.kept H.out (Kept.of_below (L2.out.trans (HL6.out.trans HLJ.out)) F))
              obtain ⟨sj, b', off', c'', hs', hvv, _, _, _, hr⟩ := StepsAt.at_ HRJ.out (i := j) (by rw [HN.out]; omega)
              rw [HN.out] at hvv
              obtain ⟨e1, rfl⟩ : (some ⟨b, off, none⟩ : Option Addr) = some ⟨b', off', none⟩ ∧ cap = c'' := by injection hvv with e1 _ e3; exact ⟨e1, e3⟩
              obtain ⟨rfl, rfl⟩ : b = b' ∧ off = off' := by injection e1 with e1; injection e1 with e1 e2; exact ⟨e1, e2⟩
              obtain ⟨r0, r1, r2, r3, r4, r5⟩ := range_step hr
              have HSJ := hide hs'
              have LJ : Hid (Later w2 wr) := HL6.out.trans HLJ.out
              obtain ⟨W8, hW8⟩ : ∃ W8, W8 = wr.alloc (.cells sj.cells.toArray 67 (0, 0)) := ⟨_, rfl⟩
              obtain ⟨z, hz⟩ : ∃ z, z = wr.heap.size := ⟨_, rfl⟩
              have B8 : Hid (StepBox z sj W8) := by rw [hW8, hz]; exact heap_alloc_new wr _
              have L8 : Hid (Later wr W8) := by rw [hW8]; exact (Below.refl _ _).alloc (Nat.le_refl _) _
              have BX8 : Hid (StepBox x s W8) := (Below.block L8.out x (lt_of_block BJ.out)).trans BJ.out
              have a0 := B8.out.cells.1
              have a1 := BX8.out.cells.1
              have hz8 : z < W8.heap.size := lt_of_block B8.out
              have hx8 : x < W8.heap.size := lt_of_block BX8.out
              unfold StepD.cells at hW8
              have HW8 := hide hW8.symm
              have HZ := hide hz.symm
              have aJ := BJ.out.cells.1
              have hxj : x < wr.heap.size := lt_of_block BJ.out
              have a1r := a1
              have hx8r := hx8
              rw [hW8] at a1r hx8r
              clear hs' hvv hr hW8 hz e1 a0 hz8
              by_cases hnn : sj.name = s.name
              · have hE9 : E = 9 := by
                  rw [← HE.out]
                  refine err_late HB0.out ?_
                  have : namedB (steps.take i) s = true := by
                    unfold namedB
                    rw [List.any_eq_true]
                    refine ⟨sj, ?_, by simp [hnn]⟩
                    refine List.mem_of_getElem? (i := j) ?_
                    rw [List.getElem?_take_of_lt hlj]
                    exact HSJ.out
                  rw [this]; rfl
                obtain ⟨e1, e2⟩ := HDN.out 9 (by omega) hE9
                have E1 := hide e1
                have E2 := hide e2
                have LR : Hid (Later w W8) := L2.out.trans (LJ.out.trans L8.out)
                have hb : (sj.name.toList == s.name.toList) = true := by rw [hnn]; simp
                clear hE9 e1 e2 HDN hnn
                go_wp2_with (fail)
                have hw := HW8.out
                try simp only [hw]
                clear hw r0 r1 r2 r3 r4 r5
                go_ret2
                exact ⟨by rw [E1.out, E2.out]; rfl, LR.out⟩
              · have hb : (sj.name.toList == s.name.toList) = false := by rw [Sd.str_eq]; simpa using hnn
                have HNJ : Hid (namedB (steps.take (j + 1)) s = false) := by
                  show _ = _
                  have h0 := HNM.out
                  unfold namedB at h0 ⊢
                  rw [List.take_add_one, HSJ.out, List.any_append, h0]
                  simp [hnn]
                have LR : Hid (Later w6 W8) := HLJ.out.trans L8.out
                clear hnn
                go_wp2_with (fail)
                have hw := HW8.out
                try simp only [hw]
                clear hw r0 r1 r2 r3 r4 r5
                go_roundw
                case rel => exact ⟨j + 1, by go_num, by omega, HNJ.out, LR.out⟩
                case measure => simp [Go.RowKit.intOf]; omega
            · obtain rfl : j = i := by omega
              obtain ⟨_, b1, b2, b3, b4, b5, bf⟩ := BJ.out.cells
              have hxj : x < wr.heap.size := lt_of_block BJ.out
              have LR : Hid (Later w wr) := L2.out.trans (HL6.out.trans HLJ.out)
              have LQ : Hid (Later w2 wr) := HL6.out.trans HLJ.out
              obtain ⟨un, hun⟩ : ∃ un, s.undo = un := ⟨_, rfl⟩
              obtain ⟨pv, hpv⟩ : ∃ pv, s.pivot = pv := ⟨_, rfl⟩
              rw [hun] at b4
              rw [hpv] at b5
              have HUN := hide hun
              have HPV := hide hpv
              have HPP : Hid (pivotB (steps.take (j + 1)) = (pb || pv)) := by
                show _ = _
                have h0 := HPB.out
                unfold pivotB at h0 ⊢
                rw [List.take_add_one, HSI.out, List.any_append, h0, ← hpv]
                simp
              clear hun hpv b1 b2 b3 bf d1
              have HFB := firstBad_at HSI.out
              rw [HE.out] at HFB
              have HFB' := hide HFB
              clear HFB
              cases pb <;> cases pv <;> cases un <;> first
                | (have hEv : E = 9 := by rw [← HE.out]; exact err_late HB0.out (by rw [HNM.out, HPB.out, HPV.out]; rfl)
                   obtain ⟨e1, e2⟩ := HDN.out 9 (by omega) hEv
                   have E1 := hide e1
                   have E2 := hide e2
                   clear hEv e1 e2 HDN
                   go_wp2_with (fail)
                   go_ret2
                   exact ⟨by rw [E1.out, E2.out]; rfl, LR.out⟩)
                | (have hEv : E = 10 := by rw [← HE.out]; exact err_undo HB0.out (by rw [HNM.out, HPB.out, HPV.out]; rfl) (by rw [HPB.out, HPV.out, HUN.out]; rfl)
                   obtain ⟨e1, e2⟩ := HDN.out 10 (by omega) hEv
                   have E1 := hide e1
                   have E2 := hide e2
                   clear hEv e1 e2 HDN
                   go_wp2_with (fail)
                   go_ret2
                   exact ⟨by rw [E1.out, E2.out]; rfl, LR.out⟩)
                | (have hEv : Hid (E = 0) := by show _ = _; rw [← HE.out]; exact err_none HB0.out (by rw [HNM.out, HPB.out, HPV.out]; rfl) (by rw [HPB.out, HPV.out, HUN.out]; rfl)
                   clear HDN
                   go_wp2_with (fail)
                   go_roundw
                   case rel => exact ⟨j + 1, by go_num, by omega, by rw [HPP.out]; rfl, by rw [HS.out, HFB'.out, if_pos hEv.out], LQ.out⟩
                   case measure => simp [Go.RowKit.intOf]; omega)
      · have hie : i = n := by omega
        have hres : checkF name steps = (0, 0) := by rw [HS.out, hie, ← HN.out, firstBad_end]
        have e1 : c1 = 0 := by rw [← HC1.out, hres]
        have e2 : c2 = 0 := by rw [← HC2.out, hres]
        have E1 := hide e1
        have E2 := hide e2
        have cR : wr.cell? ⟨y, 1, none⟩ = some (.slice A n cap) := (cell_of_row wr y 1 _ _ _ BR.out).trans rfl
        clear hres e1 e2 hie
        go_wp2_with (fail)
        go_ret2
        exact ⟨by rw [E1.out, E2.out]; rfl, L2.out.trans HL.out⟩
end
end Go.Proofs.YtpckdhjnhnonhaaGreat
/- Sums over the steps: the code's, by a function that is given one, and the document's. -/
namespace Go.Proofs.YtpckdhjnhnonhaaGreat
open Go.RowKit

theorem wrap_fits {x : Int} (h : 0 ≤ x ∧ x ≤ 1000) : IntKind.i64.wrap x = x := by
  unfold IntKind.wrap
  simp [IntKind.bits, IntKind.signed]
  omega
section
variable {w : World}
end
end Go.Proofs.YtpckdhjnhnonhaaGreat
/- What comes of a saga: whether it came, is sealed, its next step, its way back. -/
namespace Go.Proofs.YtpckdhjnhnonhaaGreat
open Go.RowKit
section
variable {w : World}
set_option maxHeartbeats 4000000 in
theorem sealedS_any {F : Nat → Prop} {s : SagaD} {l : List StepD} (h : StepsAt F w s.v l) (hl : l.length ≤ 1000) : Calls Tryz.prog 56 #[s.val] w (Gives (.bool (sealedS l s)) w) := by
  obtain ⟨W1, hW1⟩ : ∃ W1, W1 = (w.alloc (.cells s.cells.toArray 36 (0, 0))) := ⟨_, rfl⟩
  obtain ⟨g, hg⟩ : ∃ g, g = w.heap.size := ⟨_, rfl⟩
  have X1 : Hid (SBox 36 g s W1) := by rw [hW1, hg]; exact heap_alloc_new _ _
  have L1 : Hid (Later w W1) := by rw [hW1]; exact (Below.refl _ _).alloc (Nat.le_refl _) _
  have HG0 : Hid (w.heap.size ≤ g) := Nat.le_of_eq hg.symm
  have C : Hid (∀ W, Later W1 W → Calls Tryz.prog 83 #[.agg #[.string s.name, .slice s.p s.n s.c], .slice (some ⟨g, 5, none⟩) 8 8] W fun e w' => e = .returned (.bool (sealedS l s)) ∧ Later W w') := fun W hW => sealed_any (StepsAt.kept h (Kept.of_below (L1.out.trans hW) _)) hl (X1.out.below hW).bools
  obtain ⟨q, hq⟩ : ∃ q, sealedS l s = q := ⟨_, rfl⟩
  rw [hq] at C ⊢
  have HW1 := hide hW1.symm
  have HG := hide hg.symm
  clear hW1 hg h hl hq
  go_enter Tryz.func56, Tryz.ntmps56
  go_wp2_with (fail)
  simp only [HW1.out, HG.out]
  have XD := hide (show SBox 36 g s W1.drew from X1.out)
  have LD := hide (L1.out.trans (Later.drew W1))
  refine wp_region_L (by kernel_rfl) ?_
  refine wpAnyL_take (i := 0) (d := some 3) (v := ?vaa0) rfl rfl (by kernel_rfl) (by kernel_rfl) (by kernel_rfl) (fun _ _ _ h => h) (by rfl) ?yaa0 ?_
  case yaa0 => (intro w' hw'; go_simp; try (with_reducible rfl))
  simp only [Act.put]; try simp only [sA_, sZ_, sS_]
  refine wpAnyL_take (i := 1) (d := some 4) (v := .agg #[.string s.name, .slice s.p s.n s.c]) rfl rfl (by kernel_rfl) (by kernel_rfl) (by kernel_rfl) (fun _ _ _ h => h) (by rfl) ?yaa1 ?_
  case yaa1 => (intro w' hw'; exact exec_load_sdef _ (by rfl) (by rfl) (XD.out.below hw'))
  simp only [Act.put]; try simp only [sA_, sZ_, sS_]
  refine wpAnyL_take (i := 2) (d := some 5) (v := ?vaa2) rfl rfl (by kernel_rfl) (by kernel_rfl) (by kernel_rfl) (fun _ _ _ h => h) (by rfl) ?yaa2 ?_
  case yaa2 => (intro w' hw'; go_simp; try (with_reducible rfl))
  simp only [Act.put]; try simp only [sA_, sZ_, sS_]
  refine wpAnyL_take (i := 3) (d := some 6) (v := .slice (some ⟨g, 5, none⟩) 8 8) rfl rfl (by kernel_rfl) (by kernel_rfl) (by kernel_rfl) (fun _ _ _ h => h) (by rfl) ?yaa3 ?_
  case yaa3 => (intro w' hw'; go_simp; try (with_reducible rfl))
  simp only [Act.put]; try simp only [sA_, sZ_, sS_]
  refine wpAnyL_only (i := 4) rfl (by kernel_rfl) (by rfl) fun K hK => ?_
  go_simp
  refine (C.out _ (Later.drew W1)).mono ?_
  rintro e w_4 ⟨rfl, hl_⟩
  have L4 := hide (LD.out.trans hl_)
  refine hK.out _ _ hl_ ?_
  clear hl_
  clear hK K
  try (simp only [Act.put]; try simp only [sA_, sZ_, sS_])
  refine wpAnyL_take (i := 5) (d := some 2) (v := ?vaa5) rfl rfl (by kernel_rfl) (by kernel_rfl) (by kernel_rfl) (fun _ _ _ h => h) (by rfl) ?yaa5 ?_
  case yaa5 => (intro w' hw'; go_simp; try (with_reducible rfl))
  simp only [Act.put]; try simp only [sA_, sZ_, sS_]
  refine wpAnyL_done (by kernel_rfl) ?_ _
  go_wp2
  go_ret
  exact ⟨rfl, L4.out⟩

theorem exec_eql_hits {op : Oper} {a : Act} {w : World} (x y : Hits) (p q : Operand) (t : TypeId) (ho : op.op = .binOp .eql 34 p q t) (hp : a.eval p = x.val) (hq : a.eval q = y.val) : (execOp a.eval op).run Tryz.prog w = .ok (.value (.bool (decide (x = y)))) w := by
  unfold execOp
  simp only [ho, hp, hq, Sem.run_bind, eql_hits, run_eqGuard_agg (P := Tryz.prog) w .eql 34 p q x.cells.toArray y.cells.toArray (by kernel_rfl), Result.andThen_ok, Sem.run_pure]
set_option maxHeartbeats 4000000 in
theorem came_yes {s : SagaD} (h1 : 1 ≤ s.step) (h8 : s.step ≤ 8) (hq : decide (s.hit = upH (s.step - 1)) = true) : Calls Tryz.prog 77 #[s.val] w (Gives (.bool (cameF s)) w) := by
  obtain ⟨W1, hW1⟩ : ∃ W1, W1 = (w.alloc (.cells s.cells.toArray 36 (0, 0))) := ⟨_, rfl⟩
  obtain ⟨g, hg⟩ : ∃ g, g = w.heap.size := ⟨_, rfl⟩
  have X1 : Hid (SBox 36 g s W1) := by rw [hW1, hg]; exact heap_alloc_new _ _
  have L1 : Hid (Later w W1) := by rw [hW1]; exact (Below.refl _ _).alloc (Nat.le_refl _) _
  have HG0 : Hid (w.heap.size ≤ g) := Nat.le_of_eq hg.symm
  have C : Hid (∀ (W : World) (k : Int), k ≤ 8 → Calls Tryz.prog 78 #[.int .i64 k] W (Gives (upH k).val W)) := fun W k hk => upTo_any k hk
  obtain ⟨Q, hQ⟩ : ∃ q, cameF s = q := ⟨_, rfl⟩
  have HQ : Hid (Q = (true || decide (s.hit = upH s.step))) := by show _ = _; rw [← hQ, ← hq]; rfl
  rw [hQ]
  have H1 := hide hq
  have hwr : IntKind.i64.wrap (s.step - 1) = s.step - 1 := wrap_fits (by omega)
  have HW1 := hide hW1.symm
  have HG := hide hg.symm
  clear hW1 hg hq hQ
  go_enter Tryz.func77, Tryz.ntmps77
  go_wp2_with (fail)
  simp only [HW1.out, HG.out]
  have XD := hide (show SBox 36 g s W1.drew from X1.out)
  have LD := hide (L1.out.trans (Later.drew W1))
  refine wp_region_L (by kernel_rfl) ?_
  refine wpAnyL_take (i := 0) (d := some 3) (v := ?vac00) rfl rfl (by kernel_rfl) (by kernel_rfl) (by kernel_rfl) (fun _ _ _ h => h) (by rfl) ?yac00 ?_
  case yac00 => (intro w' hw'; go_simp; try (with_reducible rfl))
  simp only [Act.put]; try simp only [sA_, sZ_, sS_]
  refine wpAnyL_take (i := 1) (d := some 4) (v := s.hit.val) rfl rfl (by kernel_rfl) (by kernel_rfl) (by kernel_rfl) (fun _ _ _ h => h) (by rfl) ?yac01 ?_
  case yac01 => (intro w' hw'; exact exec_load_hits _ (by rfl) (by rfl) (XD.out.below hw'))
  simp only [Act.put]; try simp only [sA_, sZ_, sS_]
  refine wpAnyL_take (i := 2) (d := some 5) (v := ?vac02) rfl rfl (by kernel_rfl) (by kernel_rfl) (by kernel_rfl) (fun _ _ _ h => h) (by rfl) ?yac02 ?_
  case yac02 => (intro w' hw'; go_simp; try (with_reducible rfl))
  simp only [Act.put]; try simp only [sA_, sZ_, sS_]
  refine wpAnyL_take (i := 3) (d := some 6) (v := ?vac03) rfl rfl (by kernel_rfl) (by kernel_rfl) (by kernel_rfl) (fun _ _ _ h => h) (by rfl) ?yac03 ?_
  case yac03 => (intro w' hw'; have c3 := (XD.out.below hw').c3; go_simp; try (with_reducible rfl))
  simp only [Act.put]; try simp only [sA_, sZ_, sS_]
  refine wpAnyL_take (i := 4) (d := some 7) (v := ?vac04) rfl rfl (by kernel_rfl) (by kernel_rfl) (by kernel_rfl) (fun _ _ _ h => h) (by rfl) ?yac04 ?_
  case yac04 => (intro w' hw'; go_simp; try (with_reducible rfl))
  simp only [Act.put]; try simp only [sA_, sZ_, sS_]
  refine wpAnyL_only (i := 5) rfl (by kernel_rfl) (by rfl) fun K hK => ?_
  go_simp
  refine (C.out _ (s.step - 1) (by omega)).mono ?_
  rintro e w_5 ⟨rfl, hl_⟩
  have L5 := hide (LD.out.trans hl_)
  have X5 := hide (XD.out.below hl_)
  refine hK.out _ _ hl_ ?_
  clear hl_
  clear hK K
  try (simp only [Act.put]; try simp only [sA_, sZ_, sS_])
  refine wpAnyL_take (i := 6) (d := some 9) (v := .bool true) rfl rfl (by kernel_rfl) (by kernel_rfl) (by kernel_rfl) (fun _ _ _ h => h) (by rfl) ?yac06 ?_
  case yac06 => (intro w' hw'; exact (exec_eql_hits s.hit (upH (s.step - 1)) _ _ _ (by rfl) (by rfl) (by rfl)).trans (by rw [H1.out]))
  simp only [Act.put]; try simp only [sA_, sZ_, sS_]
  refine wpAnyL_take (i := 7) (d := some 10) (v := ?vac07) rfl rfl (by kernel_rfl) (by kernel_rfl) (by kernel_rfl) (fun _ _ _ h => h) (by rfl) ?yac07 ?_
  case yac07 => (intro w' hw'; go_simp; try (with_reducible rfl))
  simp only [Act.put]; try simp only [sA_, sZ_, sS_]
  refine wpAnyL_pass (i := 8) (d := some 11) rfl rfl (by kernel_rfl) (by kernel_rfl) (by kernel_rfl) (fun _ _ _ h => h) (by rfl) ?_
  try (simp only [Act.put]; try simp only [sA_, sZ_, sS_])
  refine wpAnyL_pass (i := 9) (d := some 12) rfl rfl (by kernel_rfl) (by kernel_rfl) (by kernel_rfl) (fun _ _ _ h => h) (by rfl) ?_
  try (simp only [Act.put]; try simp only [sA_, sZ_, sS_])
  refine wpAnyL_pass (i := 10) (d := some 13) rfl rfl (by kernel_rfl) (by kernel_rfl) (by kernel_rfl) (fun _ _ _ h => h) (by rfl) ?_
  try (simp only [Act.put]; try simp only [sA_, sZ_, sS_])
  refine wpAnyL_pass (i := 11) (d := some 14) rfl rfl (by kernel_rfl) (by kernel_rfl) (by kernel_rfl) (fun _ _ _ h => h) (by rfl) ?_
  try (simp only [Act.put]; try simp only [sA_, sZ_, sS_])
  refine wpAnyL_pass (i := 12) (d := some 15) rfl rfl (by kernel_rfl) (by kernel_rfl) (by kernel_rfl) (fun _ _ _ h => h) (by rfl) ?_
  try (simp only [Act.put]; try simp only [sA_, sZ_, sS_])
  refine wpAnyL_pass (i := 13) (d := some 16) rfl rfl (by kernel_rfl) (by kernel_rfl) (by kernel_rfl) (fun _ _ _ h => h) (by rfl) ?_
  try (simp only [Act.put]; try simp only [sA_, sZ_, sS_])
  refine wpAnyL_take (i := 14) (d := some 17) (v := ?vac014) rfl rfl (by kernel_rfl) (by kernel_rfl) (by kernel_rfl) (fun _ _ _ h => h) (by rfl) ?yac014 ?_
  case yac014 => (intro w' hw'; go_simp; try (with_reducible rfl))
  simp only [Act.put]; try simp only [sA_, sZ_, sS_]
  refine wpAnyL_take (i := 15) (d := some 2) (v := ?vac015) rfl rfl (by kernel_rfl) (by kernel_rfl) (by kernel_rfl) (fun _ _ _ h => h) (by rfl) ?yac015 ?_
  case yac015 => (intro w' hw'; go_simp; try (with_reducible rfl))
  simp only [Act.put]; try simp only [sA_, sZ_, sS_]
  refine wpAnyL_done (by kernel_rfl) ?_ _
  go_wp2
  go_ret
  exact ⟨ret_bool (by rw [HQ.out]; rfl), L5.out⟩
set_option maxHeartbeats 4000000 in
theorem came_no {s : SagaD} (h1 : 1 ≤ s.step) (h8 : s.step ≤ 8) (hq : decide (s.hit = upH (s.step - 1)) = false) : Calls Tryz.prog 77 #[s.val] w (Gives (.bool (cameF s)) w) := by
  obtain ⟨W1, hW1⟩ : ∃ W1, W1 = (w.alloc (.cells s.cells.toArray 36 (0, 0))) := ⟨_, rfl⟩
  obtain ⟨g, hg⟩ : ∃ g, g = w.heap.size := ⟨_, rfl⟩
  have X1 : Hid (SBox 36 g s W1) := by rw [hW1, hg]; exact heap_alloc_new _ _
  have L1 : Hid (Later w W1) := by rw [hW1]; exact (Below.refl _ _).alloc (Nat.le_refl _) _
  have HG0 : Hid (w.heap.size ≤ g) := Nat.le_of_eq hg.symm
  have C : Hid (∀ (W : World) (k : Int), k ≤ 8 → Calls Tryz.prog 78 #[.int .i64 k] W (Gives (upH k).val W)) := fun W k hk => upTo_any k hk
  obtain ⟨Q, hQ⟩ : ∃ q, cameF s = q := ⟨_, rfl⟩
  have HQ : Hid (Q = (false || decide (s.hit = upH s.step))) := by show _ = _; rw [← hQ, ← hq]; rfl
  rw [hQ]
  have H1 := hide hq
  have hwr : IntKind.i64.wrap (s.step - 1) = s.step - 1 := wrap_fits (by omega)
  have HW1 := hide hW1.symm
  have HG := hide hg.symm
  clear hW1 hg hq hQ
  go_enter Tryz.func77, Tryz.ntmps77
  go_wp2_with (fail)
  simp only [HW1.out, HG.out]
  have XD := hide (show SBox 36 g s W1.drew from X1.out)
  have LD := hide (L1.out.trans (Later.drew W1))
  refine wp_region_L (by kernel_rfl) ?_
  refine wpAnyL_take (i := 0) (d := some 3) (v := ?vac10) rfl rfl (by kernel_rfl) (by kernel_rfl) (by kernel_rfl) (fun _ _ _ h => h) (by rfl) ?yac10 ?_
  case yac10 => (intro w' hw'; go_simp; try (with_reducible rfl))
  simp only [Act.put]; try simp only [sA_, sZ_, sS_]
  refine wpAnyL_take (i := 1) (d := some 4) (v := s.hit.val) rfl rfl (by kernel_rfl) (by kernel_rfl) (by kernel_rfl) (fun _ _ _ h => h) (by rfl) ?yac11 ?_
  case yac11 => (intro w' hw'; exact exec_load_hits _ (by rfl) (by rfl) (XD.out.below hw'))
  simp only [Act.put]; try simp only [sA_, sZ_, sS_]
  refine wpAnyL_take (i := 2) (d := some 5) (v := ?vac12) rfl rfl (by kernel_rfl) (by kernel_rfl) (by kernel_rfl) (fun _ _ _ h => h) (by rfl) ?yac12 ?_
  case yac12 => (intro w' hw'; go_simp; try (with_reducible rfl))
  simp only [Act.put]; try simp only [sA_, sZ_, sS_]
  refine wpAnyL_take (i := 3) (d := some 6) (v := ?vac13) rfl rfl (by kernel_rfl) (by kernel_rfl) (by kernel_rfl) (fun _ _ _ h => h) (by rfl) ?yac13 ?_
  case yac13 => (intro w' hw'; have c3 := (XD.out.below hw').c3; go_simp; try (with_reducible rfl))
  simp only [Act.put]; try simp only [sA_, sZ_, sS_]
  refine wpAnyL_take (i := 4) (d := some 7) (v := ?vac14) rfl rfl (by kernel_rfl) (by kernel_rfl) (by kernel_rfl) (fun _ _ _ h => h) (by rfl) ?yac14 ?_
  case yac14 => (intro w' hw'; go_simp; try (with_reducible rfl))
  simp only [Act.put]; try simp only [sA_, sZ_, sS_]
  refine wpAnyL_only (i := 5) rfl (by kernel_rfl) (by rfl) fun K hK => ?_
  go_simp
  refine (C.out _ (s.step - 1) (by omega)).mono ?_
  rintro e w_5 ⟨rfl, hl_⟩
  have L5 := hide (LD.out.trans hl_)
  have X5 := hide (XD.out.below hl_)
  refine hK.out _ _ hl_ ?_
  clear hl_
  clear hK K
  try (simp only [Act.put]; try simp only [sA_, sZ_, sS_])
  refine wpAnyL_take (i := 6) (d := some 9) (v := .bool false) rfl rfl (by kernel_rfl) (by kernel_rfl) (by kernel_rfl) (fun _ _ _ h => h) (by rfl) ?yac16 ?_
  case yac16 => (intro w' hw'; exact (exec_eql_hits s.hit (upH (s.step - 1)) _ _ _ (by rfl) (by rfl) (by rfl)).trans (by rw [H1.out]))
  simp only [Act.put]; try simp only [sA_, sZ_, sS_]
  refine wpAnyL_take (i := 7) (d := some 10) (v := ?vac17) rfl rfl (by kernel_rfl) (by kernel_rfl) (by kernel_rfl) (fun _ _ _ h => h) (by rfl) ?yac17 ?_
  case yac17 => (intro w' hw'; go_simp; try (with_reducible rfl))
  simp only [Act.put]; try simp only [sA_, sZ_, sS_]
  refine wpAnyL_take (i := 8) (d := some 11) (v := ?vac18) rfl rfl (by kernel_rfl) (by kernel_rfl) (by kernel_rfl) (fun _ _ _ h => h) (by rfl) ?yac18 ?_
  case yac18 => (intro w' hw'; go_simp; try (with_reducible rfl))
  simp only [Act.put]; try simp only [sA_, sZ_, sS_]
  refine wpAnyL_take (i := 9) (d := some 12) (v := s.hit.val) rfl rfl (by kernel_rfl) (by kernel_rfl) (by kernel_rfl) (fun _ _ _ h => h) (by rfl) ?yac19 ?_
  case yac19 => (intro w' hw'; exact exec_load_hits _ (by rfl) (by rfl) (X5.out.below hw'))
  simp only [Act.put]; try simp only [sA_, sZ_, sS_]
  refine wpAnyL_take (i := 10) (d := some 13) (v := ?vac110) rfl rfl (by kernel_rfl) (by kernel_rfl) (by kernel_rfl) (fun _ _ _ h => h) (by rfl) ?yac110 ?_
  case yac110 => (intro w' hw'; go_simp; try (with_reducible rfl))
  simp only [Act.put]; try simp only [sA_, sZ_, sS_]
  refine wpAnyL_take (i := 11) (d := some 14) (v := ?vac111) rfl rfl (by kernel_rfl) (by kernel_rfl) (by kernel_rfl) (fun _ _ _ h => h) (by rfl) ?yac111 ?_
  case yac111 => (intro w' hw'; have c3 := (X5.out.below hw').c3; go_simp; try (with_reducible rfl))
  simp only [Act.put]; try simp only [sA_, sZ_, sS_]
  refine wpAnyL_only (i := 12) rfl (by kernel_rfl) (by rfl) fun K hK => ?_
  go_simp
  refine (C.out _ s.step h8).mono ?_
  rintro e w_12 ⟨rfl, hl_⟩
  have L12 := hide (L5.out.trans hl_)
  refine hK.out _ _ hl_ ?_
  clear hl_
  clear hK K
  try (simp only [Act.put]; try simp only [sA_, sZ_, sS_])
  refine wpAnyL_take (i := 13) (d := some 16) (v := .bool (decide (s.hit = upH s.step))) rfl rfl (by kernel_rfl) (by kernel_rfl) (by kernel_rfl) (fun _ _ _ h => h) (by rfl) ?yac113 ?_
  case yac113 => (intro w' hw'; exact exec_eql_hits s.hit (upH s.step) _ _ _ (by rfl) (by rfl) (by rfl))
  simp only [Act.put]; try simp only [sA_, sZ_, sS_]
  refine wpAnyL_take (i := 14) (d := some 17) (v := ?vac114) rfl rfl (by kernel_rfl) (by kernel_rfl) (by kernel_rfl) (fun _ _ _ h => h) (by rfl) ?yac114 ?_
  case yac114 => (intro w' hw'; go_simp; try (with_reducible rfl))
  simp only [Act.put]; try simp only [sA_, sZ_, sS_]
  refine wpAnyL_take (i := 15) (d := some 2) (v := ?vac115) rfl rfl (by kernel_rfl) (by kernel_rfl) (by kernel_rfl) (fun _ _ _ h => h) (by rfl) ?yac115 ?_
  case yac115 => (intro w' hw'; go_simp; try (with_reducible rfl))
  simp only [Act.put]; try simp only [sA_, sZ_, sS_]
  refine wpAnyL_done (by kernel_rfl) ?_ _
  go_wp2
  go_ret
  exact ⟨ret_bool (by rw [HQ.out]; rfl), L12.out⟩
theorem came_any {s : SagaD} (h1 : 1 ≤ s.step) (h8 : s.step ≤ 8) : Calls Tryz.prog 77 #[s.val] w (Gives (.bool (cameF s)) w) := by
  cases hq : decide (s.hit = upH (s.step - 1)) with
  | true => exact came_yes h1 h8 hq
  | false => exact came_no h1 h8 hq
end
end Go.Proofs.YtpckdhjnhnonhaaGreat
/- What comes of a saga: its own memory, its next step, its way back. -/
namespace Go.Proofs.YtpckdhjnhnonhaaGreat
open Go.RowKit
section
variable {w : World}
theorem cells_one (l : List StepD) : ∀ u ∈ l.flatMap StepD.cells, u.oneCell' = true := by
  intro u hu
  obtain ⟨s, _, hs⟩ := List.mem_flatMap.1 hu
  simp only [StepD.cells, List.mem_cons, List.not_mem_nil, or_false] at hs
  rcases hs with rfl | rfl | rfl | rfl | rfl | rfl <;> rfl
def Owns (s : SagaD) (l : List StepD) (w : World) (e : Ending) (w' : World) : Prop := ∃ p n c, e = .returned (s.withV p n c).val ∧ StepsAt (w.heap.size ≤ ·) w' (.slice p n c) l ∧ Later w w'
set_option maxHeartbeats 4000000 in
theorem own_any {F : Nat → Prop} {s : SagaD} {l : List StepD} (h : StepsAt F w s.v l) (hl : l.length ≤ 1000000) : Calls Tryz.prog 55 #[s.val] w (Owns s l w) := by
  obtain ⟨W1, hW1⟩ : ∃ W1, W1 = (w.alloc (.cells s.cells.toArray 36 (0, 0))).alloc (.cells #[.string ⟨#[]⟩, .slice none 0 0, .int .i64 0, .int .i64 0, .int .i64 0, .bool false, .bool false, .bool false, .bool false, .bool false, .bool false, .bool false, .bool false] 36 (0, 0)) := ⟨_, rfl⟩
  obtain ⟨g, hg⟩ : ∃ g, g = w.heap.size := ⟨_, rfl⟩
  have X1 : Hid (SBox 36 g s W1) := by rw [hW1, hg]; exact (heap_alloc_old _ _ (by simp)).trans (heap_alloc_new _ _)
  have Y1 : Hid (SBox 36 (g + 1) SagaD.zero W1) := by rw [hW1, hg]; exact heap_second _ _ _
  have L1 : Hid (Later w W1) := by rw [hW1]; exact ((Below.refl _ _).alloc (Nat.le_refl _) _).alloc (by simp) _
  have HG0 : Hid (w.heap.size ≤ g) := Nat.le_of_eq hg.symm
  have C := hide (Sd.clone_steps F s.v l.length _ W1 (StepsAt.kept h (Kept.of_below L1.out _)) hl)
  have HW1 := hide hW1.symm
  have HG := hide hg.symm
  clear hW1 hg h hl
  have xe := X1.out
  rw [← HW1.out, ← HG.out] at xe
  have XE := hide xe
  clear xe
  have e1 := XE.out.c1
  go_enter Tryz.func55, Tryz.ntmps55
  unfold SagaD.v at C
  go_wp2_with (fail)
  simp only [HW1.out, HG.out]
  refine C.out.mono ?_
  rintro e w2 ⟨v, rfl, ho, hb⟩
  have hs : StepsAt (W1.heap.size ≤ ·) w2 v l := FlatAt.of_own ho (cells_one l)
  obtain ⟨A, c, rfl, _, _, _⟩ := FlatAt.shape hs
  have S2 : Hid (StepsAt (fun _ => True) w2 (.slice A l.length c) l) := FlatAt.mono hs (fun _ _ _ => trivial)
  have L2 := hide (L1.out.trans hb)
  have X2 := hide (X1.out.below hb)
  have Y2 := hide (Y1.out.below hb)
  have d1 := X2.out.c1
  have f1 := X2.out.thaw 1
  obtain ⟨n, hn⟩ : ∃ n, l.length = n := ⟨_, rfl⟩
  rw [hn] at S2 ⊢
  have X3 : Hid (SBox 36 g (s.withV A n c) (w2.setCell ⟨g, 1, none⟩ (.slice A n c))) := heap_setCell_same w2 g 1 _ _ _ X2.out
  have Y3 : Hid (SBox 36 (g + 1) SagaD.zero (w2.setCell ⟨g, 1, none⟩ (.slice A n c))) := (heap_setCell_other _ _ _ _ (by simp)).trans Y2.out
  have L3 : Hid (Later w (w2.setCell ⟨g, 1, none⟩ (.slice A n c))) := L2.out.setCell (p := ⟨g, 1, none⟩) HG0.out _
  have S3 : Hid (StepsAt (W1.heap.size ≤ ·) (w2.setCell ⟨g, 1, none⟩ (.slice A n c)) (.slice A n c) l) := by
    rw [hn] at hs
    exact StepsAt.kept hs ⟨by simp, fun i _ hf => heap_setCell_other _ _ _ _ (fun e => by have := X1.out.lt; simp at e; omega)⟩
  clear e1 ho hb hs C hn
  go_wp2_with (first | (refine wpList_load_saga (by rfl) _ (by rfl) (by rfl) X3.out ?_) | (refine wpList_store_saga (by rfl) _ _ (by rfl) (by rfl) Y3.out (by rfl) ?_; intro w4 Z4 G4))
  have S4 : Hid (StepsAt (w.heap.size ≤ ·) w4 (.slice A n c) l) := FlatAt.mono (StepsAt.kept S3.out (Kept.of_grown G4 (fun k hk hf => by have := Option.some.inj hk; have := Y1.out.lt; omega))) (fun i _ hf => Nat.le_trans (Below.size L1.out) hf)
  have HLF : Hid (Later w _) := L3.out.grown G4 (Below.size L3.out) (fun k hk => by have := Option.some.inj hk; have := HG0.out; omega)
  refine bodyPost_ret (results_cell_row Tryz.results55 _ _ (g + 1) 36 _ (0, 0) _ (by rfl) Z4 Tryz.underlying36 (by rfl) (by kernel_rfl)) (by rfl) ?_
  exact ⟨A, n, c, rfl, S4.out, HLF.out⟩
set_option maxHeartbeats 4000000 in
theorem next_end {s : SagaD} (hq : s.step = (s.n : Int)) : Calls Tryz.prog 64 #[s.val] w (Gives (s.ended 3 0).val w) := by
  obtain ⟨W1, hW1⟩ : ∃ W1, W1 = (w.alloc (.cells s.cells.toArray 36 (0, 0))).alloc (.cells #[.string ⟨#[]⟩, .slice none 0 0, .int .i64 0, .int .i64 0, .int .i64 0, .bool false, .bool false, .bool false, .bool false, .bool false, .bool false, .bool false, .bool false] 36 (0, 0)) := ⟨_, rfl⟩
  obtain ⟨g, hg⟩ : ∃ g, g = w.heap.size := ⟨_, rfl⟩
  have X1 : Hid (SBox 36 g s W1) := by rw [hW1, hg]; exact (heap_alloc_old _ _ (by simp)).trans (heap_alloc_new _ _)
  have Y1 : Hid (SBox 36 (g + 1) SagaD.zero W1) := by rw [hW1, hg]; exact heap_second _ _ _
  have L1 : Hid (Later w W1) := by rw [hW1]; exact ((Below.refl _ _).alloc (Nat.le_refl _) _).alloc (by simp) _
  have HG0 : Hid (w.heap.size ≤ g) := Nat.le_of_eq hg.symm
  have C := hide (fun W => ended_any (w := W) s 3 0)
  have HW1 := hide hW1.symm
  have HG := hide hg.symm
  clear hW1 hg 
  have xe := X1.out
  rw [← HW1.out, ← HG.out] at xe
  have XE := hide xe
  clear xe
  have e1 := XE.out.c1
  have e3 := XE.out.c3
  rw [hq] at e3
  clear hq
  go_enter Tryz.func64, Tryz.ntmps64
  go_wp2_with (refine wpList_load_saga (by rfl) _ (by rfl) (by rfl) XE.out ?_; simp only [HW1.out, HG.out])
  refine (C.out _).mono ?_
  rintro e w2 ⟨rfl, hl⟩
  have L2 := hide (L1.out.trans hl)
  have Y2 := hide (Y1.out.below hl)
  clear hl C e1 e3
  go_wp2_with (first | (refine wpList_load_saga (by rfl) _ (by rfl) (by rfl) X1.out ?_) | (refine wpList_store_saga (by rfl) _ _ (by rfl) (by rfl) Y2.out (by rfl) ?_; intro w3 Z3 G3))
  have HLF : Hid (Later w _) := L2.out.grown G3 (Below.size L2.out) (fun k hk => by have := Option.some.inj hk; have := HG0.out; omega)
  refine bodyPost_ret (results_cell_row Tryz.results64 _ _ (g + 1) 36 _ (0, 0) _ (by rfl) Z3 Tryz.underlying36 (by rfl) (by kernel_rfl)) (by rfl) ?_
  exact ⟨rfl, HLF.out⟩
set_option maxHeartbeats 4000000 in
theorem next_on {s : SagaD} (hq : s.step ≠ (s.n : Int)) (h1 : 0 ≤ s.step) (h8 : s.step ≤ 8) : Calls Tryz.prog 64 #[s.val] w (Gives (s.at_ 1 (s.step + 1)).val w) := by
  obtain ⟨W1, hW1⟩ : ∃ W1, W1 = (w.alloc (.cells s.cells.toArray 36 (0, 0))).alloc (.cells #[.string ⟨#[]⟩, .slice none 0 0, .int .i64 0, .int .i64 0, .int .i64 0, .bool false, .bool false, .bool false, .bool false, .bool false, .bool false, .bool false, .bool false] 36 (0, 0)) := ⟨_, rfl⟩
  obtain ⟨g, hg⟩ : ∃ g, g = w.heap.size := ⟨_, rfl⟩
  have X1 : Hid (SBox 36 g s W1) := by rw [hW1, hg]; exact (heap_alloc_old _ _ (by simp)).trans (heap_alloc_new _ _)
  have Y1 : Hid (SBox 36 (g + 1) SagaD.zero W1) := by rw [hW1, hg]; exact heap_second _ _ _
  have L1 : Hid (Later w W1) := by rw [hW1]; exact ((Below.refl _ _).alloc (Nat.le_refl _) _).alloc (by simp) _
  have HG0 : Hid (w.heap.size ≤ g) := Nat.le_of_eq hg.symm
  have C := hide (fun W => at_any (w := W) s 1 (s.step + 1))
  have c3 := X1.out.c3
  have HW1 := hide hW1.symm
  have HG := hide hg.symm
  clear hW1 hg 
  have xe := X1.out
  rw [← HW1.out, ← HG.out] at xe
  have XE := hide xe
  clear xe
  have e1 := XE.out.c1
  have e3 := XE.out.c3
  obtain ⟨k, hk⟩ : ∃ k, s.step = k := ⟨_, rfl⟩
  rw [hk] at c3 e3 C hq h1 h8 ⊢
  have hb : (k == (s.n : Int)) = false := by rw [beq_eq_false_iff_ne]; exact hq
  have hwr : IntKind.i64.wrap (k + 1) = k + 1 := wrap_fits (by omega)
  clear hq hk
  go_enter Tryz.func64, Tryz.ntmps64
  go_wp2_with (refine wpList_load_saga (by rfl) _ (by rfl) (by rfl) XE.out ?_; simp only [HW1.out, HG.out])
  refine (C.out _).mono ?_
  rintro e w2 ⟨rfl, hl⟩
  have L2 := hide (L1.out.trans hl)
  have Y2 := hide (Y1.out.below hl)
  clear hl C e1 e3
  go_wp2_with (first | (refine wpList_load_saga (by rfl) _ (by rfl) (by rfl) X1.out ?_) | (refine wpList_store_saga (by rfl) _ _ (by rfl) (by rfl) Y2.out (by rfl) ?_; intro w3 Z3 G3))
  have HLF : Hid (Later w _) := L2.out.grown G3 (Below.size L2.out) (fun k hk => by have := Option.some.inj hk; have := HG0.out; omega)
  refine bodyPost_ret (results_cell_row Tryz.results64 _ _ (g + 1) 36 _ (0, 0) _ (by rfl) Z3 Tryz.underlying36 (by rfl) (by kernel_rfl)) (by rfl) ?_
  exact ⟨rfl, HLF.out⟩
theorem next_any {s : SagaD} {l : List StepD} (hn : s.n = l.length) (h1 : 1 ≤ s.step) (h8 : s.step ≤ 8) : Calls Tryz.prog 64 #[s.val] w (Gives (nextS l s).val w) := by
  unfold nextS
  rw [← hn]
  by_cases hq : s.step = (s.n : Int)
  · rw [if_pos hq]; exact next_end hq
  · rw [if_neg hq]; exact next_on hq (by omega) h8
set_option maxHeartbeats 4000000 in
theorem downS_any {F : Nat → Prop} {s : SagaD} {l : List StepD} (h : StepsAt F w s.v l) (hl : l.length ≤ 1000) (h1 : I64 s.step) : Calls Tryz.prog 63 #[s.val] w (Gives (downS l s).val w) := by
  obtain ⟨W1, hW1⟩ : ∃ W1, W1 = (w.alloc (.cells s.cells.toArray 36 (0, 0))).alloc (.cells #[.string ⟨#[]⟩, .slice none 0 0, .int .i64 0, .int .i64 0, .int .i64 0, .bool false, .bool false, .bool false, .bool false, .bool false, .bool false, .bool false, .bool false] 36 (0, 0)) := ⟨_, rfl⟩
  obtain ⟨g, hg⟩ : ∃ g, g = w.heap.size := ⟨_, rfl⟩
  have X1 : Hid (SBox 36 g s W1) := by rw [hW1, hg]; exact (heap_alloc_old _ _ (by simp)).trans (heap_alloc_new _ _)
  have Y1 : Hid (SBox 36 (g + 1) SagaD.zero W1) := by rw [hW1, hg]; exact heap_second _ _ _
  have L1 : Hid (Later w W1) := by rw [hW1]; exact ((Below.refl _ _).alloc (Nat.le_refl _) _).alloc (by simp) _
  have HG0 : Hid (w.heap.size ≤ g) := Nat.le_of_eq hg.symm
  have C : Hid (∀ W, Later W1 W → Calls Tryz.prog 88 #[.agg #[.string s.name, .slice s.p s.n s.c], .slice (some ⟨g, 5, none⟩) 8 8, .int .i64 s.step] W fun e w' => e = .returned (.int .i64 ((downF l s.hit.l s.step : Nat) : Int)) ∧ Later W w') := fun W hW => Down_any (StepsAt.kept h (Kept.of_below (L1.out.trans hW) _)) hl (X1.out.below hW).bools h1
  have CA := hide (fun W k => at_any (w := W) s 2 k)
  have CE := hide (fun W => ended_any (w := W) s 4 0)
  obtain ⟨K, hK⟩ : ∃ K, downF l s.hit.l s.step = K := ⟨_, rfl⟩
  obtain ⟨R, hR⟩ : ∃ R, downS l s = R := ⟨_, rfl⟩
  have HD : Hid (R = if K = 0 then s.ended 4 0 else s.at_ 2 (K : Int)) := by show _ = _; rw [← hR, ← hK]; rfl
  rw [hK] at C
  rw [hR]
  have HW1 := hide hW1.symm
  have HG := hide hg.symm
  clear hW1 hg h hl hK h1 hR
  go_enter Tryz.func63, Tryz.ntmps63
  go_wp2_with (fail)
  simp only [HW1.out, HG.out]
  have XD := hide (show SBox 36 g s W1.drew from X1.out)
  have LD := hide (L1.out.trans (Later.drew W1))
  refine wp_region_L (by kernel_rfl) ?_
  refine wpAnyL_take (i := 0) (d := some 4) (v := ?vaa0) rfl rfl (by kernel_rfl) (by kernel_rfl) (by kernel_rfl) (fun _ _ _ h => h) (by rfl) ?yaa0 ?_
  case yaa0 => (intro w' hw'; go_simp; try (with_reducible rfl))
  simp only [Act.put]; try simp only [sA_, sZ_, sS_]
  refine wpAnyL_take (i := 1) (d := some 5) (v := .agg #[.string s.name, .slice s.p s.n s.c]) rfl rfl (by kernel_rfl) (by kernel_rfl) (by kernel_rfl) (fun _ _ _ h => h) (by rfl) ?yaa1 ?_
  case yaa1 => (intro w' hw'; exact exec_load_sdef _ (by rfl) (by rfl) (XD.out.below hw'))
  simp only [Act.put]; try simp only [sA_, sZ_, sS_]
  refine wpAnyL_take (i := 2) (d := some 6) (v := ?vaa2) rfl rfl (by kernel_rfl) (by kernel_rfl) (by kernel_rfl) (fun _ _ _ h => h) (by rfl) ?yaa2 ?_
  case yaa2 => (intro w' hw'; go_simp; try (with_reducible rfl))
  simp only [Act.put]; try simp only [sA_, sZ_, sS_]
  refine wpAnyL_take (i := 3) (d := some 7) (v := .slice (some ⟨g, 5, none⟩) 8 8) rfl rfl (by kernel_rfl) (by kernel_rfl) (by kernel_rfl) (fun _ _ _ h => h) (by rfl) ?yaa3 ?_
  case yaa3 => (intro w' hw'; go_simp; try (with_reducible rfl))
  simp only [Act.put]; try simp only [sA_, sZ_, sS_]
  refine wpAnyL_take (i := 4) (d := some 8) (v := ?vaa4) rfl rfl (by kernel_rfl) (by kernel_rfl) (by kernel_rfl) (fun _ _ _ h => h) (by rfl) ?yaa4 ?_
  case yaa4 => (intro w' hw'; go_simp; try (with_reducible rfl))
  simp only [Act.put]; try simp only [sA_, sZ_, sS_]
  refine wpAnyL_take (i := 5) (d := some 9) (v := ?vaa5) rfl rfl (by kernel_rfl) (by kernel_rfl) (by kernel_rfl) (fun _ _ _ h => h) (by rfl) ?yaa5 ?_
  case yaa5 => (intro w' hw'; have c3 := (XD.out.below hw').c3; go_simp; try (with_reducible rfl))
  simp only [Act.put]; try simp only [sA_, sZ_, sS_]
  refine wpAnyL_only (i := 6) rfl (by kernel_rfl) (by rfl) fun K hK => ?_
  go_simp
  refine (C.out _ (Later.drew W1)).mono ?_
  rintro e w_6 ⟨rfl, hl_⟩
  have L6 := hide (LD.out.trans hl_)
  have X6 := hide (XD.out.below hl_)
  have Y6 := hide (SBox.below (show SBox 36 (g + 1) SagaD.zero W1.drew from Y1.out) hl_)
  refine hK.out _ _ hl_ ?_
  clear hl_
  clear hK K
  try (simp only [Act.put]; try simp only [sA_, sZ_, sS_])
  refine wpAnyL_take (i := 7) (d := some 3) (v := ?vaa7) rfl rfl (by kernel_rfl) (by kernel_rfl) (by kernel_rfl) (fun _ _ _ h => h) (by rfl) ?yaa7 ?_
  case yaa7 => (intro w' hw'; go_simp; try (with_reducible rfl))
  simp only [Act.put]; try simp only [sA_, sZ_, sS_]
  refine wpAnyL_done (by kernel_rfl) ?_ _
  clear C
  by_cases hk : K = 0
  · subst hk
    obtain rfl : R = s.ended 4 0 := by rw [HD.out, if_pos rfl]
    clear HD
    go_wp2_with (refine wpList_load_saga (by rfl) _ (by rfl) (by rfl) X6.out ?_)
    refine (CE.out _).mono ?_
    rintro e w2 ⟨rfl, hl⟩
    have L2 := hide (L6.out.trans hl)
    have Y2 := hide (Y6.out.below hl)
    clear hl CE CA
    go_wp2_with (first | (refine wpList_load_saga (by rfl) _ (by rfl) (by rfl) X6.out ?_) | (refine wpList_store_saga (by rfl) _ _ (by rfl) (by rfl) Y2.out (by rfl) ?_; intro w3 Z3 G3))
    have HLF : Hid (Later w _) := L2.out.grown G3 (Below.size L2.out) (fun k hk => by have := Option.some.inj hk; have := HG0.out; omega)
    refine bodyPost_ret (results_cell_row Tryz.results63 _ _ (g + 1) 36 _ (0, 0) _ (by rfl) Z3 Tryz.underlying36 (by rfl) (by kernel_rfl)) (by rfl) ?_
    exact ⟨rfl, HLF.out⟩
  · obtain rfl : R = s.at_ 2 (K : Int) := by rw [HD.out, if_neg hk]
    have hk0 : 0 < (K : Int) := by omega
    clear HD
    go_wp2_with (refine wpList_load_saga (by rfl) _ (by rfl) (by rfl) X6.out ?_)
    refine (CA.out _ _).mono ?_
    rintro e w2 ⟨rfl, hl⟩
    have L2 := hide (L6.out.trans hl)
    have Y2 := hide (Y6.out.below hl)
    clear hl CE CA
    go_wp2_with (first | (refine wpList_load_saga (by rfl) _ (by rfl) (by rfl) X6.out ?_) | (refine wpList_store_saga (by rfl) _ _ (by rfl) (by rfl) Y2.out (by rfl) ?_; intro w3 Z3 G3))
    have HLF : Hid (Later w _) := L2.out.grown G3 (Below.size L2.out) (fun k hk => by have := Option.some.inj hk; have := HG0.out; omega)
    refine bodyPost_ret (results_cell_row Tryz.results63 _ _ (g + 1) 36 _ (0, 0) _ (by rfl) Z3 Tryz.underlying36 (by rfl) (by kernel_rfl)) (by rfl) ?_
    exact ⟨rfl, HLF.out⟩
set_option maxHeartbeats 4000000 in
theorem failsS_any {F : Nat → Prop} {s : SagaD} {l : List StepD} (h : StepsAt F w s.v l) (hl : l.length ≤ 1000) (h1 : I64 s.step) : Calls Tryz.prog 59 #[s.val] w (Gives (failsS l s).val w) := by
  obtain ⟨W1, hW1⟩ : ∃ W1, W1 = (w.alloc (.cells s.cells.toArray 36 (0, 0))).alloc (.cells #[.string ⟨#[]⟩, .slice none 0 0, .int .i64 0, .int .i64 0, .int .i64 0, .bool false, .bool false, .bool false, .bool false, .bool false, .bool false, .bool false, .bool false] 36 (0, 0)) := ⟨_, rfl⟩
  obtain ⟨g, hg⟩ : ∃ g, g = w.heap.size := ⟨_, rfl⟩
  have X1 : Hid (SBox 36 g s W1) := by rw [hW1, hg]; exact (heap_alloc_old _ _ (by simp)).trans (heap_alloc_new _ _)
  have Y1 : Hid (SBox 36 (g + 1) SagaD.zero W1) := by rw [hW1, hg]; exact heap_second _ _ _
  have L1 : Hid (Later w W1) := by rw [hW1]; exact ((Below.refl _ _).alloc (Nat.le_refl _) _).alloc (by simp) _
  have HG0 : Hid (w.heap.size ≤ g) := Nat.le_of_eq hg.symm
  have C : Hid (∀ W, Later W1 W → Calls Tryz.prog 56 #[s.val] W (Gives (.bool (sealedS l s)) W)) := fun W hW => sealedS_any (StepsAt.kept h (Kept.of_below (L1.out.trans hW) _)) hl
  have CD : Hid (∀ W, Later W1 W → Calls Tryz.prog 63 #[s.val] W (Gives (downS l s).val W)) := fun W hW => downS_any (StepsAt.kept h (Kept.of_below (L1.out.trans hW) _)) hl h1
  have CE := hide (fun W => ended_any (w := W) s 5 s.step)
  obtain ⟨q, hq⟩ : ∃ q, sealedS l s = q := ⟨_, rfl⟩
  obtain ⟨R, hR⟩ : ∃ R, failsS l s = R := ⟨_, rfl⟩
  have HD : Hid (R = if q then s.ended 5 s.step else downS l s) := by show _ = _; rw [← hR, ← hq]; rfl
  rw [hq] at C
  rw [hR]
  have HW1 := hide hW1.symm
  have HG := hide hg.symm
  clear hW1 hg h hl hq h1 hR
  have xe := X1.out
  rw [← HW1.out, ← HG.out] at xe
  have XE := hide xe
  clear xe
  go_enter Tryz.func59, Tryz.ntmps59
  go_wp2_with (refine wpList_load_saga (by rfl) _ (by rfl) (by rfl) XE.out ?_; simp only [HW1.out, HG.out])
  refine (C.out _ (Later.refl _)).mono ?_
  rintro e w2 ⟨rfl, hl⟩
  have L12 := hide hl
  have L2 := hide (L1.out.trans hl)
  have X2 := hide (X1.out.below hl)
  have Y2 := hide (Y1.out.below hl)
  clear hl C
  cases q with
  | true =>
    obtain rfl : R = s.ended 5 s.step := by rw [HD.out, if_pos rfl]
    clear HD
    have c3 := X2.out.c3
    go_wp2_with (refine wpList_load_saga (by rfl) _ (by rfl) (by rfl) X2.out ?_)
    refine (CE.out _).mono ?_
    rintro e w3 ⟨rfl, hl⟩
    have L3 := hide (L2.out.trans hl)
    have Y3 := hide (Y2.out.below hl)
    clear hl CE CD c3
    go_wp2_with (first | (refine wpList_load_saga (by rfl) _ (by rfl) (by rfl) X2.out ?_) | (refine wpList_store_saga (by rfl) _ _ (by rfl) (by rfl) Y3.out (by rfl) ?_; intro w4 Z4 G4))
    have HLF : Hid (Later w _) := L3.out.grown G4 (Below.size L3.out) (fun k hk => by have := Option.some.inj hk; have := HG0.out; omega)
    refine bodyPost_ret (results_cell_row Tryz.results59 _ _ (g + 1) 36 _ (0, 0) _ (by rfl) Z4 Tryz.underlying36 (by rfl) (by kernel_rfl)) (by rfl) ?_
    exact ⟨rfl, HLF.out⟩
  | false =>
    obtain rfl : R = downS l s := by rw [HD.out, if_neg (by simp)]
    clear HD
    go_wp2_with (refine wpList_load_saga (by rfl) _ (by rfl) (by rfl) X2.out ?_)
    refine (CD.out _ L12.out).mono ?_
    rintro e w3 ⟨rfl, hl⟩
    have L3 := hide (L2.out.trans hl)
    have Y3 := hide (Y2.out.below hl)
    clear hl CE CD
    go_wp2_with (first | (refine wpList_load_saga (by rfl) _ (by rfl) (by rfl) X2.out ?_) | (refine wpList_store_saga (by rfl) _ _ (by rfl) (by rfl) Y3.out (by rfl) ?_; intro w4 Z4 G4))
    have HLF : Hid (Later w _) := L3.out.grown G4 (Below.size L3.out) (fun k hk => by have := Option.some.inj hk; have := HG0.out; omega)
    refine bodyPost_ret (results_cell_row Tryz.results59 _ _ (g + 1) 36 _ (0, 0) _ (by rfl) Z4 Tryz.underlying36 (by rfl) (by kernel_rfl)) (by rfl) ?_
    exact ⟨rfl, HLF.out⟩
set_option maxHeartbeats 8000000 in
theorem missed_any {F : Nat → Prop} {s : SagaD} {l : List StepD} (h : StepsAt F w s.v l) (hl : l.length ≤ 1000) (hw : ∀ x ∈ l, x.wf) (h1 : I64 s.step) (h2 : 0 ≤ s.tr) (h3 : s.tr ≤ 900) : Calls Tryz.prog 62 #[s.val] w (Gives (missedS l s).val w) := by
  obtain ⟨W1, hW1⟩ : ∃ W1, W1 = (w.alloc (.cells s.cells.toArray 36 (0, 0))).alloc (.cells #[.string ⟨#[]⟩, .slice none 0 0, .int .i64 0, .int .i64 0, .int .i64 0, .bool false, .bool false, .bool false, .bool false, .bool false, .bool false, .bool false, .bool false] 36 (0, 0)) := ⟨_, rfl⟩
  obtain ⟨g, hg⟩ : ∃ g, g = w.heap.size := ⟨_, rfl⟩
  have X1 : Hid (SBox 36 g s W1) := by rw [hW1, hg]; exact (heap_alloc_old _ _ (by simp)).trans (heap_alloc_new _ _)
  have Y1 : Hid (SBox 36 (g + 1) SagaD.zero W1) := by rw [hW1, hg]; exact heap_second _ _ _
  have L1 : Hid (Later w W1) := by rw [hW1]; exact ((Below.refl _ _).alloc (Nat.le_refl _) _).alloc (by simp) _
  have HG0 : Hid (w.heap.size ≤ g) := Nat.le_of_eq hg.symm
  have C : Hid (∀ W, Later W1 W → Calls Tryz.prog 76 #[.agg #[.string s.name, .slice s.p s.n s.c], .int .i64 s.step] W fun e w' => e = .returned (.int .i64 (triesN l s.step)) ∧ Later W w') := fun W hW => Tries_any (StepsAt.kept h (Kept.of_below (L1.out.trans hW) _)) h1 hw
  have CF : Hid (∀ W, Later W1 W → Calls Tryz.prog 59 #[s.val] W (Gives (failsS l s).val W)) := fun W hW => failsS_any (StepsAt.kept h (Kept.of_below (L1.out.trans hW) _)) hl h1
  have CE := hide (fun W => ended_any (w := W) s 5 s.step)
  obtain ⟨T, hT⟩ : ∃ T, triesN l s.step = T := ⟨_, rfl⟩
  obtain ⟨R, hR⟩ : ∃ R, missedS l s = R := ⟨_, rfl⟩
  have HD : Hid (R = if s.tr < T then ⟨s.name, s.p, s.n, s.c, s.st, s.step, s.tr + 1, s.hit⟩ else if s.st = 2 then s.ended 5 s.step else failsS l s) := by show _ = _; rw [← hR, ← hT]; rfl
  rw [hT] at C
  rw [hR]
  have hwr : IntKind.i64.wrap (s.tr + 1) = s.tr + 1 := wrap_fits (by omega)
  have HW1 := hide hW1.symm
  have HG := hide hg.symm
  clear hW1 hg h hl hT h1 h2 h3 hw hR
  go_enter Tryz.func62, Tryz.ntmps62
  go_wp2_with (fail)
  simp only [HW1.out, HG.out]
  have XD := hide (show SBox 36 g s W1.drew from X1.out)
  have LD := hide (L1.out.trans (Later.drew W1))
  refine wp_region_L (by kernel_rfl) ?_
  refine wpAnyL_take (i := 0) (d := some 4) (v := ?vaa0) rfl rfl (by kernel_rfl) (by kernel_rfl) (by kernel_rfl) (fun _ _ _ h => h) (by rfl) ?yaa0 ?_
  case yaa0 => (intro w' hw'; go_simp; try (with_reducible rfl))
  simp only [Act.put]; try simp only [sA_, sZ_, sS_]
  refine wpAnyL_take (i := 1) (d := some 5) (v := ?vaa1) rfl rfl (by kernel_rfl) (by kernel_rfl) (by kernel_rfl) (fun _ _ _ h => h) (by rfl) ?yaa1 ?_
  case yaa1 => (intro w' hw'; have c4 := (XD.out.below hw').c4; go_simp; try (with_reducible rfl))
  simp only [Act.put]; try simp only [sA_, sZ_, sS_]
  refine wpAnyL_take (i := 2) (d := some 6) (v := ?vaa2) rfl rfl (by kernel_rfl) (by kernel_rfl) (by kernel_rfl) (fun _ _ _ h => h) (by rfl) ?yaa2 ?_
  case yaa2 => (intro w' hw'; go_simp; try (with_reducible rfl))
  simp only [Act.put]; try simp only [sA_, sZ_, sS_]
  refine wpAnyL_take (i := 3) (d := some 7) (v := .agg #[.string s.name, .slice s.p s.n s.c]) rfl rfl (by kernel_rfl) (by kernel_rfl) (by kernel_rfl) (fun _ _ _ h => h) (by rfl) ?yaa3 ?_
  case yaa3 => (intro w' hw'; exact exec_load_sdef _ (by rfl) (by rfl) (XD.out.below hw'))
  simp only [Act.put]; try simp only [sA_, sZ_, sS_]
  refine wpAnyL_take (i := 4) (d := some 8) (v := ?vaa4) rfl rfl (by kernel_rfl) (by kernel_rfl) (by kernel_rfl) (fun _ _ _ h => h) (by rfl) ?yaa4 ?_
  case yaa4 => (intro w' hw'; go_simp; try (with_reducible rfl))
  simp only [Act.put]; try simp only [sA_, sZ_, sS_]
  refine wpAnyL_take (i := 5) (d := some 9) (v := ?vaa5) rfl rfl (by kernel_rfl) (by kernel_rfl) (by kernel_rfl) (fun _ _ _ h => h) (by rfl) ?yaa5 ?_
  case yaa5 => (intro w' hw'; have c3 := (XD.out.below hw').c3; go_simp; try (with_reducible rfl))
  simp only [Act.put]; try simp only [sA_, sZ_, sS_]
  refine wpAnyL_only (i := 6) rfl (by kernel_rfl) (by rfl) fun K hK => ?_
  go_simp
  refine (C.out _ (Later.drew W1)).mono ?_
  rintro e w_6 ⟨rfl, hl_⟩
  have L16 := hide ((Later.drew W1).trans hl_)
  have L6 := hide (LD.out.trans hl_)
  have X6 := hide (XD.out.below hl_)
  have Y6 := hide (SBox.below (show SBox 36 (g + 1) SagaD.zero W1.drew from Y1.out) hl_)
  refine hK.out _ _ hl_ ?_
  clear hl_
  clear hK K
  try (simp only [Act.put]; try simp only [sA_, sZ_, sS_])
  refine wpAnyL_take (i := 7) (d := some 11) (v := ?vaa7) rfl rfl (by kernel_rfl) (by kernel_rfl) (by kernel_rfl) (fun _ _ _ h => h) (by rfl) ?yaa7 ?_
  case yaa7 => (intro w' hw'; go_simp; try (with_reducible rfl))
  simp only [Act.put]; try simp only [sA_, sZ_, sS_]
  refine wpAnyL_take (i := 8) (d := some 3) (v := ?vaa8) rfl rfl (by kernel_rfl) (by kernel_rfl) (by kernel_rfl) (fun _ _ _ h => h) (by rfl) ?yaa8 ?_
  case yaa8 => (intro w' hw'; go_simp; try (with_reducible rfl))
  simp only [Act.put]; try simp only [sA_, sZ_, sS_]
  refine wpAnyL_done (by kernel_rfl) ?_ _
  clear C
  by_cases hk : s.tr < T
  · obtain rfl : R = ⟨s.name, s.p, s.n, s.c, s.st, s.step, s.tr + 1, s.hit⟩ := by rw [HD.out, if_pos hk]
    clear HD
    have c4 := X6.out.c4
    have f4 := X6.out.thaw 4
    have X7 : Hid (SBox 36 g ⟨s.name, s.p, s.n, s.c, s.st, s.step, s.tr + 1, s.hit⟩ (w_6.setCell ⟨g, 4, none⟩ (.int .i64 (s.tr + 1)))) := heap_setCell_same w_6 g 4 _ _ _ X6.out
    have Y7 : Hid (SBox 36 (g + 1) SagaD.zero (w_6.setCell ⟨g, 4, none⟩ (.int .i64 (s.tr + 1)))) := (heap_setCell_other _ _ _ _ (by simp)).trans Y6.out
    have L7 : Hid (Later w (w_6.setCell ⟨g, 4, none⟩ (.int .i64 (s.tr + 1)))) := L6.out.setCell (p := ⟨g, 4, none⟩) HG0.out _
    go_wp2_with (first | (refine wpList_load_saga (by rfl) _ (by rfl) (by rfl) X7.out ?_) | (refine wpList_store_saga (by rfl) _ _ (by rfl) (by rfl) Y7.out (by rfl) ?_; intro w8 Z8 G8))
    have HLF : Hid (Later w _) := L7.out.grown G8 (Below.size L7.out) (fun k hk => by have := Option.some.inj hk; have := HG0.out; omega)
    refine bodyPost_ret (results_cell_row Tryz.results62 _ _ (g + 1) 36 _ (0, 0) _ (by rfl) Z8 Tryz.underlying36 (by rfl) (by kernel_rfl)) (by rfl) ?_
    exact ⟨rfl, HLF.out⟩
  · have c2 := X6.out.c2
    by_cases h2 : s.st = 2
    · obtain rfl : R = s.ended 5 s.step := by rw [HD.out, if_neg hk, if_pos h2]
      clear HD
      rw [h2] at c2
      have c3 := X6.out.c3
      clear h2
      go_wp2_with (refine wpList_load_saga (by rfl) _ (by rfl) (by rfl) X6.out ?_)
      refine (CE.out _).mono ?_
      rintro e w2 ⟨rfl, hl⟩
      have L2 := hide (L6.out.trans hl)
      have Y2 := hide (Y6.out.below hl)
      clear hl CE CF c2 c3
      go_wp2_with (first | (refine wpList_load_saga (by rfl) _ (by rfl) (by rfl) X6.out ?_) | (refine wpList_store_saga (by rfl) _ _ (by rfl) (by rfl) Y2.out (by rfl) ?_; intro w3 Z3 G3))
      have HLF : Hid (Later w _) := L2.out.grown G3 (Below.size L2.out) (fun k hk => by have := Option.some.inj hk; have := HG0.out; omega)
      refine bodyPost_ret (results_cell_row Tryz.results62 _ _ (g + 1) 36 _ (0, 0) _ (by rfl) Z3 Tryz.underlying36 (by rfl) (by kernel_rfl)) (by rfl) ?_
      exact ⟨rfl, HLF.out⟩
    · obtain rfl : R = failsS l s := by rw [HD.out, if_neg hk, if_neg h2]
      clear HD
      have hb : (s.st == (2 : Int)) = false := by rw [beq_eq_false_iff_ne]; exact h2
      go_wp2_with (refine wpList_load_saga (by rfl) _ (by rfl) (by rfl) X6.out ?_)
      refine (CF.out _ L16.out).mono ?_
      rintro e w2 ⟨rfl, hl⟩
      have L2 := hide (L6.out.trans hl)
      have Y2 := hide (Y6.out.below hl)
      clear hl CE CF c2
      go_wp2_with (first | (refine wpList_load_saga (by rfl) _ (by rfl) (by rfl) X6.out ?_) | (refine wpList_store_saga (by rfl) _ _ (by rfl) (by rfl) Y2.out (by rfl) ?_; intro w3 Z3 G3))
      have HLF : Hid (Later w _) := L2.out.grown G3 (Below.size L2.out) (fun k hk => by have := Option.some.inj hk; have := HG0.out; omega)
      refine bodyPost_ret (results_cell_row Tryz.results62 _ _ (g + 1) 36 _ (0, 0) _ (by rfl) Z3 Tryz.underlying36 (by rfl) (by kernel_rfl)) (by rfl) ?_
      exact ⟨rfl, HLF.out⟩
end
end Go.Proofs.YtpckdhjnhnonhaaGreat
/- Worlds of which all but some blocks are as they were. -/
namespace Go.Proofs.YtpckdhjnhnonhaaGreat
open Go.RowKit

structure Turned (S : Nat → Prop) (w w' : World) : Prop where
  os : w'.os = w.os
  tape : w'.tape = w.tape
  output : w'.output = w.output
  size : w.heap.size ≤ w'.heap.size
  block : ∀ i, i < w.heap.size → ¬ S i → w'.heap[i]? = w.heap[i]?
section
variable {S : Nat → Prop} {a b c : World}
theorem Turned.refl (S : Nat → Prop) (w : World) : Turned S w w := ⟨rfl, rfl, rfl, Nat.le_refl _, fun _ _ _ => rfl⟩
theorem Turned.trans (h : Turned S a b) (k : Turned S b c) : Turned S a c :=
  ⟨k.os.trans h.os, k.tape.trans h.tape, k.output.trans h.output, Nat.le_trans h.size k.size, fun i hi hs => (k.block i (Nat.lt_of_lt_of_le hi h.size) hs).trans (h.block i hi hs)⟩
theorem Turned.of_below (h : Below a.heap.size a b) (S : Nat → Prop) : Turned S a b := ⟨h.os, h.tape, h.output, h.size, fun i hi _ => h.block i hi⟩
theorem Turned.of_grown {r : Option Nat} (h : a.grownBy b r) (hr : ∀ g, r = some g → S g) : Turned S a b :=
  ⟨h.os, h.tape, h.output, h.size, fun i hi hs => h.block i hi (fun e => hs (hr i e.symm))⟩
theorem Turned.onto {T : Nat → Prop} (h : Turned S a b) (k : Turned T b c) (ht : ∀ i, T i → S i ∨ a.heap.size ≤ i) : Turned S a c :=
  ⟨k.os.trans h.os, k.tape.trans h.tape, k.output.trans h.output, Nat.le_trans h.size k.size, fun i hi hs => (k.block i (Nat.lt_of_lt_of_le hi h.size) (fun e => (ht i e).elim hs (by omega))).trans (h.block i hi hs)⟩
theorem Turned.kept (h : Turned S a b) {F : Nat → Prop} (hf : ∀ i, F i → ¬ S i) : Kept F a b := ⟨h.size, fun i hi hF => h.block i hi (hf i hF)⟩
theorem Turned.mono {T : Nat → Prop} (h : Turned S a b) (ht : ∀ i, S i → T i) : Turned T a b := ⟨h.os, h.tape, h.output, h.size, fun i hi hs => h.block i hi (fun e => hs (ht i e))⟩
theorem Turned.below {B : Nat} (h : Turned S a b) (hs : ∀ i, S i → B ≤ i) (hB : B ≤ a.heap.size) : Below B a b :=
  ⟨h.os, h.tape, h.output, h.size, fun i hi => h.block i (Nat.lt_of_lt_of_le hi hB) (fun e => by have := hs i e; omega)⟩
theorem Turned.drewN (S : Nat → Prop) (w : World) (n : Nat) : Turned S w (w.drewN n) := ⟨rfl, rfl, rfl, Nat.le_refl _, fun _ _ _ => rfl⟩
theorem Turned.of_drew (h : Turned S a.drew b) : Turned S a b := ⟨h.os, h.tape, h.output, h.size, h.block⟩
end
end Go.Proofs.YtpckdhjnhnonhaaGreat
/- A book in memory; made, at, own, Saga, Status of package book. -/
namespace Go.Proofs.YtpckdhjnhnonhaaGreat
open Go.RowKit Go.Maps

theorem put_mapE {V : Ent → Value} (x : Ent) : ∀ (L : List Ent), RiseE L → (mapD (L.map fun y => (y.id, V y))).put (.int .i64 x.id) (.held (V x)) = mapD ((putE x L).map fun y => (y.id, V y)) := by
  have key : ∀ (L : List Ent), RiseE L → DataW.insert ((.int .i64 x.id, .held (V x)) : Lit × DataW Value) (((L.map fun y => (y.id, V y)).map fun p : Int × Value => ((.int .i64 p.1, .held p.2) : Lit × DataW Value)).filter fun p => !p.1.sameKey (.int .i64 x.id)) = ((putE x L).map fun y => (y.id, V y)).map fun p : Int × Value => ((.int .i64 p.1, .held p.2) : Lit × DataW Value) := by
    intro L
    induction L with
    | nil => intro _; rfl
    | cons z r ih =>
      intro h
      obtain ⟨h1, h2⟩ := List.pairwise_cons.1 h
      have ih := ih h2
      unfold putE
      by_cases a : z.id < x.id
      · rw [if_pos a]
        simp only [List.map_cons]
        rw [List.filter_cons_of_pos (by simp [Lit.sameKey]; omega)]
        unfold DataW.insert
        rw [if_neg (by simp [Lit.before]; omega), ih]
      · rw [if_neg a]
        have hr : (((r.map fun y => (y.id, V y)).map fun p : Int × Value => ((.int .i64 p.1, .held p.2) : Lit × DataW Value)).filter fun p => !p.1.sameKey (.int .i64 x.id)) = (r.map fun y => (y.id, V y)).map fun p : Int × Value => ((.int .i64 p.1, .held p.2) : Lit × DataW Value) := by
          rw [List.filter_eq_self]
          intro p hp
          obtain ⟨q, hq, rfl⟩ := List.mem_map.1 hp
          obtain ⟨y, hy, rfl⟩ := List.mem_map.1 hq
          have := h1 y hy
          simp [Lit.sameKey]
          omega
        have hi : ∀ M : List (Lit × DataW Value), (∀ p ∈ M, ∃ (a : Int) (v : DataW Value), p = (.int .i64 a, v) ∧ x.id < a) → DataW.insert ((.int .i64 x.id, .held (V x)) : Lit × DataW Value) M = (.int .i64 x.id, .held (V x)) :: M := by
          intro M hM
          cases M with
          | nil => rfl
          | cons q M =>
            obtain ⟨a, v, rfl, ha⟩ := hM q (by simp)
            unfold DataW.insert
            rw [if_pos (by simp [Lit.before]; omega)]
        have hall : ∀ p ∈ (r.map fun y => (y.id, V y)).map fun p : Int × Value => ((.int .i64 p.1, .held p.2) : Lit × DataW Value), ∃ (a : Int) (v : DataW Value), p = (.int .i64 a, v) ∧ z.id < a := by
          intro p hp
          obtain ⟨q, hq, rfl⟩ := List.mem_map.1 hp
          obtain ⟨y, hy, rfl⟩ := List.mem_map.1 hq
          exact ⟨_, _, rfl, h1 y hy⟩
        by_cases b : z.id = x.id
        · rw [if_pos b]
          simp only [List.map_cons]
          rw [List.filter_cons_of_neg (by simp [Lit.sameKey, b]), hr, hi _ (fun p hp => by obtain ⟨a, v, e, ha⟩ := hall p hp; exact ⟨a, v, e, by omega⟩)]
        · rw [if_neg b]
          simp only [List.map_cons]
          rw [List.filter_cons_of_pos (by simp [Lit.sameKey]; omega), hr, hi]
          intro p hp
          rcases List.mem_cons.1 hp with rfl | hp
          · exact ⟨_, _, rfl, by omega⟩
          · obtain ⟨a, v, e, ha⟩ := hall p hp
            exact ⟨a, v, e, by omega⟩
  intro L hL
  unfold mapD
  show DataW.map _ = _
  rw [key L hL]

structure Loc where
  p : Option Addr
  n : Nat
  c : Nat
abbrev Loc.v (x : Loc) : Value := .slice x.p x.n x.c
def Ent.sd (f : Int → Loc) (x : Ent) : SagaD := x.s.withV (f x.id).p (f x.id).n (f x.id).c
abbrev Ent.val (f : Int → Loc) (x : Ent) : Value := (x.sd f).val
def pairE (f : Int → Loc) (x : Ent) : Int × Value := (x.id, x.val f)
def EntOk (x : Ent) : Prop := (∀ a ∈ x.l, a.wf) ∧ x.l.length ≤ 8 ∧ (0 ≤ x.s.step ∧ x.s.step ≤ 9) ∧ 1 ≤ x.id
def BkOk (t : BkS) : Prop := RiseE t.L ∧ (∀ x ∈ t.L, EntOk x ∧ x.id ≤ 4611686018427387904) ∧ 0 ≤ t.last ∧ t.last ≤ 4611686018427387904
theorem found_ent (f : Int → Loc) (L : List Ent) (z : Value) (id : Int) : foundIn (L.map (pairE f)) z id = match entAt L id with | some x => (x.val f, true) | none => (z, false) := by
  unfold foundIn entAt
  rw [List.find?_map]
  show (match (L.find? (fun x => x.id == id)).map (pairE f) with | some p => (p.2, true) | none => (z, false)) = _
  cases L.find? (fun x => x.id == id) <;> rfl

structure BookAt (F : Nat → Prop) (w : World) (g b k : Nat) (most : Int) (t : BkS) : Prop where
  cell : w.heap[g]? = some (.cells #[.int .i64 most, .int .i64 t.last, .map (some b)] 70 (0, 0))
  body : ∃ f : Int → Loc, w.ownsMap Tryz.prog 3 heldR b k (mapD (t.L.map (pairE f))) ∧ ∀ x ∈ t.L, StepsAt F w (f x.id).v x.l
  ok : BkOk t
  apart : g ≠ b ∧ ¬ F g ∧ ¬ F b
section
variable {F G : Nat → Prop} {w w' : World} {g b k : Nat} {most : Int} {t : BkS}
theorem BookAt.kept (h : BookAt F w g b k most t) (hk : Kept (fun i => i = g ∨ i = b ∨ F i) w w') : BookAt F w' g b k most t := by
  obtain ⟨f, ⟨es, clock, hb, rest⟩, hs⟩ := h.body
  exact ⟨(hk.2 g (lt_of_block h.cell) (.inl rfl)).trans h.cell, ⟨f, ⟨es, clock, (hk.2 b (lt_of_block hb) (.inr (.inl rfl))).trans hb, rest⟩, fun x hx => (hs x hx).kept (hk.mono fun i _ hi => .inr (.inr hi))⟩, h.ok, h.apart⟩
theorem BookAt.later (h : BookAt F w g b k most t) (hl : Later w w') : BookAt F w' g b k most t := h.kept (Kept.of_below hl _)
theorem BookAt.mono (h : BookAt F w g b k most t) (hg : ∀ i, i < w.heap.size → F i → G i) (h1 : ¬ G g) (h2 : ¬ G b) : BookAt G w g b k most t := by
  obtain ⟨f, hm, hs⟩ := h.body
  exact ⟨h.cell, ⟨f, hm, fun x hx => (hs x hx).mono hg⟩, h.ok, h.apart.1, h1, h2⟩
theorem BookAt.lt (h : BookAt F w g b k most t) : g < w.heap.size ∧ b < w.heap.size := by
  obtain ⟨f, hm, hs⟩ := h.body
  exact ⟨lt_of_block h.cell, hm.lt⟩
theorem BookAt.c0 (h : BookAt F w g b k most t) : w.cell? ⟨g, 0, none⟩ = some (.int .i64 most) := cell_of_row w g 0 _ _ _ h.cell
theorem BookAt.c1 (h : BookAt F w g b k most t) : w.cell? ⟨g, 1, none⟩ = some (.int .i64 t.last) := cell_of_row w g 1 _ _ _ h.cell
theorem BookAt.c2 (h : BookAt F w g b k most t) : w.cell? ⟨g, 2, none⟩ = some (.map (some b)) := cell_of_row w g 2 _ _ _ h.cell
theorem BookAt.thaw (h : BookAt F w g b k most t) (i : Nat) : w.frozen? ⟨g, i, none⟩ = false := frozen_of_row w g i _ _ h.cell
theorem BookAt.turned {Q : Nat → Prop} (h : BookAt F w g b k most t) (ht : Turned Q w w') (h1 : ¬ Q g) (h2 : ¬ Q b) (h3 : ∀ i, F i → ¬ Q i) : BookAt F w' g b k most t :=
  h.kept (ht.kept fun i hi => hi.elim (fun e => e ▸ h1) fun hi => hi.elim (fun e => e ▸ h2) (h3 i))
end
theorem Tryz.int_law : Keyed Tryz.prog 3 := int_keyed Tryz.underlying3
theorem int_key {a : Int} (h : I64 a) : keyOf Tryz.prog 3 (.int .i64 a) = some (.int .i64 a) := keyOf_int_mk Tryz.underlying3 (WalkArith.wf_i64 (by obtain ⟨h1, h2⟩ := h; omega))

section
variable {F : Nat → Prop} {w : World} {g b k : Nat} {most : Int} {t : BkS}
set_option maxHeartbeats 400000 in
theorem made_yes (h : BookAt F w g b k most t) : Calls Tryz.prog 25 #[.pointer (some ⟨g, 0, none⟩)] w fun e w' => e = .returned (.bool true) ∧ w = w' := by
  have hq := fun w r => run_neq_map_nil (P := Tryz.prog) w 68 _ _ r Tryz.underlying68
  have c2 := h.c2
  clear h
  go_enter Tryz.func25, Tryz.ntmps25
  go_wp2
  go_ret
  exact ⟨rfl, rfl⟩
def AtE (F : Nat → Prop) (x : Ent) (w : World) (e : Ending) (w' : World) : Prop := ∃ p n c, e = .returned (.tuple #[(x.s.withV p n c).val, .bool true]) ∧ StepsAt F w' (.slice p n c) x.l ∧ Later w w'
def NoE (w : World) (e : Ending) (w' : World) : Prop := e = .returned (.tuple #[SagaD.zero.val, .bool false]) ∧ Later w w'
set_option maxHeartbeats 4000000 in
set_option maxRecDepth 100000 in
theorem at_some (h : BookAt F w g b k most t) {x : Ent} {id : Int} (hid : I64 id) (hx : entAt t.L id = some x) : Calls Tryz.prog 22 #[.pointer (some ⟨g, 0, none⟩), .int .i64 id] w (AtE F x w) := by
  obtain ⟨W1, hW1⟩ : ∃ W1, W1 = w.alloc (.cells #[.string ⟨#[]⟩, .slice none 0 0, .int .i64 0, .int .i64 0, .int .i64 0, .bool false, .bool false, .bool false, .bool false, .bool false, .bool false, .bool false, .bool false] 36 (0, 0)) := ⟨_, rfl⟩
  obtain ⟨y, hy⟩ : ∃ y, y = w.heap.size := ⟨_, rfl⟩
  have Y1 : Hid (SBox 36 y SagaD.zero W1) := by rw [hW1, hy]; exact heap_alloc_new _ _
  have L1 : Hid (Later w W1) := by rw [hW1]; exact (Below.refl _ _).alloc (Nat.le_refl _) _
  have HY : Hid (w.heap.size ≤ y) := Nat.le_of_eq hy.symm
  have H1 := h.later L1.out
  obtain ⟨f, hm0, hs⟩ := h.body
  have hm : W1.ownsMap Tryz.prog 3 heldR b k (mapD (t.L.map (pairE f))) := by rw [hW1]; exact hm0.alloc _
  have HM := hide hm
  clear hm0
  have c2 := H1.c2
  have C := hide (made_yes H1)
  have HI := hide (int_key hid)
  have T1 : Hid (SBox 36 W1.heap.size SagaD.zero (W1.alloc (.cells #[.string ⟨#[]⟩, .slice none 0 0, .int .i64 0, .int .i64 0, .int .i64 0, .bool false, .bool false, .bool false, .bool false, .bool false, .bool false, .bool false, .bool false] 36 (0, 0)))) := heap_alloc_new _ _
  have Y2 : Hid (SBox 36 y SagaD.zero (W1.alloc (.cells #[.string ⟨#[]⟩, .slice none 0 0, .int .i64 0, .int .i64 0, .int .i64 0, .bool false, .bool false, .bool false, .bool false, .bool false, .bool false, .bool false, .bool false] 36 (0, 0)))) := Y1.out.below ((Below.refl _ _).alloc (Nat.le_refl _) _)
  have HLT := hide (SBox.lt Y1.out)
  have HR : Hid (foundIn (t.L.map (pairE f)) SagaD.zero.val id = ((x.sd f).val, true)) := by
    show _ = _
    rw [found_ent, hx]
  have HS : Hid (StepsAt F w (f x.id).v x.l) := hs x (entAt_mem hx).1
  clear hs hx
  have HW1 := hide hW1.symm
  have HG := hide hy.symm
  clear h hid hW1 hy hm H1
  go_enter Tryz.func22, Tryz.ntmps22
  go_wp2_with (fail)
  simp only [HW1.out, HG.out]
  refine C.out.mono ?_
  rintro e w2 ⟨rfl, hq⟩
  obtain rfl := hq.symm
  go_wp2_with (first
    | (at_lookup; refine wpList_lookup_held rfl _ _ 68 rfl 3 36 Tryz.int_law Tryz.underlying68 SagaD.zero.val (by kernel_rfl) b k _ rfl HM.out id rfl HI.out _ true HR.out ?_)
    | (refine wpList_store_saga (s := x.sd f) (by rfl) _ _ (by rfl) (by rfl) T1.out (by rfl) ?_; intro w3 X3 G3)
    | (refine wpList_load_saga (by rfl) _ (by rfl) (by rfl) X3 ?_)
    | (refine wpList_store_saga (by rfl) _ _ (by rfl) (by rfl) (Y2.out.other G3 (fun e => by have := Option.some.inj e; have := HLT.out; omega)) (by rfl) ?_; intro w4 Z4 G4))
  have L3 : Hid (Later w w3) := (L1.out.alloc (Below.size L1.out) _).grown G3 (Nat.le_trans (Below.size L1.out) (by simp)) (fun k hk => by have := Option.some.inj hk; have := Below.size L1.out; omega)
  have HLF : Hid (Later w w4) := L3.out.grown G4 (Below.size L3.out) (fun k hk => by have := Option.some.inj hk; have := HY.out; omega)
  refine bodyPost_ret (results_box2 Tryz.results22 _ _ y 36 _ _ (by rfl) Z4 Tryz.underlying36 (by rfl) (by kernel_rfl) (.bool true) (by rfl)) (by rfl) ?_
  exact ⟨_, _, _, rfl, StepsAt.kept HS.out (Kept.of_below HLF.out F), HLF.out⟩
set_option maxHeartbeats 4000000 in
set_option maxRecDepth 100000 in
theorem at_none (h : BookAt F w g b k most t) {id : Int} (hid : I64 id) (hx : entAt t.L id = none) : Calls Tryz.prog 22 #[.pointer (some ⟨g, 0, none⟩), .int .i64 id] w (NoE w) := by
  obtain ⟨W1, hW1⟩ : ∃ W1, W1 = w.alloc (.cells #[.string ⟨#[]⟩, .slice none 0 0, .int .i64 0, .int .i64 0, .int .i64 0, .bool false, .bool false, .bool false, .bool false, .bool false, .bool false, .bool false, .bool false] 36 (0, 0)) := ⟨_, rfl⟩
  obtain ⟨y, hy⟩ : ∃ y, y = w.heap.size := ⟨_, rfl⟩
  have Y1 : Hid (SBox 36 y SagaD.zero W1) := by rw [hW1, hy]; exact heap_alloc_new _ _
  have L1 : Hid (Later w W1) := by rw [hW1]; exact (Below.refl _ _).alloc (Nat.le_refl _) _
  have HY : Hid (w.heap.size ≤ y) := Nat.le_of_eq hy.symm
  have H1 := h.later L1.out
  obtain ⟨f, hm, hs⟩ := H1.body
  have HM := hide hm
  have c2 := H1.c2
  have C := hide (made_yes H1)
  have HI := hide (int_key hid)
  have T1 : Hid (SBox 36 W1.heap.size SagaD.zero (W1.alloc (.cells #[.string ⟨#[]⟩, .slice none 0 0, .int .i64 0, .int .i64 0, .int .i64 0, .bool false, .bool false, .bool false, .bool false, .bool false, .bool false, .bool false, .bool false] 36 (0, 0)))) := heap_alloc_new _ _
  have Y2 : Hid (SBox 36 y SagaD.zero (W1.alloc (.cells #[.string ⟨#[]⟩, .slice none 0 0, .int .i64 0, .int .i64 0, .int .i64 0, .bool false, .bool false, .bool false, .bool false, .bool false, .bool false, .bool false, .bool false] 36 (0, 0)))) := Y1.out.below ((Below.refl _ _).alloc (Nat.le_refl _) _)
  have HLT := hide (SBox.lt Y1.out)
  have HR : Hid (foundIn (t.L.map (pairE f)) SagaD.zero.val id = (SagaD.zero.val, false)) := by
    show _ = _
    rw [found_ent, hx]
  clear hs hx
  have HW1 := hide hW1.symm
  have HG := hide hy.symm
  clear h hid hW1 hy hm H1
  go_enter Tryz.func22, Tryz.ntmps22
  go_wp2_with (fail)
  simp only [HW1.out, HG.out]
  refine C.out.mono ?_
  rintro e w2 ⟨rfl, hq⟩
  obtain rfl := hq.symm
  go_wp2_with (first
    | (at_lookup; refine wpList_lookup_held rfl _ _ 68 rfl 3 36 Tryz.int_law Tryz.underlying68 SagaD.zero.val (by kernel_rfl) b k _ rfl HM.out id rfl HI.out _ false HR.out ?_)
    | (refine wpList_store_saga (s := SagaD.zero) (by rfl) _ _ (by rfl) (by rfl) T1.out (by rfl) ?_; intro w3 X3 G3)
    | (refine wpList_load_saga (by rfl) _ (by rfl) (by rfl) X3 ?_)
    | (refine wpList_store_saga (by rfl) _ _ (by rfl) (by rfl) (Y2.out.other G3 (fun e => by have := Option.some.inj e; have := HLT.out; omega)) (by rfl) ?_; intro w4 Z4 G4))
  have L3 : Hid (Later w w3) := (L1.out.alloc (Below.size L1.out) _).grown G3 (Nat.le_trans (Below.size L1.out) (by simp)) (fun k hk => by have := Option.some.inj hk; have := Below.size L1.out; omega)
  have HLF : Hid (Later w w4) := L3.out.grown G4 (Below.size L3.out) (fun k hk => by have := Option.some.inj hk; have := HY.out; omega)
  refine bodyPost_ret (results_box2 Tryz.results22 _ _ y 36 _ _ (by rfl) Z4 Tryz.underlying36 (by rfl) (by kernel_rfl) (.bool false) (by rfl)) (by rfl) ?_
  exact ⟨rfl, HLF.out⟩
set_option maxHeartbeats 4000000 in
theorem bown_any {F : Nat → Prop} {s : SagaD} {l : List StepD} (h : StepsAt F w s.v l) (hl : l.length ≤ 1000000) : Calls Tryz.prog 23 #[s.val] w (Owns s l w) := by
  obtain ⟨W1, hW1⟩ : ∃ W1, W1 = (w.alloc (.cells s.cells.toArray 36 (0, 0))).alloc (.cells #[.string ⟨#[]⟩, .slice none 0 0, .int .i64 0, .int .i64 0, .int .i64 0, .bool false, .bool false, .bool false, .bool false, .bool false, .bool false, .bool false, .bool false] 36 (0, 0)) := ⟨_, rfl⟩
  obtain ⟨g, hg⟩ : ∃ g, g = w.heap.size := ⟨_, rfl⟩
  have X1 : Hid (SBox 36 g s W1) := by rw [hW1, hg]; exact (heap_alloc_old _ _ (by simp)).trans (heap_alloc_new _ _)
  have Y1 : Hid (SBox 36 (g + 1) SagaD.zero W1) := by rw [hW1, hg]; exact heap_second _ _ _
  have L1 : Hid (Later w W1) := by rw [hW1]; exact ((Below.refl _ _).alloc (Nat.le_refl _) _).alloc (by simp) _
  have HG0 : Hid (w.heap.size ≤ g) := Nat.le_of_eq hg.symm
  have C := hide (Sd.clone_steps F s.v l.length _ W1 (StepsAt.kept h (Kept.of_below L1.out _)) hl)
  have HW1 := hide hW1.symm
  have HG := hide hg.symm
  clear hW1 hg h hl
  have xe := X1.out
  rw [← HW1.out, ← HG.out] at xe
  have XE := hide xe
  clear xe
  have e1 := XE.out.c1
  go_enter Tryz.func23, Tryz.ntmps23
  unfold SagaD.v at C
  go_wp2_with (fail)
  simp only [HW1.out, HG.out]
  refine C.out.mono ?_
  rintro e w2 ⟨v, rfl, ho, hb⟩
  have hs : StepsAt (W1.heap.size ≤ ·) w2 v l := FlatAt.of_own ho (cells_one l)
  obtain ⟨A, c, rfl, _, _, _⟩ := FlatAt.shape hs
  have S2 : Hid (StepsAt (fun _ => True) w2 (.slice A l.length c) l) := FlatAt.mono hs (fun _ _ _ => trivial)
  have L2 := hide (L1.out.trans hb)
  have X2 := hide (X1.out.below hb)
  have Y2 := hide (Y1.out.below hb)
  have d1 := X2.out.c1
  have f1 := X2.out.thaw 1
  obtain ⟨n, hn⟩ : ∃ n, l.length = n := ⟨_, rfl⟩
  rw [hn] at S2 ⊢
  have X3 : Hid (SBox 36 g (s.withV A n c) (w2.setCell ⟨g, 1, none⟩ (.slice A n c))) := heap_setCell_same w2 g 1 _ _ _ X2.out
  have Y3 : Hid (SBox 36 (g + 1) SagaD.zero (w2.setCell ⟨g, 1, none⟩ (.slice A n c))) := (heap_setCell_other _ _ _ _ (by simp)).trans Y2.out
  have L3 : Hid (Later w (w2.setCell ⟨g, 1, none⟩ (.slice A n c))) := L2.out.setCell (p := ⟨g, 1, none⟩) HG0.out _
  have S3 : Hid (StepsAt (W1.heap.size ≤ ·) (w2.setCell ⟨g, 1, none⟩ (.slice A n c)) (.slice A n c) l) := by
    rw [hn] at hs
    exact StepsAt.kept hs ⟨by simp, fun i _ hf => heap_setCell_other _ _ _ _ (fun e => by have := X1.out.lt; simp at e; omega)⟩
  clear e1 ho hb hs C hn
  go_wp2_with (first | (refine wpList_load_saga (by rfl) _ (by rfl) (by rfl) X3.out ?_) | (refine wpList_store_saga (by rfl) _ _ (by rfl) (by rfl) Y3.out (by rfl) ?_; intro w4 Z4 G4))
  have S4 : Hid (StepsAt (w.heap.size ≤ ·) w4 (.slice A n c) l) := FlatAt.mono (StepsAt.kept S3.out (Kept.of_grown G4 (fun k hk hf => by have := Option.some.inj hk; have := Y1.out.lt; omega))) (fun i _ hf => Nat.le_trans (Below.size L1.out) hf)
  have HLF : Hid (Later w _) := L3.out.grown G4 (Below.size L3.out) (fun k hk => by have := Option.some.inj hk; have := HG0.out; omega)
  refine bodyPost_ret (results_cell_row Tryz.results23 _ _ (g + 1) 36 _ (0, 0) _ (by rfl) Z4 Tryz.underlying36 (by rfl) (by kernel_rfl)) (by rfl) ?_
  exact ⟨A, n, c, rfl, S4.out, HLF.out⟩
end
end Go.Proofs.YtpckdhjnhnonhaaGreat
/- What is counted of a book: count, Count, full, underWay of package book. -/
namespace Go.Proofs.YtpckdhjnhnonhaaGreat
open Go.RowKit Go.Maps

def Cnt (p : Ent → Bool) (L : List Ent) (left : Lit → Bool) (n : Nat) : Prop := n = L.countP fun x => p x && !left (.int .i64 x.id)
theorem Cnt.start (p : Ent → Bool) (L : List Ent) (V : Ent → Value) : Cnt p L (Maps.has (mapD (L.map fun x => (x.id, V x)))) 0 := by
  unfold Cnt
  symm
  rw [List.countP_eq_zero]
  intro x hx
  rw [has_mapD]
  have : ((L.map fun x => (x.id, V x)).any fun q => q.1 == x.id) = true := List.any_eq_true.2 ⟨(x.id, V x), List.mem_map.2 ⟨x, hx, rfl⟩, by simp⟩
  rw [this]
  simp
theorem count_strike (p : Ent → Bool) (x : Ent) (left : Lit → Bool) : ∀ (L : List Ent), RiseE L → x ∈ L → left (.int .i64 x.id) = true →
    L.countP (fun z => p z && !(left (.int .i64 z.id) && !(Lit.int .i64 z.id).sameKey (.int .i64 x.id))) = L.countP (fun z => p z && !left (.int .i64 z.id)) + (if p x then 1 else 0)
  | [], _, h, _ => by cases h
  | z :: r, hr, hx, hl => by
    obtain ⟨h1, h2⟩ := List.pairwise_cons.1 hr
    rw [List.countP_cons, List.countP_cons]
    rcases List.mem_cons.1 hx with rfl | hx
    · have e : r.countP (fun z => p z && !(left (.int .i64 z.id) && !(Lit.int .i64 z.id).sameKey (.int .i64 x.id))) = r.countP (fun z => p z && !left (.int .i64 z.id)) := by
        refine List.countP_congr fun y hy => ?_
        have := h1 y hy
        have hs : (Lit.int .i64 y.id).sameKey (.int .i64 x.id) = false := by simp [Lit.sameKey]; omega
        rw [hs]
        simp
      rw [e, hl]
      have hs : (Lit.int .i64 x.id).sameKey (.int .i64 x.id) = true := by simp [Lit.sameKey]
      rw [hs]
      cases p x <;> simp
    · have := count_strike p x left r h2 hx hl
      rw [this]
      have hz := h1 x hx
      have hs : (Lit.int .i64 z.id).sameKey (.int .i64 x.id) = false := by simp [Lit.sameKey]; omega
      rw [hs]
      simp
      omega
theorem Cnt.next {p : Ent → Bool} {L : List Ent} {left : Lit → Bool} {n : Nat} {x : Ent} (h : Cnt p L left n) (hr : RiseE L) (hx : x ∈ L) (hl : left (.int .i64 x.id) = true) :
    Cnt p L (fun z => left z && !z.sameKey (.int .i64 x.id)) (n + if p x then 1 else 0) := by
  unfold Cnt at *
  rw [count_strike p x left L hr hx hl, h]
theorem Cnt.done {p : Ent → Bool} {L : List Ent} {left : Lit → Bool} {n : Nat} (h : Cnt p L left n) (hl : ∀ z, left z = false) : n = L.countP p := by
  unfold Cnt at h
  rw [h]
  refine List.countP_congr fun x _ => ?_
  rw [hl]
  simp
theorem came_ent {f : Int → Loc} {L : List Ent} {x : Int} {d : DataW Value} (h : ∀ zd, (mapD (L.map (pairE f))).atKey (.int .i64 x) zd = d) : ∃ y ∈ L, y.id = x ∧ d = .held (y.val f) := by
  have h0 := h .nil
  have h1 := h (.held (.bool true))
  rw [at_mapD] at h0 h1
  cases hf : (L.map (pairE f)).find? (fun p => p.1 == x) with
  | none => rw [hf] at h0 h1; simp only at h0 h1; rw [← h0] at h1; cases h1
  | some p =>
    rw [hf] at h0
    obtain ⟨y, hy, rfl⟩ := List.mem_map.1 (List.mem_of_find?_eq_some hf)
    exact ⟨y, hy, by simpa [pairE] using List.find?_some hf, h0.symm⟩
theorem later_grown {w w' : World} (h : Later w w') : w.grownBy w' none := ⟨h.os, h.tape, h.output, h.size, fun i hi _ => h.block i hi⟩
theorem later_of_grown {w w' : World} (h : w.grownBy w' none) : Later w w' := ⟨h.os, h.tape, h.output, h.size, fun i hi => h.block i hi (by simp)⟩

section
variable {F : Nat → Prop} {w : World} {g b k : Nat} {most : Int} {t : BkS}
set_option maxHeartbeats 4000000 in
set_option maxRecDepth 100000 in
theorem count_any (gf : Nat) (cb : Array Value) (p : Ent → Bool) (h : BookAt F w g b k most t) (hn : t.L.length ≤ 1000000) (eg : ∀ args w, (callFunc gf args).run Tryz.prog w = .ok (.enter gf args) w)
    (hc : ∀ W, Later w W → ∀ x ∈ t.L, ∀ q n c, Calls Tryz.prog gf (#[.int .i64 x.id, (x.s.withV q n c).val] ++ cb) W (Gives (.bool (p x)) W)) :
    Calls Tryz.prog 43 #[.pointer (some ⟨g, 0, none⟩), .func (.func gf) #[] cb] w (Gives (.int .i64 ((t.L.countP p : Nat) : Int)) w) := by
  have C := hide (made_yes h)
  have c2 := h.c2
  obtain ⟨f, hm, _⟩ := h.body
  have HM := hide hm
  have HR := hide h.ok.1
  have HC := hide hc
  obtain ⟨L, hL⟩ : ∃ L, t.L = L := ⟨_, rfl⟩
  rw [hL] at HM HR HC hn ⊢
  clear hL h hc hm
  go_enter Tryz.func43, Tryz.ntmps43
  go_wp2_with (fail)
  refine C.out.mono ?_
  rintro e w1 ⟨rfl, rfl⟩
  obtain ⟨R, hRR⟩ : ∃ R, w.heap.size = R := ⟨_, rfl⟩
  have HRR := hide hRR
  clear hRR
  go_wp2_with (at_range; refine wpList_range_own _ rfl _ 68 rfl 3 36 Tryz.int_law Tryz.underlying68 _ b k _ rfl HM.out ?_; rw [HRR.out]; intro w2 hrg0 hg0 hs0)
  have HG0 : Hid (Later w w2) := later_of_grown hg0
  have HRG0 := hide hrg0
  clear hrg0 hg0 hs0
  go_frame
  go_loopw [5] (fun n wr => ∃ (q : Nat) (left : Lit → Bool) (cnt : Nat), n = .int .i64 (q : Int) ∧ wr.ranges Tryz.prog 3 heldR b R k (mapD (L.map (pairE f))) left cnt ∧ Cnt p L left q ∧ Later w wr) (fun _ wr => wr.rangeLeft b R)
  case atStart => exact ⟨0, _, _, rfl, HRG0.out, Cnt.start p L (Ent.val f), HG0.out⟩
  case round =>
    obtain ⟨q, left, cnt, rfl, hrg, htop, hb⟩ := hrel
    have HRG := hide hrg
    have HTOP := hide htop
    have HB := hide hb
    have hq : q ≤ 1000000 := by
      have h1 : q = L.countP _ := htop
      have h2 := List.countP_le_length (p := fun x => p x && !left (.int .i64 x.id)) (l := L)
      omega
    clear hrg htop hb HRG0 HG0
    go_wp2_with (at_next; refine wpList_next_ranges _ rfl _ rfl 3 Tryz.int_law heldR (Value.int .i64) id (fun key kl hkey => by obtain ⟨x, rfl, _⟩ := Maps.keyOf_int_inv Tryz.underlying3 hkey; exact ⟨x, rfl⟩) (fun v _ _ => ⟨v, rfl⟩) b R k _ _ _ rfl HRG.out ?_ ?_)
    · intro _ hl0
      have hd := HTOP.out.done hl0
      subst hd
      go_wp2
      go_ret
      exact ⟨rfl, HB.out⟩
    · intro x c kl yd yp w3 cnt3 hkey hlx hv hat hrg3 hlt hg3 hs3 hen
      obtain ⟨x', ex, rfl, _⟩ := Maps.keyOf_int_inv Tryz.underlying3 hkey
      cases ex
      obtain ⟨z, hz, rfl, hzd⟩ := came_ent hat
      have hcv : c = z.val f := by
        have e1 : (DataW.held c, ([] : List MemPlace)) = (yd, yp) := Option.some.inj hv
        have e2 : DataW.held c = yd := congrArg Prod.fst e1
        rw [← e2] at hzd
        exact DataW.held.inj hzd
      subst hcv
      have HRG3 := hide hrg3
      have HB3 : Hid (Later w w3) := Below.grown HB.out hg3 (Below.size HB.out) (fun k hk => by have := Option.some.inj hk; have := HRR.out; omega)
      have HT3 := hide (HTOP.out.next HR.out hz hlx)
      have HZ := hide hz
      obtain ⟨zi, zs, zl⟩ := z
      simp only at HT3 HZ hen ⊢
      simp only at HRG3
      obtain ⟨lc, hlc⟩ : ∃ lc, f zi = lc := ⟨_, rfl⟩
      have hvz : Ent.val f ⟨zi, zs, zl⟩ = (zs.withV lc.p lc.n lc.c).val := by rw [← hlc]; rfl
      rw [hvz] at hen ⊢
      obtain ⟨s2, hs2⟩ : ∃ s2, zs.withV lc.p lc.n lc.c = s2 := ⟨_, rfl⟩
      rw [hs2] at hen ⊢
      have HS2 := hide hs2
      have HLT := hide hlt
      clear hat hrg3 hg3 hs3 hlx hv hkey hz hzd hvz hlc hs2 hlt
      obtain ⟨v, hv⟩ : ∃ v, v = w3.heap.size := ⟨_, rfl⟩
      have T3 : Hid (SBox 36 w3.heap.size SagaD.zero (w3.alloc (.cells #[.string ⟨#[]⟩, .slice none 0 0, .int .i64 0, .int .i64 0, .int .i64 0, .bool false, .bool false, .bool false, .bool false, .bool false, .bool false, .bool false, .bool false] 36 (0, 0)))) := heap_alloc_new _ _
      have L3 : Hid (Later w3 (w3.alloc (.cells #[.string ⟨#[]⟩, .slice none 0 0, .int .i64 0, .int .i64 0, .int .i64 0, .bool false, .bool false, .bool false, .bool false, .bool false, .bool false, .bool false, .bool false] 36 (0, 0)))) := (Below.refl _ _).alloc (Nat.le_refl _) _
      clear hv v
      go_wp2_with (refine wpList_store_saga (s := s2) (by rfl) _ _ (by rfl) (by rfl) T3.out (by rfl) ?_)
      intro w4 X4 G4
      have L4 : Hid (Later w3 w4) := L3.out.grown G4 (by simp) (fun k hk => by have := Option.some.inj hk; omega)
      have XX := hide X4
      clear X4 G4 hen
      go_wp2_with (refine wpList_load_saga (by rfl) _ (by rfl) (by rfl) XX.out ?_)
      have hcall := HC.out w4 (Later.trans HB3.out L4.out) ⟨zi, zs, zl⟩ HZ.out lc.p lc.n lc.c
      simp only [HS2.out] at hcall
      go_at_fn gf
      refine hcall.mono ?_
      rintro e w5 ⟨rfl, hl5⟩
      have L5 : Hid (Later w3 w5) := Later.trans L4.out hl5
      have HRG5 := hide (HRG3.out.kept (later_grown L5.out) (by simp) (by simp))
      have HB5 : Hid (Later w w5) := Later.trans HB3.out L5.out
      clear hcall hl5
      cases hp : p ⟨zi, zs, zl⟩ with
      | true =>
        have HT5 : Hid (Cnt p L (fun z => left z && !z.sameKey (.int .i64 zi)) (q + 1)) := by
          have := HT3.out
          rw [hp] at this
          exact this
        clear hp
        go_wp2
        go_roundw
        case rel => exact ⟨q + 1, _, _, by go_num, HRG5.out, HT5.out, HB5.out⟩
        case measure => rw [HRG5.out.left_eq, HRG.out.left_eq]; exact HLT.out
      | false =>
        have HT5 : Hid (Cnt p L (fun z => left z && !z.sameKey (.int .i64 zi)) q) := by
          have := HT3.out
          rw [hp] at this
          exact this
        clear hp
        go_wp2
        go_roundw
        case rel => exact ⟨q, _, _, rfl, HRG5.out, HT5.out, HB5.out⟩
        case measure => rw [HRG5.out.left_eq, HRG.out.left_eq]; exact HLT.out
end
end Go.Proofs.YtpckdhjnhnonhaaGreat
/- A long chain of '&&' over fields of two structs, one conjunct at a time: the frame is known by four of its slots alone. -/
namespace Go.Proofs.YtpckdhjnhnonhaaGreat
open Go.RowKit

structure Fr (X Y : Value) (k : Nat) (c : Bool) (n : Nat) (a : Act) : Prop where
  x : a.tmps[2]? = some X
  y : a.tmps[3]? = some Y
  c : a.tmps[k]? = some (.bool c)
  n : a.tmps.size = n
  d : a.defers = []
theorem put_tmps (a : Act) (d : Nat) (v : Value) (i : Nat) : (a.put (some d) v).tmps[i]? = if d = i then (if i < a.tmps.size then some v else none) else a.tmps[i]? := by
  show (a.tmps.setIfInBounds d v)[i]? = _
  rw [Array.getElem?_setIfInBounds]
  by_cases h : d = i
  · subst h
    simp
  · simp [h]
theorem put_other (a : Act) (d : Nat) (v : Value) (i : Nat) (h : d ≠ i) : (a.put (some d) v).tmps[i]? = a.tmps[i]? := by rw [put_tmps, if_neg h]
theorem put_size (a : Act) (d : Nat) (v : Value) : (a.put (some d) v).tmps.size = a.tmps.size := by simp [Act.put]
structure Fr0 (X Y : Value) (n : Nat) (a : Act) : Prop where
  x : a.tmps[2]? = some X
  y : a.tmps[3]? = some Y
  n : a.tmps.size = n
  d : a.defers = []
section
variable {X Y : Value} {k n : Nat} {c : Bool} {a : Act}
theorem Fr0.put (h : Fr0 X Y n a) (d : Nat) (v : Value) (h2 : d ≠ 2) (h3 : d ≠ 3) : Fr0 X Y n (a.put (some d) v) := ⟨(put_other a d v 2 h2).trans h.x, (put_other a d v 3 h3).trans h.y, (put_size a d v).trans h.n, h.d⟩
theorem Fr.put (h : Fr X Y k c n a) (d : Nat) (v : Value) (h2 : d ≠ 2) (h3 : d ≠ 3) (hk : d ≠ k) : Fr X Y k c n (a.put (some d) v) :=
  ⟨(put_other a d v 2 h2).trans h.x, (put_other a d v 3 h3).trans h.y, (put_other a d v k hk).trans h.c, (put_size a d v).trans h.n, h.d⟩
variable {P : Program} {ops : Array Oper} {Q : Exit → Act → World → Prop} {rest : List Oper} {w : World}
theorem wpList_val {o : Oper} {d : Nat} {v : Value} {w' : World} (hd : o.dst = some d) (hw : Region.wanted o (yielded ops a.tmps) = true) (hx : (execOp a.eval o).run P w = .ok (.value v) w')
    (h : wpList P ops Q rest (a.put (some d) v) w') : wpList P ops Q (o :: rest) a w := by
  refine wpList_step fun K hK => ?_
  rw [if_pos hw]
  unfold Oper.wp
  rw [hx, Oper.upon_value, hd]
  exact hK _ _ h
end
end Go.Proofs.YtpckdhjnhnonhaaGreat
/- underWay, Count and full of package book. -/
namespace Go.Proofs.YtpckdhjnhnonhaaGreat
open Go.RowKit Go.Maps
section
variable {w : World}
set_option maxHeartbeats 1000000 in
set_option maxRecDepth 100000 in
theorem under_any (s : SagaD) : Calls Tryz.prog 46 #[s.val] w (Gives (.bool (decide (s.st = 1) || decide (s.st = 2))) w) := by
  obtain ⟨W1, hW1⟩ : ∃ W1, W1 = w.alloc (.cells s.cells.toArray 36 (0, 0)) := ⟨_, rfl⟩
  obtain ⟨y, hy⟩ : ∃ y, y = w.heap.size := ⟨_, rfl⟩
  have X1 : Hid (SBox 36 y s W1) := by rw [hW1, hy]; exact heap_alloc_new _ _
  have L1 : Hid (Later w W1) := by rw [hW1]; exact (Below.refl _ _).alloc (Nat.le_refl _) _
  have c2 := X1.out.c2
  rw [hW1, hy] at c2
  obtain ⟨st, hst⟩ : ∃ st, s.st = st := ⟨_, rfl⟩
  rw [hst] at c2 ⊢
  have HW1 := hide hW1.symm
  have HY := hide hy.symm
  clear hW1 hy hst
  by_cases h1 : st = 1
  · subst h1
    go_enter Tryz.func46, Tryz.ntmps46
    go_wp2
    go_ret
    exact ⟨rfl, by rw [HW1.out]; exact L1.out⟩
  · have e1 : (st == 1) = false := by simpa using h1
    have d1 : decide (st = 1) = false := by simpa using h1
    rw [d1]
    by_cases h2 : st = 2
    · subst h2
      clear h1 d1 e1
      go_enter Tryz.func46, Tryz.ntmps46
      go_wp2
      go_ret
      exact ⟨rfl, by rw [HW1.out]; exact L1.out⟩
    · have e2 : (st == 2) = false := by simpa using h2
      have d2 : decide (st = 2) = false := by simpa using h2
      rw [d2]
      clear h1 h2 d1 d2
      go_enter Tryz.func46, Tryz.ntmps46
      go_wp2
      go_ret
      exact ⟨rfl, by rw [HW1.out]; exact L1.out⟩
def another (id : Int) (x : Ent) : Bool := (x.id != id) && x.isOpen
set_option maxHeartbeats 1000000 in
set_option maxRecDepth 100000 in
theorem another_is (x : Ent) (q : Option Addr) (n c : Nat) {pg : Nat} {but : Int} (hp : pg < w.heap.size) (hc : w.cell? ⟨pg, 0, none⟩ = some (.int .i64 but)) :
    Calls Tryz.prog 79 #[.int .i64 x.id, (x.s.withV q n c).val, .pointer (some ⟨pg, 0, none⟩)] w (Gives (.bool (another but x)) w) := by
  obtain ⟨s, hs⟩ : ∃ s, x.s.withV q n c = s := ⟨_, rfl⟩
  have hst : x.s.st = s.st := by rw [← hs]; rfl
  unfold another Ent.isOpen
  rw [hs, hst]
  obtain ⟨W1, hW1⟩ : ∃ W1, W1 = w.alloc (.cells s.cells.toArray 36 (0, 0)) := ⟨_, rfl⟩
  obtain ⟨y, hy⟩ : ∃ y, y = w.heap.size := ⟨_, rfl⟩
  have X1 : Hid (SBox 36 y s W1) := by rw [hW1, hy]; exact heap_alloc_new _ _
  have L1 : Hid (Later w W1) := by rw [hW1]; exact (Below.refl _ _).alloc (Nat.le_refl _) _
  have c1 : W1.cell? ⟨pg, 0, none⟩ = some (.int .i64 but) := (Below.cell L1.out (p := ⟨pg, 0, none⟩) hp).trans hc
  have C := hide (under_any (w := W1) s)
  obtain ⟨id, hid⟩ : ∃ id, x.id = id := ⟨_, rfl⟩
  rw [hid]
  obtain ⟨r, hr⟩ : ∃ r, (decide (s.st = 1) || decide (s.st = 2)) = r := ⟨_, rfl⟩
  rw [hr] at C ⊢
  rw [hW1] at c1
  have HW1 := hide hW1.symm
  have HY := hide hy.symm
  have X2 : Hid (SBox 36 w.heap.size s (w.alloc (.cells s.cells.toArray 36 (0, 0)))) := heap_alloc_new _ _
  clear hW1 hy hs hst hc hp hid hr X1
  by_cases hb : id = but
  · have e1 : (id != but) = false := by simpa using hb
    rw [e1]
    go_enter Tryz.func79, Tryz.ntmps79
    go_wp2
    go_ret
    exact ⟨rfl, by rw [HW1.out]; exact L1.out⟩
  · have e1 : (id != but) = true := by simpa using hb
    rw [e1]
    go_enter Tryz.func79, Tryz.ntmps79
    go_wp2_with (refine wpList_val rfl (by rfl) (exec_load_saga _ (by rfl) (by rfl) X2.out) ?_; rw [HW1.out])
    refine C.out.mono ?_
    rintro e w2 ⟨rfl, hl⟩
    have HL := hide hl
    clear hl
    go_wp2
    go_ret
    exact ⟨rfl, L1.out.trans HL.out⟩
end
section
variable {F : Nat → Prop} {w : World} {g b k : Nat} {most : Int} {t : BkS}
theorem enters_another : ∀ args w, (callFunc 79 args).run Tryz.prog w = .ok (.enter 79 args) w := enters_of Tryz.func79 (by kernel_rfl) rfl
def stateN (L : List Ent) (st : Int) : Nat := L.countP fun x => x.s.st == st
def fullB (L : List Ent) (most id : Int) : Bool := decide (most ≤ ((L.countP (another id) : Nat) : Int))
set_option maxHeartbeats 1000000 in
set_option maxRecDepth 100000 in
theorem full_any (id : Int) (h : BookAt F w g b k most t) (hn : t.L.length ≤ 1000000) : Calls Tryz.prog 47 #[.pointer (some ⟨g, 0, none⟩), .int .i64 id] w (Gives (.bool (fullB t.L most id)) w) := by
  obtain ⟨W1, hW1⟩ : ∃ W1, W1 = w.alloc (.cells #[.int .i64 id] 3 (0, 0)) := ⟨_, rfl⟩
  obtain ⟨y, hy⟩ : ∃ y, y = w.heap.size := ⟨_, rfl⟩
  have L1 : Hid (Later w W1) := by rw [hW1]; exact (Below.refl _ _).alloc (Nat.le_refl _) _
  have hb : W1.heap[y]? = some (.cells #[.int .i64 id] 3 (0, 0)) := by rw [hW1, hy]; exact heap_alloc_new _ _
  have hc : W1.cell? ⟨y, 0, none⟩ = some (.int .i64 id) := cell_of_row W1 y 0 _ _ _ hb
  have hlt := lt_of_block hb
  obtain ⟨r, hr⟩ : ∃ r, t.L.countP (another id) = r := ⟨_, rfl⟩
  have C : Hid (∀ W, Later W1 W → Calls Tryz.prog 43 #[.pointer (some ⟨g, 0, none⟩), .func (.func 79) #[] #[.pointer (some ⟨y, 0, none⟩)]] W (Gives (.int .i64 (r : Int)) W)) := fun W hWW => by
    have hl0 : Later w W1 := L1.out
    have hlw : Later w W := Later.trans hl0 hWW
    have hbw := h.later hlw
    have := count_any 79 #[.pointer (some ⟨y, 0, none⟩)] (another id) hbw hn enters_another fun W' hW x _ q n c => by
      have hl9 : Later W1 W' := Later.trans hWW hW
      have h1 : y < W'.heap.size := Nat.lt_of_lt_of_le hlt (Below.size hl9)
      have h2 : W'.cell? ⟨y, 0, none⟩ = some (.int .i64 id) := (Below.cell hl9 (p := ⟨y, 0, none⟩) hlt).trans hc
      exact another_is x q n c h1 h2
    rw [hr] at this
    exact this
  have CF : Hid (∀ W, Later w W → W.cell? ⟨g, 0, none⟩ = some (.int .i64 most)) := fun W hW => (h.later hW).c0
  unfold fullB
  rw [hr]
  have HW1 := hide hW1.symm
  have HY := hide hy.symm
  clear h hn hW1 hy hb hc hlt hr
  go_enter Tryz.func47, Tryz.ntmps47
  go_wp2_with (fail)
  simp only [HW1.out, HY.out]
  refine wp_region_L (by kernel_rfl) ?_
  refine wpAnyL_take (i := 0) (d := some 5) (v := ?vaa0) rfl rfl (by kernel_rfl) (by kernel_rfl) (by kernel_rfl) (fun _ _ _ h => h) (by rfl) ?yaa0 ?_
  case yaa0 => (intro w' hw'; go_simp; try (with_reducible rfl))
  simp only [Act.put]; try simp only [sA_, sZ_, sS_]
  refine wpAnyL_take (i := 1) (d := some 6) (v := ?vaa1) rfl rfl (by kernel_rfl) (by kernel_rfl) (by kernel_rfl) (fun _ _ _ h => h) (by rfl) ?yaa1 ?_
  case yaa1 => (intro w' hw'; go_simp; try (with_reducible rfl))
  simp only [Act.put]; try simp only [sA_, sZ_, sS_]
  refine wpAnyL_take (i := 3) (d := some 8) (v := ?vaa3) rfl rfl (by kernel_rfl) (by kernel_rfl) (by kernel_rfl) (fun _ _ _ h => h) (by rfl) ?yaa3 ?_
  case yaa3 => (intro w' hw'; go_simp; try (with_reducible rfl))
  simp only [Act.put]; try simp only [sA_, sZ_, sS_]
  refine wpAnyL_take (i := 4) (d := some 9) (v := ?vaa4) rfl rfl (by kernel_rfl) (by kernel_rfl) (by kernel_rfl) (fun _ _ _ h => h) (by rfl) ?yaa4 ?_
  case yaa4 => (intro w' hw'; go_simp; try (with_reducible rfl))
  simp only [Act.put]; try simp only [sA_, sZ_, sS_]
  refine wpAnyL_take (i := 5) (d := some 10) (v := ?vaa5) rfl rfl (by kernel_rfl) (by kernel_rfl) (by kernel_rfl) (fun _ _ _ h => h) (by rfl) ?yaa5 ?_
  case yaa5 => (intro w' hw'; go_simp; try (with_reducible rfl))
  simp only [Act.put]; try simp only [sA_, sZ_, sS_]
  refine wpAnyL_take (i := 6) (d := some 11) (v := ?vaa6) rfl rfl (by kernel_rfl) (by kernel_rfl) (by kernel_rfl) (fun _ _ _ h => h) (by rfl) ?yaa6 ?_
  case yaa6 => (intro w' hw'; have hd1 : Later w W1.drew := Later.trans (show Later w W1 from L1.out) (Later.drew _); have cc := CF.out _ (Later.trans hd1 hw'); clear hd1; go_simp; try (with_reducible rfl))
  simp only [Act.put]; try simp only [sA_, sZ_, sS_]
  refine wpAnyL_only (i := 2) rfl (by kernel_rfl) (by rfl) fun K hK => ?_
  go_simp
  refine (C.out _ (Later.drew _)).mono ?_
  rintro e w1 ⟨rfl, hl⟩
  have hd0 : Later w W1 := L1.out
  have hd1 : Later W1 W1.drew := Later.drew _
  have hd2 : Later W1 w1 := Later.trans hd1 hl
  have HL : Hid (Later w w1) := Later.trans hd0 hd2
  clear hd0 hd1 hd2
  refine hK.out _ _ hl ?_
  clear hl
  clear hK K
  try (simp only [Act.put]; try simp only [sA_, sZ_, sS_])
  refine wpAnyL_take (i := 7) (d := some 12) (v := ?vaa7) rfl rfl (by kernel_rfl) (by kernel_rfl) (by kernel_rfl) (fun _ _ _ h => h) (by rfl) ?yaa7 ?_
  case yaa7 => (intro w' hw'; go_simp; try (with_reducible rfl))
  simp only [Act.put]; try simp only [sA_, sZ_, sS_]
  refine wpAnyL_take (i := 8) (d := some 4) (v := ?vaa8) rfl rfl (by kernel_rfl) (by kernel_rfl) (by kernel_rfl) (fun _ _ _ h => h) (by rfl) ?yaa8 ?_
  case yaa8 => (intro w' hw'; go_simp; try (with_reducible rfl))
  simp only [Act.put]; try simp only [sA_, sZ_, sS_]
  refine wpAnyL_done (by kernel_rfl) ?_ _
  go_wp2
  go_ret
  exact ⟨rfl, HL.out⟩
end
end Go.Proofs.YtpckdhjnhnonhaaGreat
/- Saga, Status and New of package book. -/
namespace Go.Proofs.YtpckdhjnhnonhaaGreat
open Go.RowKit Go.Maps
def AtV (F : Nat → Prop) (s : SagaD) (l : List StepD) (ok : Bool) (w : World) (e : Ending) (w' : World) : Prop := ∃ p n c, e = .returned (.tuple #[(s.withV p n c).val, .bool ok]) ∧ StepsAt F w' (.slice p n c) l ∧ Later w w'
def atS (t : BkS) (id : Int) : SagaD := match entAt t.L id with | some x => x.s | none => SagaD.zero
def atL (t : BkS) (id : Int) : List StepD := match entAt t.L id with | some x => x.l | none => []
def atB (t : BkS) (id : Int) : Bool := (entAt t.L id).isSome
section
variable {F : Nat → Prop} {w : World} {g b k : Nat} {most : Int} {t : BkS}
theorem bat_any (h : BookAt F w g b k most t) {id : Int} (hid : I64 id) : Calls Tryz.prog 22 #[.pointer (some ⟨g, 0, none⟩), .int .i64 id] w (AtV F (atS t id) (atL t id) (atB t id) w) := by
  unfold atS atL atB
  cases hx : entAt t.L id with
  | some x => exact at_some h hid hx
  | none =>
    refine (at_none h hid hx).mono ?_
    rintro e w' ⟨rfl, hl⟩
    exact ⟨none, 0, 0, rfl, StepsAt.nil_ _ _, hl⟩
theorem atL_len (h : BookAt F w g b k most t) (id : Int) : (atL t id).length ≤ 8 := by
  unfold atL
  cases hx : entAt t.L id with
  | some x => exact (h.ok.2.1 x (entAt_mem hx).1).1.2.1
  | none => simp
def OwnV (s : SagaD) (l : List StepD) (ok : Bool) (w : World) (e : Ending) (w' : World) : Prop := ∃ p n c, e = .returned (.tuple #[(s.withV p n c).val, .bool ok]) ∧ StepsAt (w.heap.size ≤ ·) w' (.slice p n c) l ∧ Later w w'
set_option maxHeartbeats 4000000 in
set_option maxRecDepth 100000 in
theorem saga_any (h : BookAt F w g b k most t) {id : Int} (hid : I64 id) : Calls Tryz.prog 9 #[.pointer (some ⟨g, 0, none⟩), .int .i64 id] w (OwnV (atS t id) (atL t id) (atB t id) w) := by
  obtain ⟨W1, hW1⟩ : ∃ W1, W1 = w.alloc (.cells #[.string ⟨#[]⟩, .slice none 0 0, .int .i64 0, .int .i64 0, .int .i64 0, .bool false, .bool false, .bool false, .bool false, .bool false, .bool false, .bool false, .bool false] 36 (0, 0)) := ⟨_, rfl⟩
  obtain ⟨y, hy⟩ : ∃ y, y = w.heap.size := ⟨_, rfl⟩
  have Y1 : Hid (SBox 36 y SagaD.zero W1) := by rw [hW1, hy]; exact heap_alloc_new _ _
  have L1 : Hid (Later w W1) := by rw [hW1]; exact (Below.refl _ _).alloc (Nat.le_refl _) _
  have HY : Hid (w.heap.size ≤ y) := Nat.le_of_eq hy.symm
  have C := hide (bat_any (h.later L1.out) hid)
  have HL8 := hide (atL_len h id)
  obtain ⟨s, hs⟩ : ∃ s, atS t id = s := ⟨_, rfl⟩
  obtain ⟨l, hl⟩ : ∃ l, atL t id = l := ⟨_, rfl⟩
  obtain ⟨q, hq⟩ : ∃ q, atB t id = q := ⟨_, rfl⟩
  rw [hs, hl, hq] at C
  rw [hl] at HL8
  rw [hs, hl, hq]
  have HW1 := hide hW1.symm
  have HG := hide hy.symm
  clear h hid hW1 hy hs hl hq
  go_enter Tryz.func9, Tryz.ntmps9
  go_wp2_with (fail)
  simp only [HW1.out, HG.out]
  refine C.out.mono ?_
  rintro e w2 ⟨p, n, c, rfl, hs, hl2⟩
  obtain ⟨s2, hs2⟩ : ∃ s2, s.withV p n c = s2 := ⟨_, rfl⟩
  have hv : s2.v = .slice p n c := by rw [← hs2]; rfl
  rw [← hv] at hs
  have L2a : Later w W1 := L1.out
  have L2 : Hid (Later w w2) := Later.trans L2a hl2
  have Y2 : Hid (SBox 36 y SagaD.zero w2) := Y1.out.below hl2
  rw [hs2]
  have HS2 := hide hs2
  have T2 : Hid (SBox 36 w2.heap.size SagaD.zero (w2.alloc (.cells #[.string ⟨#[]⟩, .slice none 0 0, .int .i64 0, .int .i64 0, .int .i64 0, .bool false, .bool false, .bool false, .bool false, .bool false, .bool false, .bool false, .bool false] 36 (0, 0)))) := heap_alloc_new _ _
  have L2b : Hid (Later w2 (w2.alloc (.cells #[.string ⟨#[]⟩, .slice none 0 0, .int .i64 0, .int .i64 0, .int .i64 0, .bool false, .bool false, .bool false, .bool false, .bool false, .bool false, .bool false, .bool false] 36 (0, 0)))) := (Below.refl _ _).alloc (Nat.le_refl _) _
  have HS := hide hs
  clear hs hl2 C L2a hv hs2
  go_wp2_with (refine wpList_store_saga (s := s2) (by rfl) _ _ (by rfl) (by rfl) T2.out (by rfl) ?_)
  intro w3 X3 G3
  have L3 : Hid (Later w2 w3) := L2b.out.grown G3 (by simp) (fun k hk => by have := Option.some.inj hk; omega)
  have HX3 := hide X3
  have C2 := hide (bown_any (StepsAt.kept HS.out (Kept.of_below L3.out F)) (by have := HL8.out; omega))
  have Y3 : Hid (SBox 36 y SagaD.zero w3) := Y2.out.below L3.out
  clear X3 G3
  go_wp2_with (refine wpList_load_saga (by rfl) _ (by rfl) (by rfl) HX3.out ?_)
  refine C2.out.mono ?_
  rintro e w4 ⟨p4, n4, c4, rfl, hs4, hl4⟩
  have Y4 : Hid (SBox 36 y SagaD.zero w4) := Y3.out.below hl4
  have L4a : Later w w2 := L2.out
  have L4b : Later w2 w4 := Later.trans L3.out hl4
  have L4 : Hid (Later w w4) := Later.trans L4a L4b
  have HS4 := hide hs4
  have HLT : Hid (y < w3.heap.size) := SBox.lt Y3.out
  clear hs4 hl4 L4a L4b C2
  go_wp2_with (refine wpList_store_saga (s := s2.withV p4 n4 c4) (by rfl) _ _ (by rfl) (by rfl) Y4.out (by rfl) ?_)
  intro w5 Z5 G5
  have HZ5 := hide Z5
  have HLF : Hid (Later w w5) := L4.out.grown G5 (Below.size L4.out) (fun k hk => by have := Option.some.inj hk; have := HY.out; omega)
  have S5 : Hid (StepsAt (w.heap.size ≤ ·) w5 (.slice p4 n4 c4) l) := FlatAt.mono (StepsAt.kept HS4.out (Kept.of_grown G5 (fun k hk hf => by have := Option.some.inj hk; have := HLT.out; omega))) (fun i _ hf => by have h1 : w3.heap.size ≤ i := hf; have h2 := Below.size L2.out; have h3 := Below.size L3.out; omega)
  clear Z5 G5
  go_wp2
  refine bodyPost_ret (results_box2 Tryz.results9 _ _ y 36 _ _ (by rfl) HZ5.out Tryz.underlying36 (by rfl) (by kernel_rfl) (.bool q) (by rfl)) (by rfl) ?_
  exact ⟨p4, n4, c4, by rw [← HS2.out]; rfl, S5.out, HLF.out⟩

def RBox (g : Nat) (r : RepD) (w : World) : Prop := w.heap[g]? = some (.cells r.cells.toArray 44 (0, 0))
theorem RepD.one (r : RepD) : ∀ u ∈ r.cells, u.oneCell' = true := by
  intro u hu
  simp only [RepD.cells, List.mem_cons, List.not_mem_nil, or_false] at hu
  rcases hu with rfl | rfl | rfl | rfl <;> rfl
theorem rep_put (x y : RepD) : putAt x.cells.toArray 0 y.cells = y.cells.toArray := by simp [putAt, RepD.cells]
theorem RBox.below {g : Nat} {r : RepD} {w w' : World} (h : RBox g r w) (hl : Later w w') : RBox g r w' := (Below.block hl g (lt_of_block h)).trans h
theorem RBox.other {g : Nat} {x : RepD} {w w' : World} (h : RBox g x w) {r : Option Nat} (hg : w.grownBy w' r) (hr : some g ≠ r) : RBox g x w' := (hg.block g (lt_of_block h) hr).trans h
theorem RBox.turned {Q : Nat → Prop} {g : Nat} {r : RepD} {w w' : World} (h : RBox g r w) (ht : Turned Q w w') (hq : ¬ Q g) : RBox g r w' := (ht.block g (lt_of_block h) hq).trans h
section
variable {ops : Array Oper} {rest : List Oper} {op : Oper} {a : Act} {W : World} {Q : Exit → Act → World → Prop} {g : Nat} {r z : RepD}
theorem wpList_store_rep (hgd : op.guard = none) (x y : Operand) (ho : op.op = .store 44 x y) (hx : a.eval x = .pointer (some ⟨g, 0, none⟩)) (hg : RBox g z W) (hy : a.eval y = r.val)
    (h : ∀ w', RBox g r w' → W.grownBy w' (some g) → wpList Tryz.prog ops Q rest (a.put op.dst undef) w') : wpList Tryz.prog ops Q (op :: rest) a W :=
  wpList_store_box hgd 44 x y ho g 0 r.cells.toArray hx hy _ _ hg (by kernel_rfl) (by exact Nat.le_of_ble_eq_true rfl) (by exact r.one) (fun w' hb hg' => h w' (by rw [show r.cells.toArray.toList = r.cells from rfl, rep_put] at hb; exact hb) hg')
end
theorem status_at (L : List Ent) (last id : Int) : statusF L id = if atB ⟨last, L⟩ id then ⟨0, id, (atS ⟨last, L⟩ id).st, (atS ⟨last, L⟩ id).step⟩ else errR 8 := by
  unfold statusF atB atS
  cases hx : entAt L id <;> rfl
set_option maxHeartbeats 4000000 in
set_option maxRecDepth 100000 in
theorem status_any (h : BookAt F w g b k most t) {id : Int} (hid : I64 id) : Calls Tryz.prog 14 #[.pointer (some ⟨g, 0, none⟩), .int .i64 id] w (Gives (statusF t.L id).val w) := by
  obtain ⟨W1, hW1⟩ : ∃ W1, W1 = w.alloc (.cells #[.int .i64 0, .int .i64 0, .int .i64 0, .int .i64 0] 44 (0, 0)) := ⟨_, rfl⟩
  obtain ⟨y, hy⟩ : ∃ y, y = w.heap.size := ⟨_, rfl⟩
  have Y1 : Hid (RBox y (errR 0) W1) := by rw [hW1, hy]; exact heap_alloc_new _ _
  have L1 : Hid (Later w W1) := by rw [hW1]; exact (Below.refl _ _).alloc (Nat.le_refl _) _
  have HY : Hid (w.heap.size ≤ y) := Nat.le_of_eq hy.symm
  have CM := hide (made_yes (h.later L1.out))
  have C := hide (bat_any (h.later L1.out) hid)
  rw [status_at t.L t.last id]
  change Calls _ _ _ _ (Gives (if atB t id then (⟨0, id, (atS t id).st, (atS t id).step⟩ : RepD) else errR 8).val w)
  obtain ⟨s, hs⟩ : ∃ s, atS t id = s := ⟨_, rfl⟩
  obtain ⟨l, hl⟩ : ∃ l, atL t id = l := ⟨_, rfl⟩
  obtain ⟨q, hq⟩ : ∃ q, atB t id = q := ⟨_, rfl⟩
  rw [hs, hl, hq] at C
  rw [hs, hq]
  have HW1 := hide hW1.symm
  have HG := hide hy.symm
  clear h hid hW1 hy hs hl hq
  cases q with
  | true =>
    rw [if_pos rfl]
    obtain ⟨st, hst⟩ : ∃ st, s.st = st := ⟨_, rfl⟩
    obtain ⟨sp, hsp⟩ : ∃ sp, s.step = sp := ⟨_, rfl⟩
    rw [hst, hsp]
    have HST := hide hst
    have HSP := hide hsp
    clear hst hsp
    go_enter Tryz.func14, Tryz.ntmps14
    go_wp2_with (fail)
    simp only [HW1.out, HG.out]
    refine CM.out.mono ?_
    rintro e w2 ⟨rfl, rfl⟩
    go_wp2_with (fail)
    refine C.out.mono ?_
    rintro e w2 ⟨p, n, c, rfl, hs, hl2⟩
    obtain ⟨s2, hs2⟩ : ∃ s2, s.withV p n c = s2 := ⟨_, rfl⟩
    have E2 : Hid (s2.st = st) := by show s2.st = st; rw [← hs2]; exact HST.out
    have E3 : Hid (s2.step = sp) := by show s2.step = sp; rw [← hs2]; exact HSP.out
    rw [hs2]
    have L2a : Later w W1 := L1.out
    have L2 : Hid (Later w w2) := Later.trans L2a hl2
    have Y2 : Hid (RBox y (errR 0) w2) := Y1.out.below hl2
    have T2 : Hid (SBox 36 w2.heap.size SagaD.zero (w2.alloc (.cells #[.string ⟨#[]⟩, .slice none 0 0, .int .i64 0, .int .i64 0, .int .i64 0, .bool false, .bool false, .bool false, .bool false, .bool false, .bool false, .bool false, .bool false] 36 (0, 0)))) := heap_alloc_new _ _
    have L2b : Hid (Later w2 (w2.alloc (.cells #[.string ⟨#[]⟩, .slice none 0 0, .int .i64 0, .int .i64 0, .int .i64 0, .bool false, .bool false, .bool false, .bool false, .bool false, .bool false, .bool false, .bool false] 36 (0, 0)))) := (Below.refl _ _).alloc (Nat.le_refl _) _
    clear hs hl2 C CM L2a hs2
    go_wp2_with (refine wpList_store_saga (s := s2) (by rfl) _ _ (by rfl) (by rfl) T2.out (by rfl) ?_)
    intro w3 X3 G3
    have L3 : Hid (Later w2 w3) := L2b.out.grown G3 (by simp) (fun k hk => by have := Option.some.inj hk; omega)
    have c2 := SBox.c2 X3
    have c3 := SBox.c3 X3
    have Y3 : Hid (RBox y (errR 0) w3) := Y2.out.below L3.out
    have L4a : Later w w2 := L2.out
    have L4b : Later w2 w3 := L3.out
    have L4 : Hid (Later w w3) := Later.trans L4a L4b
    clear X3 G3 L4a L4b
    rw [E2.out] at c2
    rw [E3.out] at c3
    go_wp2_with (refine wpList_store_rep (r := ⟨0, id, st, sp⟩) (by rfl) _ _ (by rfl) (by rfl) Y3.out (by rfl) ?_)
    intro w5 Z5 G5
    have HLF : Hid (Later w w5) := L4.out.grown G5 (Below.size L4.out) (fun k hk => by have := Option.some.inj hk; have := HY.out; omega)
    have HZ5 := hide Z5
    clear Z5 G5
    go_wp2
    refine bodyPost_ret (results_cell_row Tryz.results14 _ _ y 44 _ (0, 0) _ (by rfl) HZ5.out Tryz.underlying44 (by rfl) (by kernel_rfl)) (by rfl) ?_
    exact ⟨rfl, HLF.out⟩
  | false =>
    rw [if_neg (by simp)]
    go_enter Tryz.func14, Tryz.ntmps14
    go_wp2_with (fail)
    simp only [HW1.out, HG.out]
    refine CM.out.mono ?_
    rintro e w2 ⟨rfl, rfl⟩
    go_wp2_with (fail)
    refine C.out.mono ?_
    rintro e w2 ⟨p, n, c, rfl, hs, hl2⟩
    obtain ⟨s2, hs2⟩ : ∃ s2, s.withV p n c = s2 := ⟨_, rfl⟩
    rw [hs2]
    have L2a : Later w W1 := L1.out
    have L2 : Hid (Later w w2) := Later.trans L2a hl2
    have Y2 : Hid (RBox y (errR 0) w2) := Y1.out.below hl2
    have T2 : Hid (SBox 36 w2.heap.size SagaD.zero (w2.alloc (.cells #[.string ⟨#[]⟩, .slice none 0 0, .int .i64 0, .int .i64 0, .int .i64 0, .bool false, .bool false, .bool false, .bool false, .bool false, .bool false, .bool false, .bool false] 36 (0, 0)))) := heap_alloc_new _ _
    have L2b : Hid (Later w2 (w2.alloc (.cells #[.string ⟨#[]⟩, .slice none 0 0, .int .i64 0, .int .i64 0, .int .i64 0, .bool false, .bool false, .bool false, .bool false, .bool false, .bool false, .bool false, .bool false] 36 (0, 0)))) := (Below.refl _ _).alloc (Nat.le_refl _) _
    clear hs hl2 C CM L2a hs2
    go_wp2_with (refine wpList_store_saga (s := s2) (by rfl) _ _ (by rfl) (by rfl) T2.out (by rfl) ?_)
    intro w3 X3 G3
    have L3 : Hid (Later w2 w3) := L2b.out.grown G3 (by simp) (fun k hk => by have := Option.some.inj hk; omega)
    have Y3 : Hid (RBox y (errR 0) w3) := Y2.out.below L3.out
    have L4a : Later w w2 := L2.out
    have L4b : Later w2 w3 := L3.out
    have L4 : Hid (Later w w3) := Later.trans L4a L4b
    clear X3 G3 L4a L4b
    go_wp2_with (refine wpList_store_rep (r := errR 8) (by rfl) _ _ (by rfl) (by rfl) Y3.out (by rfl) ?_)
    intro w5 Z5 G5
    have HLF : Hid (Later w w5) := L4.out.grown G5 (Below.size L4.out) (fun k hk => by have := Option.some.inj hk; have := HY.out; omega)
    have HZ5 := hide Z5
    clear Z5 G5
    go_wp2
    refine bodyPost_ret (results_cell_row Tryz.results14 _ _ y 44 _ (0, 0) _ (by rfl) HZ5.out Tryz.underlying44 (by rfl) (by kernel_rfl)) (by rfl) ?_
    exact ⟨rfl, HLF.out⟩
def NewBook (w : World) (most : Int) (e : Ending) (w' : World) : Prop :=
  ∃ g b, e = .returned (.pointer (some ⟨g, 0, none⟩)) ∧ w.heap.size ≤ g ∧ w.heap.size ≤ b ∧ Later w w' ∧ ∀ F : Nat → Prop, ¬ F g → ¬ F b → BookAt F w' g b 0 most ⟨0, []⟩
set_option maxHeartbeats 400000 in
theorem new_no (most : Int) (w : World) (h : most < 0 ∨ 32 < most) : Calls Tryz.prog 7 #[.int .i64 most] w fun e w' => e = .returned (.pointer none) ∧ w = w' := by
  by_cases h0 : most < 0
  · clear h
    go_enter Tryz.func7, Tryz.ntmps7
    go_wp2
    go_ret
    exact ⟨rfl, rfl⟩
  · have h1 : 32 < most := by omega
    clear h
    go_enter Tryz.func7, Tryz.ntmps7
    go_wp2
    go_ret
    exact ⟨rfl, rfl⟩
set_option maxHeartbeats 400000 in
theorem new_yes (most : Int) (w : World) (h0 : 0 ≤ most) (h1 : most ≤ 32) : Calls Tryz.prog 7 #[.int .i64 most] w (NewBook w most) := by
  have hmm := @run_makeMap Tryz.prog
  go_enter Tryz.func7, Tryz.ntmps7
  go_wp2
  go_ret
  refine ⟨w.heap.size + 1, w.heap.size, rfl, by omega, by omega, ((Below.refl _ _).alloc (Nat.le_refl _) _).alloc (by simp) _, fun F hg hb => ⟨heap_alloc2_new w _ _, ⟨fun _ => ⟨none, 0, 0⟩, ?_, by simp⟩, ⟨.nil, by simp, by decide, by decide⟩, by omega, hg, hb⟩⟩
  exact (World.ownsMap_made w Tryz.prog 3 heldR).alloc _
end
end Go.Proofs.YtpckdhjnhnonhaaGreat
/- Contracts of the library laid at this program: its numbers, and that its bodies are the ones that the contracts speak of. -/
namespace Go.Proofs.YtpckdhjnhnonhaaGreat
open Go.Shelf
def Tryz.keysA_ren : Go.Shelf.Ren := ⟨fun | 7 => 73 | 10 => 95 | n => n, fun | 23 => 68 | 26 => 3 | 3 => 36 | 28 => 110 | 0 => 0 | 27 => 109 | 33 => 92 | 4 => 4 | n => n, fun | n => n⟩
theorem Tryz.keysA : Go.Proofs.SlLaysZI.n7 Tryz.prog Tryz.keysA_ren := {
  mixed := by kernel_rfl
  f7 := ⟨Tryz.f73.name, by decide, Tryz.func73.trans (congrArg some (by kernel_rfl))⟩
  f10 := ⟨Tryz.f95.name, by decide, Tryz.func95.trans (congrArg some (by kernel_rfl))⟩
  t0 := Tryz.underlying0
  a0 := Tryz.isAgg0
  z0 := Tryz.sizeOf0
  v0 := Tryz.zeroValue0
  t4 := Tryz.underlying4
  a4 := Tryz.isAgg4
  z4 := Tryz.sizeOf4
  v4 := Tryz.zeroValue4
  t23 := Tryz.underlying68
  a23 := Tryz.isAgg68
  z23 := Tryz.sizeOf68
  v23 := Tryz.zeroValue68
  t26 := Tryz.underlying3
  a26 := Tryz.isAgg3
  z26 := Tryz.sizeOf3
  v26 := Tryz.zeroValue3
  t27 := Tryz.underlying109
  a27 := Tryz.isAgg109
  z27 := Tryz.sizeOf109
  v27 := Tryz.zeroValue109
  t28 := Tryz.underlying110
  a28 := Tryz.isAgg110
  z28 := Tryz.sizeOf110
  v28 := Tryz.zeroValue110
  t33 := Tryz.underlying92
  a33 := Tryz.isAgg92
  z33 := Tryz.sizeOf92
  v33 := Tryz.zeroValue92 }
def Tryz.sortedA_ren : Go.Shelf.Ren := ⟨fun | 6 => 72 | 8 => 93 | 9 => 94 | 11 => 104 | 13 => 106 | 12 => 105 | 23 => 124 | 24 => 125 | 14 => 115 | 15 => 116 | 16 => 117 | 17 => 118 | 18 => 119 | 19 => 120 | 20 => 121 | 21 => 122 | 22 => 123 | 25 => 131 | 26 => 132 | 27 => 133 | 28 => 134 | 29 => 135 | 30 => 136 | 31 => 143 | n => n, fun | 26 => 3 | 28 => 110 | 24 => 63 | 0 => 0 | 3 => 3 | 37 => 138 | 48 => 155 | 50 => 157 | 4 => 4 | 40 => 147 | 39 => 146 | 45 => 152 | 5 => 5 | 9 => 9 | 51 => 161 | 55 => 165 | 57 => 171 | 58 => 117 | 33 => 92 | n => n, fun | n => n⟩
theorem Tryz.sortedA : Go.Proofs.SlLaysZI.n6 Tryz.prog Tryz.sortedA_ren := {
  mixed := by kernel_rfl
  f6 := ⟨Tryz.f72.name, by decide, Tryz.func72.trans (congrArg some (by kernel_rfl))⟩
  f8 := ⟨Tryz.f93.name, by decide, Tryz.func93.trans (congrArg some (by kernel_rfl))⟩
  f11 := ⟨Tryz.f104.name, by decide, Tryz.func104.trans (congrArg some (by kernel_rfl))⟩
  t0 := Tryz.underlying0
  a0 := Tryz.isAgg0
  z0 := Tryz.sizeOf0
  v0 := Tryz.zeroValue0
  t24 := Tryz.underlying63
  a24 := Tryz.isAgg63
  z24 := Tryz.sizeOf63
  v24 := Tryz.zeroValue63
  t26 := Tryz.underlying3
  a26 := Tryz.isAgg3
  z26 := Tryz.sizeOf3
  v26 := Tryz.zeroValue3
  t28 := Tryz.underlying110
  a28 := Tryz.isAgg110
  z28 := Tryz.sizeOf110
  v28 := Tryz.zeroValue110
  i26 := by kernel_rfl }
def Tryz.sortA_ren : Go.Shelf.Ren := ⟨fun | 5 => 94 | 8 => 106 | 7 => 105 | 19 => 124 | 20 => 125 | 10 => 115 | 11 => 116 | 12 => 117 | 13 => 118 | 14 => 119 | 15 => 120 | 16 => 121 | 17 => 122 | 18 => 123 | 30 => 131 | 31 => 132 | 32 => 133 | 33 => 134 | 34 => 135 | 35 => 136 | 40 => 143 | n => n, fun | 23 => 63 | 25 => 3 | 3 => 3 | 32 => 138 | 22 => 63 | 0 => 0 | 44 => 155 | 46 => 157 | 4 => 4 | 36 => 147 | 35 => 146 | 41 => 152 | 5 => 5 | 9 => 9 | 53 => 161 | 57 => 165 | 63 => 171 | 64 => 117 | n => n, fun | n => n⟩
theorem Tryz.sortA : Go.Proofs.SlLaysM.n5 Tryz.prog Tryz.sortA_ren := {
  mixed := by kernel_rfl
  f5 := ⟨Tryz.f94.name, by decide, Tryz.func94.trans (congrArg some (by kernel_rfl))⟩
  f7 := ⟨Tryz.f105.name, by decide, Tryz.func105.trans (congrArg some (by kernel_rfl))⟩
  f8 := Tryz.func106.trans (congrArg some (by kernel_rfl))
  f10 := ⟨Tryz.f115.name, by decide, Tryz.func115.trans (congrArg some (by kernel_rfl))⟩
  f11 := ⟨Tryz.f116.name, by decide, Tryz.func116.trans (congrArg some (by kernel_rfl))⟩
  f12 := ⟨Tryz.f117.name, by decide, Tryz.func117.trans (congrArg some (by kernel_rfl))⟩
  f13 := ⟨Tryz.f118.name, by decide, Tryz.func118.trans (congrArg some (by kernel_rfl))⟩
  f14 := ⟨Tryz.f119.name, by decide, Tryz.func119.trans (congrArg some (by kernel_rfl))⟩
  f15 := ⟨Tryz.f120.name, by decide, Tryz.func120.trans (congrArg some (by kernel_rfl))⟩
  f16 := ⟨Tryz.f121.name, by decide, Tryz.func121.trans (congrArg some (by kernel_rfl))⟩
  f17 := ⟨Tryz.f122.name, by decide, Tryz.func122.trans (congrArg some (by kernel_rfl))⟩
  f18 := ⟨Tryz.f123.name, by decide, Tryz.func123.trans (congrArg some (by kernel_rfl))⟩
  f19 := Tryz.func124.trans (congrArg some (by kernel_rfl))
  f20 := Tryz.func125.trans (congrArg some (by kernel_rfl))
  f30 := ⟨Tryz.f131.name, by decide, Tryz.func131.trans (congrArg some (by kernel_rfl))⟩
  f31 := Tryz.func132.trans (congrArg some (by kernel_rfl))
  f32 := Tryz.func133.trans (congrArg some (by kernel_rfl))
  f33 := ⟨Tryz.f134.name, by decide, Tryz.func134.trans (congrArg some (by kernel_rfl))⟩
  f34 := ⟨Tryz.f135.name, by decide, Tryz.func135.trans (congrArg some (by kernel_rfl))⟩
  f35 := ⟨Tryz.f136.name, by decide, Tryz.func136.trans (congrArg some (by kernel_rfl))⟩
  f40 := ⟨Tryz.f143.name, by decide, Tryz.func143.trans (congrArg some (by kernel_rfl))⟩
  t0 := Tryz.underlying0
  a0 := Tryz.isAgg0
  z0 := Tryz.sizeOf0
  v0 := Tryz.zeroValue0
  t3 := Tryz.underlying3
  a3 := Tryz.isAgg3
  z3 := Tryz.sizeOf3
  v3 := Tryz.zeroValue3
  t4 := Tryz.underlying4
  a4 := Tryz.isAgg4
  z4 := Tryz.sizeOf4
  v4 := Tryz.zeroValue4
  t5 := Tryz.underlying5
  a5 := Tryz.isAgg5
  z5 := Tryz.sizeOf5
  v5 := Tryz.zeroValue5
  t9 := Tryz.underlying9
  a9 := Tryz.isAgg9
  z9 := Tryz.sizeOf9
  v9 := Tryz.zeroValue9
  t22 := Tryz.underlying63
  a22 := Tryz.isAgg63
  z22 := Tryz.sizeOf63
  v22 := Tryz.zeroValue63
  t23 := Tryz.underlying63
  a23 := Tryz.isAgg63
  z23 := Tryz.sizeOf63
  v23 := Tryz.zeroValue63
  t25 := Tryz.underlying3
  a25 := Tryz.isAgg3
  z25 := Tryz.sizeOf3
  v25 := Tryz.zeroValue3
  t32 := Tryz.underlying138
  a32 := Tryz.isAgg138
  z32 := Tryz.sizeOf138
  v32 := Tryz.zeroValue138
  t35 := Tryz.underlying146
  a35 := Tryz.isAgg146
  z35 := Tryz.sizeOf146
  v35 := Tryz.zeroValue146
  t36 := Tryz.underlying147
  a36 := Tryz.isAgg147
  z36 := Tryz.sizeOf147
  v36 := Tryz.zeroValue147
  t41 := Tryz.underlying152
  a41 := Tryz.isAgg152
  z41 := Tryz.sizeOf152
  v41 := Tryz.zeroValue152
  t44 := Tryz.underlying155
  a44 := Tryz.isAgg155
  z44 := Tryz.sizeOf155
  v44 := Tryz.zeroValue155
  t46 := Tryz.underlying157
  a46 := Tryz.isAgg157
  z46 := Tryz.sizeOf157
  v46 := Tryz.zeroValue157
  t53 := Tryz.underlying161
  a53 := Tryz.isAgg161
  z53 := Tryz.sizeOf161
  v53 := Tryz.zeroValue161
  t57 := Tryz.underlying165
  a57 := Tryz.isAgg165
  z57 := Tryz.sizeOf165
  v57 := Tryz.zeroValue165
  t63 := Tryz.underlying171
  a63 := Tryz.isAgg171
  z63 := Tryz.sizeOf171
  v63 := Tryz.zeroValue171
  t64 := Tryz.underlying117
  a64 := Tryz.isAgg117
  z64 := Tryz.sizeOf117
  v64 := Tryz.zeroValue117 }
end Go.Proofs.YtpckdhjnhnonhaaGreat
/- What is said of memory, for slices of int: a slice that holds a list of integers, nil and empty ones among them; a row of ints that the call itself made. -/
namespace Go.Proofs.YtpckdhjnhnonhaaGreat
open Go.RowKit

def iv (x : Int) : Value := .int .i64 x
def ivs (l : List Int) : List Value := l.map iv

theorem ivs_len (l : List Int) : (ivs l).length = l.length := by simp [ivs]
theorem ivs_get {l : List Int} {i : Nat} (h : i < l.length) : (ivs l)[i]? = some (.int .i64 (l.getD i 0)) := by
  simp [ivs, iv, h]
def Fit (l : List Int) : Prop := ∀ x ∈ l, -9223372036854775808 ≤ x ∧ x < 9223372036854775808
theorem Fit.get {l : List Int} (h : Fit l) (i : Nat) : -9223372036854775808 ≤ l.getD i 0 ∧ l.getD i 0 < 9223372036854775808 := by
  by_cases hi : i < l.length
  · have e : l.getD i 0 = l[i] := by simp [List.getD, hi]
    rw [e]
    exact h _ (List.getElem_mem hi)
  · have e : l.getD i 0 = 0 := by simp [List.getD, Nat.not_lt.1 hi]
    rw [e]
    decide

def IHolds (w : World) (B : Nat) (A : Option Addr) (n : Nat) (l : List Int) : Prop :=
  l.length = n ∧ Fit l ∧ (0 < n → ∃ b off, A = some ⟨b, off, none⟩ ∧ b < B ∧ ∀ i, i < n → w.cell? ⟨b, off + i, none⟩ = some (.int .i64 (l.getD i 0)))

section
variable {w w' : World} {B B' : Nat} {A : Option Addr} {n : Nat} {l : List Int}
theorem IHolds.nil_ (w : World) (B : Nat) : IHolds w B none 0 [] := ⟨rfl, by simp [Fit], fun h => by omega⟩
theorem IHolds.keep (h : IHolds w B A n l) (hk : ∀ p : Addr, p.block < B → w'.cell? p = w.cell? p) : IHolds w' B A n l :=
  ⟨h.1, h.2.1, fun hn => by
    obtain ⟨b, off, e, hb, hc⟩ := h.2.2 hn
    exact ⟨b, off, e, hb, fun i hi => (hk ⟨b, off + i, none⟩ hb).trans (hc i hi)⟩⟩
theorem IHolds.below (h : IHolds w B A n l) (hb : Below B w w') : IHolds w' B A n l := h.keep fun _ hp => hb.cell hp
theorem IHolds.more (h : IHolds w B A n l) (hB : B ≤ B') : IHolds w B' A n l :=
  ⟨h.1, h.2.1, fun hn => by
    obtain ⟨b, off, e, hb, hc⟩ := h.2.2 hn
    exact ⟨b, off, e, by omega, hc⟩⟩
theorem IHolds.drew (h : IHolds w B A n l) : IHolds w.drew B A n l := h
theorem IHolds.drewN (h : IHolds w B A n l) (k : Nat) : IHolds (w.drewN k) B A n l := h
theorem IHolds.at_ (h : IHolds w B A n l) {i : Nat} (hi : i < n) : ∃ b off, A = some ⟨b, off, none⟩ ∧ b < B ∧ w.cell? ⟨b, off + i, none⟩ = some (.int .i64 (l.getD i 0)) := by
  obtain ⟨b, off, e, hb, hc⟩ := h.2.2 (by omega)
  exact ⟨b, off, e, hb, hc i hi⟩
theorem IHolds.of_own {base e : Nat} {v : Value} (h : w.ownsRow base e 1 v n (ivs l)) (hs : Fit l) : ∃ A c, v = .slice A n c ∧ n ≤ c ∧ (A = none → c = 0) ∧ IHolds w w.heap.size A n l := by
  have hl : l.length = n := by have := h.1; rw [ivs_len] at this; omega
  rcases h.2 with ⟨rfl, rfl⟩ | ⟨g, cap, cur, rfl, _, hg, hnc, _, _, _⟩
  · exact ⟨none, 0, rfl, Nat.le_refl _, fun _ => rfl, hl, hs, fun h => by omega⟩
  · refine ⟨some ⟨g, 0, none⟩, cap, rfl, hnc, (fun h => by cases h), hl, hs, fun hn => ⟨g, 0, rfl, ?_, fun i hi => ?_⟩⟩
    · exact (Array.getElem?_eq_some_iff.1 hg).1
    · have := h.cellAt i (by omega)
      rw [Nat.zero_add, this, ivs_get (by omega)]
end

def NewInts (w : World) (l : List Int) (e : Ending) (w' : World) : Prop :=
  ∃ A n c, e = .returned (.slice A n c) ∧ w'.ownsRow w.heap.size 3 1 (.slice A n c) n (ivs l) ∧ IHolds w' w'.heap.size A n l ∧ n ≤ c ∧ Below w.heap.size w w'

theorem Tryz.infoI64 : (Tryz.prog.info? 3).map (fun i => (i.zero, i.size, i.bytes)) = some (some (.int .i64 0), 1, 8) := by kernel_rfl

section
variable {P : Program} (w : World)
end

end Go.Proofs.YtpckdhjnhnonhaaGreat
/- The walk over droverref01.Ints: are two lists of ints the same? -/
namespace Go.Proofs.YtpckdhjnhnonhaaGreat
open Go.RowKit

def eqI (l m : List Int) : Bool := decide (l = m)
theorem eqI_self (l : List Int) : eqI l l = true := by simp [eqI]
theorem eqI_len {l m : List Int} (h : l.length ≠ m.length) : false = eqI l m := by
  unfold eqI
  symm
  rw [decide_eq_false_iff_not]
  intro e
  exact h (congrArg List.length e)
theorem eqI_no {l m : List Int} {i : Nat} (h : l.getD i 0 ≠ m.getD i 0) : false = eqI l m := by
  unfold eqI
  symm
  rw [decide_eq_false_iff_not]
  intro e
  exact h (by rw [e])
def SameUp (l m : List Int) (k : Nat) : Prop := ∀ i, i < k → l.getD i 0 = m.getD i 0
theorem SameUp.zero (l m : List Int) : SameUp l m 0 := fun i hi => by omega
theorem SameUp.next {l m : List Int} {k : Nat} (h : SameUp l m k) (he : l.getD k 0 = m.getD k 0) : SameUp l m (k + 1) := fun i hi => by
  by_cases hk : i = k
  · rw [hk, he]
  · exact h i (by omega)
theorem SameUp.all {l m : List Int} {k : Nat} (h : SameUp l m k) (h1 : l.length = k) (h2 : m.length = k) : true = eqI l m := by
  unfold eqI
  symm
  rw [decide_eq_true_eq]
  apply List.ext_getElem (by omega)
  intro i hi1 hi2
  have := h i (by omega)
  simpa [List.getD, hi1, hi2] using this

set_option maxHeartbeats 400000 in
theorem refints_any (A A2 : Option Addr) (n c m c2 B B2 : Nat) (l l2 : List Int) (w : World) (hl : IHolds w B A n l) (hl2 : IHolds w B2 A2 m l2) (hn : n ≤ 1099511627000) (hm : m ≤ 1099511627000) :
    Calls Tryz.prog 39 #[.slice A n c, .slice A2 m c2] w fun e w' => e = .returned (.bool (eqI l l2)) ∧ ∃ q, w' = w.drewN q := by
  have H1 := hide hl
  have H2 := hide hl2
  clear hl hl2
  by_cases hnm : n = m
  · subst hnm
    have ht : ((n : Int) != (n : Int)) = false := by simp
    go_enter Tryz.func39, Tryz.ntmps39
    go_wp2
    go_loopw [13] (fun i wr => ∃ k : Nat, k ≤ n ∧ i = .int .i64 (k : Int) ∧ SameUp l l2 k ∧ ∃ q, wr = w.drewN q) (fun i _ => n - (Go.RowKit.intOf i).toNat)
    case atStart => exact ⟨0, by omega, rfl, SameUp.zero _ _, 0, rfl⟩
    case round =>
      obtain ⟨k, hk, rfl, hup, q, rfl⟩ := hrel
      have HU := hide hup
      clear hup
      by_cases hkn : k < n
      · obtain ⟨b, off, rfl, _, hc⟩ := H1.out.at_ hkn
        obtain ⟨b2, off2, rfl, _, hc2⟩ := H2.out.at_ hkn
        obtain ⟨x, hx⟩ : ∃ x, x = l.getD k 0 := ⟨_, rfl⟩
        obtain ⟨y, hy⟩ : ∃ y, y = l2.getD k 0 := ⟨_, rfl⟩
        rw [← hx] at hc
        rw [← hy] at hc2
        have HX := hide hx
        have HY := hide hy
        clear hx hy
        by_cases he : x = y
        · subst he
          have ht2 : (x != x) = false := by simp
          go_wp2
          go_quiet (fail)
          go_wp2
          go_roundw
          case rel => exact ⟨k + 1, by omega, by go_num, HU.out.next (by rw [← HX.out, ← HY.out]), _, rfl⟩
          case measure => simp [Go.RowKit.intOf]; omega
        · have ht2 : (x != y) = true := by simpa using he
          have HE : Hid (l.getD k 0 ≠ l2.getD k 0) := by rw [← HX.out, ← HY.out]; exact he
          clear he
          go_wp2
          go_quiet (fail)
          go_wp2
          go_ret
          exact ⟨ret_bool (eqI_no HE.out), _, World.drewN_drewN _ _ _⟩
      · go_wp2
        go_ret
        exact ⟨ret_bool (HU.out.all (by have := H1.out.1; omega) (by have := H2.out.1; omega)), _, rfl⟩
  · have ht : ((n : Int) != (m : Int)) = true := by simp; omega
    go_enter Tryz.func39, Tryz.ntmps39
    go_wp2
    go_ret
    exact ⟨ret_bool (eqI_len (by rw [H1.out.1, H2.out.1]; exact hnm)), 0, rfl⟩
end Go.Proofs.YtpckdhjnhnonhaaGreat
/- Ids and Copy of package book: the library's Sorted at what its Keys hands back; the library's Clone. -/
namespace Go.Proofs.YtpckdhjnhnonhaaGreat
open Go.RowKit Go.Maps Go.Sort Go.Shelf

def idsOf (L : List Ent) : List Int := L.map (·.id)
theorem idsOf_len (L : List Ent) : (idsOf L).length = L.length := by simp [idsOf]
theorem keys_mapE (f : Int → Loc) (L : List Ent) : intKeys (mapD (L.map (pairE f))) = idsOf L := by
  simp [mapD, intKeys, idsOf, pairE, Function.comp_def]
  intro a _
  rfl
theorem sort_perm {l m : List Int} (hp : l.Perm m) (hm : m.Pairwise (· < ·)) : l.mergeSort (fun x y => decide (x ≤ y)) = m := by
  have tr : ∀ a b c : Int, decide (a ≤ b) = true → decide (b ≤ c) = true → decide (a ≤ c) = true := fun a b c h1 h2 => by simp only [decide_eq_true_eq] at *; omega
  have to : ∀ a b : Int, (decide (a ≤ b) || decide (b ≤ a)) = true := fun a b => by simp only [Bool.or_eq_true, decide_eq_true_eq]; omega
  refine List.Perm.eq_of_pairwise (le := fun a b => decide (a ≤ b) = true) (fun a b _ _ h1 h2 => ?_) (List.pairwise_mergeSort tr to l) (hm.imp fun {a b} h => by simp only [decide_eq_true_eq]; omega) ((List.mergeSort_perm l _).trans hp)
  simp only [decide_eq_true_eq] at h1 h2
  omega
theorem BkOk.fit {t : BkS} (h : BkOk t) : Fit (idsOf t.L) := by
  intro x hx
  obtain ⟨y, hy, rfl⟩ := List.mem_map.1 hx
  have h1 := h.2.1 y hy
  have h2 := h1.1.2.2.2
  have h3 := h1.2
  exact ⟨by omega, by omega⟩
theorem Tryz.sorts (m : Nat) : AnyZI.SortsIn Tryz.prog Tryz.sortedA_ren Fence.wide m :=
  ⟨fun blk off cap ss W hH hblk hsz => callsIn_wide.2 (AnyM.slices_Sort_int Tryz.sortA blk off cap ss W hH hblk hsz),
   fun p cap W => callsIn_wide.2 (AnyM.slices_Sort_int_none Tryz.sortA p cap W)⟩

theorem keys_any (mb : Option Nat) (W : World) : Calls Tryz.prog 73 #[.map mb] W fun e w' => e = .returned (.func (.func 95) #[] #[.pointer (some ⟨W.heap.size, 0, none⟩)]) ∧ w' = W.alloc (.cells #[.map mb] 68) :=
  callsIn_wide.1 (AnyZI.keys_in Tryz.keysA Fence.wide 5 trivial rfl mb W)

theorem sorted_any (f : Int → Loc) (b nn : Nat) (L : List Ent) (w : World) (hown : w.ownsMap Tryz.prog 3 heldR b nn (mapD (L.map (pairE f)))) (hr : (idsOf L).Pairwise (· < ·)) (hf : Fit (idsOf L)) (hlen : L.length ≤ 1000000) :
    Calls Tryz.prog 72 #[.func (.func 95) #[] #[.pointer (some ⟨w.heap.size, 0, none⟩)]] (w.alloc (.cells #[.map (some b)] 68)) (NewInts w (idsOf L)) := by
  have hbl := hown.lt
  have hsz : Maps.size (mapD (L.map (pairE f))) = L.length := by rw [size_mapD, List.length_map]
  have hseq : SeqGives Fence.wide 2 Tryz.prog 95 #[.pointer (some ⟨w.heap.size, 0, none⟩)] encZ (fun ss => ss.Perm (intKeys (mapD (L.map (pairE f))))) (Maps.size (mapD (L.map (pairE f)))) (w.alloc (.cells #[.map (some b)] 68)) :=
    AnyZI.keys_gives (ρ := Tryz.keysA_ren) { Tryz.keysA with } Fence.wide _ trivial rfl (by omega) w.heap.size b nn (mapD (L.map (pairE f))) _ (by simp) (by simp) (by
      obtain ⟨es, clock, hb, Ft, hs, hD⟩ := hown
      exact ⟨es, clock, (Below.heap_alloc _ _ b hbl).trans hb, Ft, hs, hD⟩)
  have cS := AnyZI.sorted_in Tryz.sortedA Fence.wide 5 trivial trivial trivial trivial rfl (by omega) (Tryz.sorts _) (enters_of Tryz.func94 (by kernel_rfl) rfl) 95 #[.pointer (some ⟨w.heap.size, 0, none⟩)] trivial (enters_of Tryz.func95 (by kernel_rfl) rfl) _ _ (by rw [hsz]; unfold maxLen; omega) (by rw [hsz]; omega) _ hseq
  change CallsIn _ _ Tryz.prog 72 _ _ _ at cS
  refine (callsIn_wide.1 cS).mono ?_
  rintro e w' ⟨v, ss, rfl, hS, hrow, hnil, hb⟩
  rw [keys_mapE] at hS
  rw [sort_perm hS hr] at hrow
  have hl : ss.length = (idsOf L).length := hS.length_eq
  rw [hl] at hrow
  have hrow' : w'.ownsRow w.heap.size 3 1 v (idsOf L).length (ivs (idsOf L)) := ownsRow_base_a hrow (by simp)
  obtain ⟨A, c, rfl, h1, _, h2⟩ := IHolds.of_own hrow' hf
  exact ⟨A, _, c, rfl, hrow', h2, h1, ((Below.refl _ w).alloc (Nat.le_refl _) _).trans (hb.mono (by simp))⟩
section
variable {F : Nat → Prop} {w : World} {g b k : Nat} {most : Int} {t : BkS}
set_option maxHeartbeats 1000000 in
theorem ids_any (h : BookAt F w g b k most t) (hl : t.L.length ≤ 1000000) : Calls Tryz.prog 40 #[.pointer (some ⟨g, 0, none⟩)] w (NewInts w (idsOf t.L)) := by
  have C := hide (made_yes h)
  have CK := hide (fun W => keys_any (some b) W)
  obtain ⟨f, hm, _⟩ := h.body
  have CS := hide (sorted_any f b k t.L w hm (List.pairwise_map.2 h.ok.1) h.ok.fit hl)
  have c2 := h.c2
  obtain ⟨l, hl2⟩ : ∃ l, idsOf t.L = l := ⟨_, rfl⟩
  rw [hl2] at CS ⊢
  clear h hm hl hl2
  go_enter Tryz.func40, Tryz.ntmps40
  go_wp2_with (fail)
  refine C.out.mono ?_
  rintro e w1 ⟨rfl, rfl⟩
  go_wp2_with (fail)
  refine (CK.out _).mono ?_
  rintro e w1 ⟨rfl, rfl⟩
  go_wp2_with (fail)
  refine CS.out.mono ?_
  rintro e w2 ⟨A, n, c, rfl, h1, h2, h3, h4⟩
  have H : Hid (NewInts w l (.returned (.slice A n c)) w2) := ⟨A, n, c, rfl, h1, h2, h3, h4⟩
  clear h1 h2 h3 h4
  go_wp2
  go_ret
  exact H.out
end
end Go.Proofs.YtpckdhjnhnonhaaGreat
/- A saga is put into a book's map, or struck from it; makeRoom of package book. -/
namespace Go.Proofs.YtpckdhjnhnonhaaGreat
open Go.RowKit Go.Maps
theorem put_congr {V V' : Ent → Value} (id : Int) (v : DataW Value) (L : List Ent) (h : ∀ y ∈ L, y.id ≠ id → V y = V' y) :
    (mapD (L.map fun y => (y.id, V y))).put (.int .i64 id) v = (mapD (L.map fun y => (y.id, V' y))).put (.int .i64 id) v := by
  unfold mapD
  show DataW.map _ = DataW.map _
  congr 2
  induction L with
  | nil => rfl
  | cons y r ih =>
    have ih := ih (fun z hz => h z (by simp [hz]))
    simp only [List.map_cons]
    by_cases e : y.id = id
    · rw [List.filter_cons_of_neg (by simp [Lit.sameKey, e]), List.filter_cons_of_neg (by simp [Lit.sameKey, e])]
      exact ih
    · rw [List.filter_cons_of_pos (by simp [Lit.sameKey]; exact e), List.filter_cons_of_pos (by simp [Lit.sameKey]; exact e), ih, h y (by simp) e]
theorem rise_one {L : List Ent} (hr : RiseE L) {x y : Ent} (hx : x ∈ L) (hy : y ∈ L) (e : x.id = y.id) : x = y := by
  have hp := List.pairwise_iff_getElem.1 hr
  obtain ⟨i, hi, rfl⟩ := List.mem_iff_getElem.1 hx
  obtain ⟨j, hj, rfl⟩ := List.mem_iff_getElem.1 hy
  rcases Nat.lt_trichotomy i j with hlt | heq | hgt
  · have := hp i j hi hj hlt
    omega
  · subst heq
    rfl
  · have := hp j i hj hi hgt
    omega
def setLoc (f : Int → Loc) (id : Int) (p : Option Addr) (n c : Nat) (i : Int) : Loc := if i = id then ⟨p, n, c⟩ else f i
section
variable {F : Nat → Prop} {w : World} {g b k : Nat} {most : Int} {t : BkS}
theorem BookAt.put {w' : World} {f : Int → Loc} {x : Ent} {p : Option Addr} {n c : Nat} (h : BookAt F w g b k most t) (hm : ∀ y ∈ t.L, StepsAt F w (f y.id).v y.l)
    (ho : w'.ownsMap Tryz.prog 3 heldR b (k + 1) ((mapD (t.L.map (pairE f))).put (.int .i64 x.id) (.held (x.s.withV p n c).val))) (ht : w.mapTurned w' b)
    (hs : StepsAt F w (.slice p n c) x.l) (hx : EntOk x) (hi : x.id ≤ 4611686018427387904) : BookAt F w' g b (k + 1) most ⟨t.last, putE x t.L⟩ := by
  have T : Turned (fun i => i = b) w w' := Turned.of_grown ht.grown (fun g e => (Option.some.inj e).symm)
  have hv : (x.s.withV p n c).val = x.val (setLoc f x.id p n c) := by unfold Ent.val Ent.sd setLoc; simp
  have e1 := put_congr (V := Ent.val f) (V' := Ent.val (setLoc f x.id p n c)) x.id (.held (x.val (setLoc f x.id p n c))) t.L (fun y _ hne => by
    unfold Ent.val Ent.sd setLoc
    rw [if_neg hne])
  have e2 := put_mapE (V := Ent.val (setLoc f x.id p n c)) x t.L h.ok.1
  have hk : Kept F w w' := T.kept fun i hf e => h.apart.2.2 (e ▸ hf)
  refine ⟨(T.block g h.lt.1 h.apart.1).trans h.cell, ⟨setLoc f x.id p n c, ?_, fun y hy => ?_⟩, ⟨putE_rise x h.ok.1, fun y hy => ?_, h.ok.2.2⟩, h.apart⟩
  · rw [hv] at ho
    have e3 : (mapD (t.L.map (pairE f))).put (.int .i64 x.id) (.held (x.val (setLoc f x.id p n c))) = mapD ((putE x t.L).map (pairE (setLoc f x.id p n c))) := e1.trans e2
    rw [e3] at ho
    exact ho
  · by_cases e : y.id = x.id
    · rcases mem_putE hy with rfl | hy2
      · unfold setLoc
        rw [if_pos rfl]
        exact hs.kept hk
      · have h1 := entAt_putE x h.ok.1
        have hy3 : y = x := rise_one (putE_rise x h.ok.1) hy (putE_mem x t.L) e
        subst hy3
        unfold setLoc
        rw [if_pos rfl]
        exact hs.kept hk
    · rcases mem_putE hy with rfl | hy2
      · exact absurd rfl e
      · unfold setLoc
        rw [if_neg e]
        exact (hm y hy2).kept hk
  · rcases mem_putE hy with rfl | hy
    · exact ⟨hx, hi⟩
    · exact h.ok.2.1 y hy
theorem dropE_pair (f : Int → Loc) (L : List Ent) (id : Int) : (dropE L id).map (pairE f) = (L.map (pairE f)).filter fun p => !(p.1 == id) := by
  unfold dropE
  rw [List.filter_map]
  rfl
theorem BookAt.drop {w' : World} {f : Int → Loc} {id : Int} (h : BookAt F w g b k most t) (hm : ∀ y ∈ t.L, StepsAt F w (f y.id).v y.l)
    (ho : w'.ownsMap Tryz.prog 3 heldR b k ((mapD (t.L.map (pairE f))).del (.int .i64 id))) (ht : w.mapTurned w' b) : BookAt F w' g b k most ⟨t.last, dropE t.L id⟩ := by
  have T : Turned (fun i => i = b) w w' := Turned.of_grown ht.grown (fun g e => (Option.some.inj e).symm)
  have hk : Kept F w w' := T.kept fun i hf e => h.apart.2.2 (e ▸ hf)
  rw [del_mapD, ← dropE_pair] at ho
  exact ⟨(T.block g h.lt.1 h.apart.1).trans h.cell, ⟨f, ho, fun y hy => (hm y (dropE_sub y hy)).kept hk⟩, ⟨dropE_rise id h.ok.1, fun y hy => h.ok.2.1 y (dropE_sub y hy), h.ok.2.2⟩, h.apart⟩
end
section
variable {P : Program} {w : World} {ops : Array Oper} {rest : List Oper} {o : Oper} {a : Act} {Q : Exit → Act → World → Prop}
theorem wpList_lookup_held1 (hg : o.guard = none) (m x : Operand) (t : TypeId) (hop : o.op = Op.lookup t m x false)
    (k e : TypeId) (K : Maps.Keyed P k) (ht : P.underlying t = some (.map k e)) (z : Value) (hz : (zeroValue e).run P w = .ok z w) (b n : Nat) (L : List (Int × Value))
    (hm : a.eval m = .map (some b)) (hown : w.ownsMap P k heldR b n (mapD L)) (key : Int) (hx : a.eval x = .int .i64 key) (hkey : keyOf P k (Value.int .i64 key) = some (Lit.int .i64 key))
    (v : Value) (ok : Bool) (hres : foundIn L z key = (v, ok)) (hK : wpList P ops Q rest (a.put o.dst v) w) : wpList P ops Q (o :: rest) a w := by
  refine wpList_plain hg fun K' hK' => ?_
  have hr := look_held false K ht hz hown hkey
  rw [hres] at hr
  unfold Oper.wp
  simp [execOp, hop, hm, hx, hr, Result.andThen]
  exact hK' _ _ hK
end
theorem roomF_few {L : List Ent} (h : L.length < 32) : roomF L = L := by unfold roomF; rw [if_pos h]
theorem roomF_at {L : List Ent} {i : Nat} {x : Ent} (h : 32 ≤ L.length) (hx : L[i]? = some x) (ho : x.isOpen = false) (hb : ∀ j y, j < i → L[j]? = some y → y.isOpen = true) : roomF L = dropE L x.id := by
  unfold roomF
  rw [if_neg (by omega)]
  have : L.find? (fun x => !x.isOpen) = some x := by
    rw [List.find?_eq_some_iff_getElem]
    obtain ⟨hi, e⟩ := List.getElem?_eq_some_iff.1 hx
    exact ⟨by simp [ho], i, hi, e, fun j hj => by
      have := hb j L[j] hj (List.getElem?_eq_getElem _)
      simp [this]⟩
  rw [this]
theorem roomF_all {L : List Ent} (hb : ∀ j y, j < L.length → L[j]? = some y → y.isOpen = true) : roomF L = L := by
  unfold roomF
  split
  · rfl
  · have : L.find? (fun x => !x.isOpen) = none := by
      rw [List.find?_eq_none]
      intro x hx
      obtain ⟨j, hj, e⟩ := List.mem_iff_getElem.1 hx
      have := hb j x hj (by rw [List.getElem?_eq_getElem hj, e])
      simp [this]
    rw [this]
section
variable {F : Nat → Prop} {w : World} {g b k : Nat} {most : Int} {t : BkS}
def Roomy (F : Nat → Prop) (g b k : Nat) (most : Int) (t : BkS) (w : World) (e : Ending) (w' : World) : Prop := e = .returned (.tuple #[]) ∧ BookAt F w' g b k most ⟨t.last, roomF t.L⟩ ∧ Turned (fun i => i = b) w w'
theorem entAt_get {L : List Ent} (hr : RiseE L) {i : Nat} {x : Ent} (hx : L[i]? = some x) : entAt L x.id = some x := by
  unfold entAt
  rw [List.find?_eq_some_iff_getElem]
  obtain ⟨hi, e⟩ := List.getElem?_eq_some_iff.1 hx
  refine ⟨by simp, i, hi, e, fun j hj => ?_⟩
  have := List.pairwise_iff_getElem.1 hr j i (by omega) hi hj
  rw [e] at this
  simp
  omega
set_option maxHeartbeats 4000000 in
set_option maxRecDepth 100000 in
theorem room_few (h : BookAt F w g b k most t) (hl : t.L.length < 32) : Calls Tryz.prog 54 #[.pointer (some ⟨g, 0, none⟩)] w (Roomy F g b k most t w) := by
  obtain ⟨f, hm, _⟩ := h.body
  have HM := hide hm
  have H := hide h
  have c2 := h.c2
  have hsz : Maps.size (mapD (t.L.map (pairE f))) = t.L.length := by rw [size_mapD, List.length_map]
  obtain ⟨n, hn⟩ : ∃ n, t.L.length = n := ⟨_, rfl⟩
  rw [hn] at hsz hl
  have HSZ := hide hsz
  have HR := hide (roomF_few (L := t.L) (by omega))
  clear h hm hn hsz
  go_enter Tryz.func54, Tryz.ntmps54
  go_wp2_with (at_len; refine wpList_len_own _ rfl _ 68 rfl 3 36 Tryz.underlying68 _ b k _ rfl HM.out ?_; rw [HSZ.out])
  refine bodyPost_ret (results_none rfl _ _ _) rfl ?_
  exact ⟨rfl, by rw [HR.out]; exact H.out, Turned.refl _ _⟩
set_option maxHeartbeats 4000000 in
set_option maxRecDepth 100000 in
theorem room_many (h : BookAt F w g b k most t) (hl : 32 ≤ t.L.length) (hl6 : t.L.length ≤ 1000000) : Calls Tryz.prog 54 #[.pointer (some ⟨g, 0, none⟩)] w (Roomy F g b k most t w) := by
  obtain ⟨f, hm, hs⟩ := h.body
  have HM := hide hm
  have HS := hide hs
  have H := hide h
  have c2 := h.c2
  have hsz : Maps.size (mapD (t.L.map (pairE f))) = t.L.length := by rw [size_mapD, List.length_map]
  have C := hide (ids_any h hl6)
  have HLE : Hid ((idsOf t.L).length = t.L.length) := idsOf_len t.L
  obtain ⟨n, hn⟩ : ∃ n, t.L.length = n := ⟨_, rfl⟩
  rw [hn] at hsz hl hl6 HLE
  have HN := hide hn
  have HSZ := hide hsz
  clear h hm hs hn hsz
  go_enter Tryz.func54, Tryz.ntmps54
  go_wp2_with (at_len; refine wpList_len_own _ rfl _ 68 rfl 3 36 Tryz.underlying68 _ b k _ rfl HM.out ?_; rw [HSZ.out])
  refine C.out.mono ?_
  rintro e w1 ⟨A, m, c, rfl, hown, hI, hmc, hb1⟩
  have hmn : m = n := by
    have h1 : (idsOf t.L).length = m := hI.1
    have h2 := HLE.out
    omega
  subst hmn
  have HI := hide hI
  have L1 : Hid (Later w w1) := hb1
  clear hown hI hmc hb1 C
  go_wp2
  go_loopw [13] (fun i wr => ∃ q : Nat, q ≤ m ∧ i = .int .i64 (q : Int) ∧ (∀ j y, j < q → t.L[j]? = some y → y.isOpen = true) ∧ Later w1 wr) (fun i _ => m - (Go.RowKit.intOf i).toNat)
  case atStart => exact ⟨0, by omega, rfl, fun j y hj _ => by omega, Later.refl _⟩
  case round =>
    obtain ⟨q, hq, rfl, hop, hlr⟩ := hrel
    have HOP := hide hop
    have LR := hide hlr
    have LWa : Later w w1 := L1.out
    have LW : Hid (Later w wr) := Later.trans LWa hlr
    clear hop hlr LWa
    by_cases hqm : q < m
    · obtain ⟨x, hx⟩ : ∃ x, t.L[q]? = some x := ⟨t.L[q]'(by rw [HN.out]; exact hqm), List.getElem?_eq_getElem _⟩
      obtain ⟨B, off, rfl, hB, hc⟩ := HI.out.at_ hqm
      have hid : (idsOf t.L).getD q 0 = x.id := by simp [idsOf, List.getD, hx]
      rw [hid] at hc
      have hc2 : wr.cell? ⟨B, off + q, none⟩ = some (.int .i64 x.id) := (Below.cell LR.out (p := ⟨B, off + q, none⟩) hB).trans hc
      have HBr := H.out.later LW.out
      have d2 := HBr.c2
      have hok := HBr.ok.2.1 x (List.mem_of_getElem? hx)
      have hid64 : I64 x.id := ⟨by have := hok.1.2.2.2; omega, by have := hok.2; omega⟩
      have HKEY := hide (int_key hid64)
      have HM2 : Hid (wr.ownsMap Tryz.prog 3 heldR b k (mapD (t.L.map (pairE f)))) := HM.out.kept (later_grown LW.out) (by simp)
      have HR : Hid (foundIn (t.L.map (pairE f)) SagaD.zero.val x.id = ((x.sd f).val, true)) := by
        show _ = _
        rw [found_ent, entAt_get HBr.ok.1 hx]
      have CU := hide (under_any (w := wr) (x.sd f))
      have hso : (decide ((x.sd f).st = 1) || decide ((x.sd f).st = 2)) = x.isOpen := rfl
      rw [hso] at CU
      have HX := hide hx
      obtain ⟨id, hidd⟩ : ∃ id, x.id = id := ⟨_, rfl⟩
      rw [hidd] at hc2 HKEY HR
      obtain ⟨sv, hsv⟩ : ∃ sv, x.sd f = sv := ⟨_, rfl⟩
      rw [hsv] at HR CU
      have HB2 := hide HBr
      have HID := hide hidd
      clear hx hc hid HBr hok hid64 hso hidd hsv hB
      cases ho : x.isOpen with
      | true =>
        rw [ho] at CU
        have HO := hide ho
        clear ho
        go_wp2_with (at_lookup; refine wpList_lookup_held1 rfl _ _ 68 rfl 3 36 Tryz.int_law Tryz.underlying68 SagaD.zero.val (by kernel_rfl) b k _ rfl HM2.out id rfl HKEY.out _ true HR.out ?_)
        refine CU.out.mono ?_
        rintro e w2 ⟨rfl, hl2⟩
        have L2a : Later w1 wr := LR.out
        have L2 : Hid (Later w1 w2) := Later.trans L2a hl2
        clear hl2 L2a
        go_wp2
        go_roundw
        case rel => exact ⟨q + 1, by omega, by go_num, fun j y hj hy => by
          rcases Nat.lt_or_ge j q with h | h
          · exact HOP.out j y h hy
          · obtain rfl : j = q := by omega
            have e := hy.symm.trans HX.out
            obtain rfl := Option.some.inj e
            exact HO.out, L2.out⟩
        case measure => simp [Go.RowKit.intOf]; omega
      | false =>
        rw [ho] at CU
        have HR2 := hide (roomF_at (by rw [HN.out]; exact hl) HX.out ho HOP.out)
        clear ho
        go_wp2_with (at_lookup; refine wpList_lookup_held1 rfl _ _ 68 rfl 3 36 Tryz.int_law Tryz.underlying68 SagaD.zero.val (by kernel_rfl) b k _ rfl HM2.out id rfl HKEY.out _ true HR.out ?_)
        refine CU.out.mono ?_
        rintro e w2 ⟨rfl, hl2⟩
        have L2a : Later w wr := LW.out
        have L2 : Hid (Later w w2) := Later.trans L2a hl2
        have HB3 := hide (HB2.out.later hl2)
        have d3 := HB3.out.c2
        have HM3 : Hid (w2.ownsMap Tryz.prog 3 heldR b k (mapD (t.L.map (pairE f)))) := HM2.out.kept (later_grown hl2) (by simp)
        have HS3 : Hid (∀ y ∈ t.L, StepsAt F w2 (f y.id).v y.l) := fun y hy => StepsAt.kept (HS.out y hy) (Kept.of_below L2.out F)
        clear hl2 L2a
        go_wp2_with (at_delete; refine wpList_delete_own _ rfl _ _ 68 3 rfl 36 Tryz.int_law Tryz.underlying68 heldR b k (mapD (t.L.map (pairE f))) rfl HM3.out _ _ rfl HKEY.out ?_; intro w3 ho3 ht3)
        have E3 := HB3.out.drop HS3.out ho3 ht3
        rw [← HID.out, ← HR2.out] at E3
        refine bodyPost_ret (results_none rfl _ _ _) rfl ?_
        exact ⟨rfl, E3, (Turned.of_below L2.out _).trans (Turned.of_grown ht3.grown (fun k e => (Option.some.inj e).symm))⟩
    · obtain rfl : q = m := by omega
      have HR := hide (roomF_all (L := t.L) (fun j y hj hy => HOP.out j y (by rw [HN.out] at hj; exact hj) hy))
      go_wp2
      go_end0
      exact ⟨rfl, by rw [HR.out]; exact H.out.later LW.out, Turned.of_below LW.out _⟩
theorem room_any (h : BookAt F w g b k most t) (hl6 : t.L.length ≤ 1000000) : Calls Tryz.prog 54 #[.pointer (some ⟨g, 0, none⟩)] w (Roomy F g b k most t w) := by
  rcases Nat.lt_or_ge t.L.length 32 with hl | hl
  · exact room_few h hl
  · exact room_many h hl hl6
end
end Go.Proofs.YtpckdhjnhnonhaaGreat
/- A region whose order is open, of calls that turn but one part of memory beside operations that read another: as text Order, over whatever relation of worlds. -/
namespace Go.Proofs.YtpckdhjnhnonhaaGreat
open Go.RowKit

def Pre (R : World → World → Prop) : Prop := (∀ w, R w w) ∧ ∀ {a b c : World}, R a b → R b c → R a c
theorem pre_grown (r : Option Nat) : Pre (fun a b => a.grownBy b r) := ⟨fun w => World.grownBy.refl w r, fun h k => h.trans k⟩

section
variable {P : Program} {ops : Array Oper} {Q : Exit → Act → World → Prop} {md : Region.Mode} {R : World → World → Prop}

def wpAnyR (R : World → World → Prop) (P : Program) (md : Region.Mode) (ops : Array Oper) (Q : Exit → Act → World → Prop) : Nat → Array Bool → Act → World → Prop
  | 0, listed, a, w => Region.ready md ops listed = [] ∧ Q .normal a w
  | fuel + 1, listed, a, w =>
    (Region.ready md ops listed = [] → Q .normal a w) ∧
    ∀ i ∈ Region.ready md ops listed, wpOp P ops Q i (fun a' w' => R w w' ∧ wpAnyR R P md ops Q fuel (listed.setIfInBounds i true) a' w') a w

theorem wpAny_of_R : ∀ (fuel : Nat) (listed : Array Bool) (a : Act) (w : World), wpAnyR R P md ops Q fuel listed a w → wpAny P md ops Q fuel listed a w
  | 0, _, _, _, h => h
  | fuel + 1, _, _, _, h => ⟨h.1, fun i hi => wpOp_mono (fun a' w' h' => wpAny_of_R fuel _ a' w' h'.2) (h.2 i hi)⟩

theorem yields_rel {o : Oper} {v : Value} {a : Act} {w w' : World} (h : YieldsIf P ops (R w) o v a) (hR : Pre R) (hl : R w w') : YieldsIf P ops (R w') o v a :=
  h.imp (fun ⟨hw, hv⟩ => ⟨hw, fun u hu => hv u (hR.2 hl hu)⟩) id

theorem wpAnyR_first (hR : Pre R) {i : Nat} {oi : Oper} {v : Value} (hi : ops[i]? = some oi) (hsel : ∀ (j : Nat) (o : Oper) cs b, ops[j]? = some o → o.op ≠ .select cs b)
    (hQ : ∀ c a w, Q (.panic c) (a.put oi.dst v) w → Q (.panic c) a w) :
    ∀ (fuel : Nat) (listed : Array Bool) (a : Act) (w : World),
      (∀ j oj, ops[j]? = some oj → j ≠ i → listed.getD j true = false → (∀ e ∈ oj.after, Region.binds md e = true → e.on ≠ i) → oi.apart ops oj = true) →
      i ∈ Region.ready md ops listed → YieldsIf P ops (R w) oi v a →
      wpAnyR R P md ops Q fuel (listed.setIfInBounds i true) (a.put oi.dst v) w → wpAnyR R P md ops Q (fuel + 1) listed a w := by
  intro fuel
  induction fuel with
  | zero =>
    intro listed a w _ hr hy H
    refine ⟨fun h => (by rw [h] at hr; cases hr), fun j hj => ?_⟩
    by_cases hji : j = i
    · subst hji
      exact hy.wpOp hi (hR.1 w) ⟨hR.1 w, H⟩
    · have := ready_mono hj hji
      rw [H.1] at this
      cases this
  | succ fuel ih =>
    intro listed a w hfree hr hy H
    refine ⟨fun h => (by rw [h] at hr; cases hr), fun j hj => ?_⟩
    by_cases hji : j = i
    · subst hji
      exact hy.wpOp hi (hR.1 w) ⟨hR.1 w, H⟩
    · have h1 := H.2 j (ready_mono hj hji)
      obtain ⟨hjun, oj, hoj, hall⟩ := mem_ready.1 hj
      have hnot : ∀ e ∈ oj.after, Region.binds md e = true → e.on ≠ i := fun e he hb heq => by
        have q1 := hall e he hb
        have q0 := (mem_ready.1 hr).1
        rw [heq] at q1
        rcases Nat.lt_or_ge i listed.size with h' | h'
        · simp [h'] at q0 q1
          rw [q0] at q1
          cases q1
        · simp [Array.getElem?_eq_none h'] at q1
      have h2 := wpOp_putIf hoj (hfree j oj hoj hji hjun hnot) (fun cs b => hsel i oi cs b hi) (fun cs b => hsel j oj cs b hoj) hQ hy h1
      have hfree' : ∀ k ok, ops[k]? = some ok → k ≠ i → (listed.setIfInBounds j true).getD k true = false →
          (∀ e ∈ ok.after, Region.binds md e = true → e.on ≠ i) → oi.apart ops ok = true := fun k ok hk hki hun hno => by
        refine hfree k ok hk hki ?_ hno
        by_cases hjk : j = k
        · subst hjk; exact hjun
        · rw [getD_set_ne true hjk] at hun; exact hun
      refine wpOp_mono (fun a' w' h3 => ⟨h3.2.1, ih (listed.setIfInBounds j true) a' w' hfree' (ready_mono hr (Ne.symm hji)) (yields_rel h3.1 hR h3.2.1) ?_⟩) h2
      rw [Array.setIfInBounds_comm _ _ hji]
      exact h3.2.2

theorem wpAnyR_take (hR : Pre R) {i : Nat} {oi : Oper} {d : Option Tmp} {v : Value} {fuel : Nat} {listed : Array Bool} {a : Act} {w : World} (hi : ops[i]? = some oi) (hd : oi.dst = d)
    (hs : Region.noSelect ops = true) (hf : Region.free md ops listed i = true) (hr : (Region.ready md ops listed).contains i = true)
    (hQ : ∀ c a w, Q (.panic c) (a.put d v) w → Q (.panic c) a w) (hw : Region.wanted oi (yielded ops a.tmps) = true) (hy : ∀ w', R w w' → (execOp a.eval oi).run P w' = .ok (.value v) w')
    (h : wpAnyR R P md ops Q fuel (listed.setIfInBounds i true) (a.put d v) w) : wpAnyR R P md ops Q (fuel + 1) listed a w := by
  subst hd
  exact wpAnyR_first hR hi (Region.noSelect_spec hs) hQ fuel listed a w (Region.free_spec hi hf) (by simpa using hr) (.inl ⟨hw, hy⟩) h

theorem wpAnyR_only {i : Nat} {o : Oper} {fuel : Nat} {listed : Array Bool} {a : Act} {w : World} (ho : ops[i]? = some o) (hr : Region.ready md ops listed = [i]) (hw : Region.wanted o (yielded ops a.tmps) = true)
    (h : ∀ K' : Act → World → Prop, Hid (∀ a' w', R w w' → wpAnyR R P md ops Q fuel (listed.setIfInBounds i true) a' w' → K' a' w') → Oper.wp P o a w K' Q) : wpAnyR R P md ops Q (fuel + 1) listed a w := by
  refine ⟨fun h0 => absurd (hr ▸ h0) (by simp), fun j hj => ?_⟩
  rw [hr] at hj
  obtain rfl : j = i := by simpa using hj
  refine wpOp_step ho fun K' hK => ?_
  rw [if_pos hw]
  exact h K' fun a' w' hl hn => hK a' w' ⟨hl, hn⟩

theorem wpAnyR_done {listed : Array Bool} {a : Act} {w : World} (hr : Region.ready md ops listed = []) (h : Q .normal a w) : ∀ fuel, wpAnyR R P md ops Q fuel listed a w
  | 0 => ⟨hr, h⟩
  | _ + 1 => ⟨fun _ => h, by rw [hr]; simp⟩

theorem wp_region_R {id : Nat} {a : Act} {w : World} (hm : P.follows .mixedOrders = true)
    (h : wpAnyR R P .any ops Q ops.size (Array.replicate ops.size false) a w.drew) : (Code.region id ops true).wp P Q a w :=
  wp_region_any hm (wpAny_of_R _ _ _ _ h)
end

end Go.Proofs.YtpckdhjnhnonhaaGreat
