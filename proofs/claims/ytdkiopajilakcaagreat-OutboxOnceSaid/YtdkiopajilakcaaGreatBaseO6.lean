/- Texts merged: OuG, BkJ, BkL, OuH, OuI, OuP, WeighN, OpenD, SagN, Long, PlanT, SagR, Arg15, ArgS, ArgO. -/
import Derived.Test.YtdkiopajilakcaaGreatBaseO1
import Derived.Test.YtdkiopajilakcaaGreatBaseO2
import Derived.Test.YtdkiopajilakcaaGreatBaseO3
import Derived.Test.YtdkiopajilakcaaGreatBaseO4
import Derived.Test.YtdkiopajilakcaaGreatBaseO5
import Derived.Test.YtdkiopajilakcaaGreatProg
import Derived.Deep.Slices
import Derived.ChangeArms
import Derived.SizedLaws
import Derived.ShutString
import Derived.ProofKit
import Derived.OpenShut
/- Result of package outbox. -/
namespace Go.Proofs.YtdkiopajilakcaaGreat
open Go.RowKit Go.Maps
theorem opre_below (B : Nat) : Pre (Below B) := ⟨fun w => Below.refl B w, fun h k => Below.trans h k⟩
def comM (m : MsgD) : ComD := ⟨m.cview, m.cstub, m.csaga, m.cstep, m.ctry, m.cback⟩
def resF (B : List PlD) (m : MsgD) : Option PlD := if m.kind = 14 ∧ m.fenced = false then resP B (comM m) else none
def MsB (y : Nat) (m : MsgD) (s o i : Value) (w : World) : Prop := w.heap[y]? = some (.cells (m.cells s o i).toArray 46 (0, 0))
theorem MsB.below {y : Nat} {m : MsgD} {s o i : Value} {w w' : World} (h : MsB y m s o i w) (hl : Later w w') : MsB y m s o i w' := (Below.block hl y (lt_of_block h)).trans h
theorem MsB.cells {y : Nat} {m : MsgD} {s o i : Value} {w : World} (h : MsB y m s o i w) : w.cell? ⟨y, 0, none⟩ = some (.int .i64 m.kind) ∧ w.cell? ⟨y, 11, none⟩ = some (.bool m.fenced) ∧ w.cell? ⟨y, 10, none⟩ = some (.bool m.good) ∧ w.cell? ⟨y, 28, none⟩ = some (.int .i64 m.csaga) :=
  ⟨(cell_of_row w y 0 _ _ _ h).trans rfl, (cell_of_row w y 11 _ _ _ h).trans rfl, (cell_of_row w y 10 _ _ _ h).trans rfl, (cell_of_row w y 28 _ _ _ h).trans rfl⟩
def OpD.hits (o : OpD) (q : Bool) : OpD := ⟨o.kind, o.client, o.request, o.name, o.steps, o.saga, o.step, o.try_, o.back, q⟩
theorem OBox.hit_ {g : Nat} {o : OpD} {s : Value} {w : World} (h : OBox g o s w) (q : Bool) : OBox g (o.hits q) s (w.setCell ⟨g, 9, none⟩ (.bool q)) := by
  have h2 : BlockAt 37 w g (o.cells s) := h
  exact h2.set 9 (.bool q)
theorem OBox.c9 {g : Nat} {o : OpD} {s : Value} {w : World} (h : OBox g o s w) : w.cell? ⟨g, 9, none⟩ = some (.bool o.good) ∧ w.frozen? ⟨g, 9, none⟩ = false := ⟨(cell_of_row w g 9 _ _ _ h).trans rfl, frozen_of_row w g 9 _ _ h⟩
section
variable {ops : Array Oper} {rest : List Oper} {op : Oper} {a : Act} {W : World} {Q : Exit → Act → World → Prop} {g y : Nat} {p z : PlD} {m : MsgD} {s o i : Value}
theorem exec_load_mcom (x : Operand) (ho : op.op = .load 42 x) (hx : a.eval x = .pointer (some ⟨y, 26, none⟩)) (hg : MsB y m s o i W) : (execOp a.eval op).run Tryz.prog W = .ok (.value (comM m).val) W :=
  exec_load_box 42 x ho y 26 hx _ _ hg 6 _ Tryz.underlying42 (by rfl) (by kernel_rfl) (comM m).cells (by rfl) (by rfl)
theorem wp_store_pl {K : Act → World → Prop} (x y : Operand) (ho : op.op = .store 111 x y) (hx : a.eval x = .pointer (some ⟨g, 0, none⟩)) (hg : PBox g z W) (hy : a.eval y = p.val)
    (h : ∀ w', PBox g p w' → W.grownBy w' (some g) → K (a.put op.dst undef) w') : op.wp Tryz.prog a W K Q :=
  wp_store_box 111 x y ho g 0 p.cells.toArray hx hy _ _ hg (by kernel_rfl) (by exact Nat.le_of_ble_eq_true rfl) (by exact p.one) (fun w' hb hg' => h w' (by rw [show p.cells.toArray.toList = p.cells from rfl, pl_put] at hb; exact hb) hg')
theorem exec_lookup_held {P : Program} {k e t : TypeId} {m x : Operand} (ho : op.op = .lookup t m x true) (K : Maps.Keyed P k) (ht : P.underlying t = some (.map k e)) {z : Value} (hz : (zeroValue e).run P W = .ok z W) {b n : Nat} {L : List (Int × Value)} (hown : W.ownsMap P k heldR b n (mapD L)) {key : Int}
    (hkey : keyOf P k (Value.int .i64 key) = some (Lit.int .i64 key)) (hm : a.eval m = .map (some b)) (hx : a.eval x = .int .i64 key) {v : Value} {ok : Bool} (hres : foundIn L z key = (v, ok)) :
    (execOp a.eval op).run P W = .ok (.value (.tuple #[v, .bool ok])) W := by
  have hr := look_held true K ht hz hown hkey
  rw [hres] at hr
  unfold execOp
  simp [ho, hm, hx, hr, Result.andThen]
end
theorem tellL_split {B : List PlD} (hr : RiseP B) {p : PlD} (hp : p ∈ B) : ∃ B1 B2, B = B1 ++ p :: B2 ∧ tellL B p.c.saga = B1 ++ p.tell :: B2 := by
  obtain ⟨B1, B2, rfl⟩ := List.append_of_mem hp
  refine ⟨B1, B2, rfl, ?_⟩
  obtain ⟨_, h2, h3⟩ := List.pairwise_append.1 hr
  obtain ⟨h4, _⟩ := List.pairwise_cons.1 h2
  unfold tellL
  rw [List.map_append, List.map_cons, if_pos rfl]
  have f1 : B1.map (fun q => if q.c.saga = p.c.saga then q.tell else q) = B1 := (List.map_congr_left (g := id) fun q hq => by have := h3 q hq p (by simp); rw [if_neg (by omega)]; rfl).trans (List.map_id _)
  have f2 : B2.map (fun q => if q.c.saga = p.c.saga then q.tell else q) = B2 := (List.map_congr_left (g := id) fun q hq => by have := h4 q hq; rw [if_neg (by omega)]; rfl).trans (List.map_id _)
  rw [f1, f2]
section
variable {w : World} {g b k a : Nat} {v : Int} {B : List PlD} {m : MsgD} {s o i : Value}
def Resulted (g b k : Nat) (v : Int) (a : Nat) (B : List PlD) (m : MsgD) (w : World) (e : Ending) (w' : World) : Prop :=
  match resF B m with
  | none => e = .returned (.tuple #[.agg (OpD.zero.cells (.slice none 0 0)).toArray, .bool false]) ∧ Later w w'
  | some p => e = .returned (.tuple #[.agg ((opP 4 m.good p).cells (.slice none 0 0)).toArray, .bool true]) ∧ BoxAt w' g b (k + 1) v a (tellL B m.csaga) ∧ Turned (fun i => i = b) w w'
set_option maxHeartbeats 8000000 in
set_option maxRecDepth 100000 in
theorem oresult_any (h : BoxAt w g b k v a B) (hk6 : k ≤ 100000000) (hI : I64 m.csaga) : Calls Tryz.prog 23 #[.pointer (some ⟨g, 0, none⟩), .agg (m.cells s o i).toArray] w (Resulted g b k v a B m w) := by
  obtain ⟨W2, hW2⟩ : ∃ W2, W2 = (w.alloc (.cells (m.cells s o i).toArray 46 (0, 0))).alloc (.cells #[.int .i64 0, .int .i64 0, .int .i64 0, .string ⟨#[]⟩, .slice none 0 0, .int .i64 0, .int .i64 0, .int .i64 0, .bool false, .bool false] 37 (0, 0)) := ⟨_, rfl⟩
  obtain ⟨y, hy⟩ : ∃ y, y = w.heap.size := ⟨_, rfl⟩
  have X2 : Hid (MsB y m s o i W2) := by rw [hW2, hy]; exact (heap_alloc_old _ _ (by simp)).trans (heap_alloc_new _ _)
  have Y2 : Hid (OBox (y + 1) OpD.zero (.slice none 0 0) W2) := by rw [hW2, hy]; exact heap_second _ _ _
  have L2 : Hid (Later w W2) := by rw [hW2]; exact ((Below.refl _ _).alloc (Nat.le_refl _) _).alloc (by simp) _
  have HY : Hid (w.heap.size ≤ y) := Nat.le_of_eq hy.symm
  have HSZ2 : Hid (W2.heap.size = y + 2) := by show _ = _; rw [hW2, hy]; simp
  have HB := hide (h.later L2.out)
  have HBY : Hid (b < y ∧ g < y) := by have := h.lt; exact ⟨by omega, by omega⟩
  have CM := hide (omade_yes HB.out)
  have HW2 := hide hW2.symm
  have HG := hide hy.symm
  obtain ⟨d0, d11, _, _⟩ := X2.out.cells
  obtain ⟨kd, hkd⟩ : ∃ kd, m.kind = kd := ⟨_, rfl⟩
  obtain ⟨fn, hfn⟩ : ∃ fn, m.fenced = fn := ⟨_, rfl⟩
  rw [hkd] at d0
  rw [hfn] at d11
  by_cases h14 : kd = 14
  · subst h14
    have k14 : ((14 : Int) == 14) = true := rfl
    cases fn with
    | true =>
      have hr : resF B m = none := by unfold resF; rw [if_neg (by rw [hfn]; simp)]
      unfold Resulted
      rw [hr]
      simp only
      clear h hW2 hy hI hr hkd hfn
      go_enter Tryz.func23, Tryz.ntmps23
      go_wp2_with (fail)
      simp only [HW2.out, HG.out]
      refine CM.out.mono ?_
      rintro e w0 ⟨rfl, rfl⟩
      go_wp2_with (first
        | (refine wpList_build_parts (by rfl) 37 _ (by rfl) [] (by rfl) (OpD.zero.cells (.slice none 0 0)).toArray (by kernel_rfl) ?_)
        | (refine wpList_store_oop (o := OpD.zero) (s := .slice none 0 0) (by rfl) _ _ (by rfl) (by rfl) Y2.out (by rfl) (by rfl) ?_; intro w7 X7 G7))
      have HLF : Hid (Later w w7) := (show Later w W2 from L2.out).grown G7 (Below.size L2.out) (fun k hk => by have := Option.some.inj hk; have := HY.out; omega)
      refine bodyPost_ret (results_box2 Tryz.results23 _ _ (y + 1) 37 _ _ (by rfl) X7 Tryz.underlying37 (by rfl) (by kernel_rfl) (.bool false) (by rfl)) (by rfl) ?_
      exact ⟨rfl, HLF.out⟩
    | false =>
      have hr0 : resF B m = resP B (comM m) := by unfold resF; rw [if_pos ⟨hkd, hfn⟩]
      have HRF := hide hr0
      have HMB : Hid (∀ w', Later W2 w' → w'.ownsMap Tryz.prog 3 heldR b k (mapD (B.map pairP))) := fun w' hl => (HB.out.later hl).body
      have HI := hide hI
      obtain ⟨W9, hW9⟩ : ∃ W9, W2.drew = W9 := ⟨_, rfl⟩
      have HW9 := hide hW9
      have L29 : Hid (Later W2 W9) := by rw [← hW9]; exact Later.drew _
      have HS9 : Hid (W9.heap.size = y + 2) := by rw [← HSZ2.out, ← hW9]; rfl
      cases hpl : plAt B m.csaga with
      | none =>
        have HF : Hid (foundIn (B.map pairP) PlD.zero.val m.csaga = (PlD.zero.val, false)) := by
          show _ = _
          rw [found_pl, hpl]
        have hr : resF B m = none := by rw [hr0]; unfold resP; rw [show (comM m).saga = m.csaga from rfl, hpl]
        unfold Resulted
        rw [hr]
        simp only
        clear h hW2 hy hI hr hkd hfn hr0 hpl hW9
        go_enter Tryz.func23, Tryz.ntmps23
        go_wp2_with (fail)
        simp only [HW2.out, HG.out]
        refine CM.out.mono ?_
        rintro e w0 ⟨rfl, rfl⟩
        clear CM
        go_wp2_with (fail)
        refine wp_region_V (Below W9.heap.size) (fun j => j == 12) (by kernel_rfl) ?_
        rw [HW9.out]
        refine wpAnyV_take (opre_below W9.heap.size) (i := 0) (d := some 23) (v := ?vaa0) rfl rfl (by kernel_rfl) (by kernel_rfl) (by kernel_rfl) (by kernel_rfl) (by kernel_rfl) (fun _ _ _ h => h) (by rfl) ?yaa0 ?_
        case yaa0 => (intro w' hw'; go_simp; try (with_reducible rfl))
        simp only [Act.put]; try simp only [List.setIfInBounds_toArray]; try simp only [List.set_cons_zero, List.set_cons_succ]
        refine wpAnyV_take (opre_below W9.heap.size) (i := 1) (d := some 24) (v := ?vaa1) rfl rfl (by kernel_rfl) (by kernel_rfl) (by kernel_rfl) (by kernel_rfl) (by kernel_rfl) (fun _ _ _ h => h) (by rfl) ?yaa1 ?_
        case yaa1 => (intro w' hw'; go_simp; try (with_reducible rfl))
        simp only [Act.put]; try simp only [List.setIfInBounds_toArray]; try simp only [List.set_cons_zero, List.set_cons_succ]
        refine wpAnyV_take (opre_below W9.heap.size) (i := 2) (d := some 25) (v := ?vaa2) rfl rfl (by kernel_rfl) (by kernel_rfl) (by kernel_rfl) (by kernel_rfl) (by kernel_rfl) (fun _ _ _ h => h) (by rfl) ?yaa2 ?_
        case yaa2 => (intro w' hw'; go_simp; try (with_reducible rfl))
        simp only [Act.put]; try simp only [List.setIfInBounds_toArray]; try simp only [List.set_cons_zero, List.set_cons_succ]
        refine wpAnyV_take (opre_below W9.heap.size) (i := 3) (d := some 26) (v := ?vaa3) rfl rfl (by kernel_rfl) (by kernel_rfl) (by kernel_rfl) (by kernel_rfl) (by kernel_rfl) (fun _ _ _ h => h) (by rfl) ?yaa3 ?_
        case yaa3 => (intro w' hw'; have hl9 : Later W9 w' := hw'; have hlw : Later W2 w' := Later.trans L29.out hl9; have cc1 := (HB.out.later hlw).c1; go_simp; try (with_reducible rfl))
        simp only [Act.put]; try simp only [List.setIfInBounds_toArray]; try simp only [List.set_cons_zero, List.set_cons_succ]
        refine wpAnyV_take (opre_below W9.heap.size) (i := 4) (d := some 27) (v := ?vaa4) rfl rfl (by kernel_rfl) (by kernel_rfl) (by kernel_rfl) (by kernel_rfl) (by kernel_rfl) (fun _ _ _ h => h) (by rfl) ?yaa4 ?_
        case yaa4 => (intro w' hw'; go_simp; try (with_reducible rfl))
        simp only [Act.put]; try simp only [List.setIfInBounds_toArray]; try simp only [List.set_cons_zero, List.set_cons_succ]
        refine wpAnyV_take (opre_below W9.heap.size) (i := 5) (d := some 28) (v := ?vaa5) rfl rfl (by kernel_rfl) (by kernel_rfl) (by kernel_rfl) (by kernel_rfl) (by kernel_rfl) (fun _ _ _ h => h) (by rfl) ?yaa5 ?_
        case yaa5 => (intro w' hw'; go_simp; try (with_reducible rfl))
        simp only [Act.put]; try simp only [List.setIfInBounds_toArray]; try simp only [List.set_cons_zero, List.set_cons_succ]
        refine wpAnyV_take (opre_below W9.heap.size) (i := 6) (d := some 29) (v := ?vaa6) rfl rfl (by kernel_rfl) (by kernel_rfl) (by kernel_rfl) (by kernel_rfl) (by kernel_rfl) (fun _ _ _ h => h) (by rfl) ?yaa6 ?_
        case yaa6 => (intro w' hw'; have hl9 : Later W9 w' := hw'; have hlw : Later W2 w' := Later.trans L29.out hl9; have cc28 := (X2.out.below hlw).cells.2.2.2; go_simp; try (with_reducible rfl))
        simp only [Act.put]; try simp only [List.setIfInBounds_toArray]; try simp only [List.set_cons_zero, List.set_cons_succ]
        refine wpAnyV_take (opre_below W9.heap.size) (i := 7) (d := some 30) (v := .tuple #[PlD.zero.val, .bool false]) rfl rfl (by kernel_rfl) (by kernel_rfl) (by kernel_rfl) (by kernel_rfl) (by kernel_rfl) (fun _ _ _ h => h) (by rfl) ?yaa7 ?_
        case yaa7 => (intro w' hw'; have hl9 : Later W9 w' := hw'; have hlw : Later W2 w' := Later.trans L29.out hl9; exact exec_lookup_held (by rfl) Tryz.int_law Tryz.underlying82 (z := PlD.zero.val) (by kernel_rfl) (HMB.out w' hlw) (int_key HI.out) (by rfl) (by rfl) HF.out)
        simp only [Act.put]; try simp only [List.setIfInBounds_toArray]; try simp only [List.set_cons_zero, List.set_cons_succ]
        refine wpAnyV_take (opre_below W9.heap.size) (i := 8) (d := some 22) (v := ?vaa8) rfl rfl (by kernel_rfl) (by kernel_rfl) (by kernel_rfl) (by kernel_rfl) (by kernel_rfl) (fun _ _ _ h => h) (by rfl) ?yaa8 ?_
        case yaa8 => (intro w' hw'; go_simp; try (with_reducible rfl))
        simp only [Act.put]; try simp only [List.setIfInBounds_toArray]; try simp only [List.set_cons_zero, List.set_cons_succ]
        refine wpAnyV_take (opre_below W9.heap.size) (i := 9) (d := some 31) (v := ?vaa9) rfl rfl (by kernel_rfl) (by kernel_rfl) (by kernel_rfl) (by kernel_rfl) (by kernel_rfl) (fun _ _ _ h => h) (by rfl) ?yaa9 ?_
        case yaa9 => (intro w' hw'; go_simp; try (with_reducible rfl))
        simp only [Act.put]; try simp only [List.setIfInBounds_toArray]; try simp only [List.set_cons_zero, List.set_cons_succ]
        refine wpAnyV_pure (opre_below W9.heap.size) (i := 10) (d := some 32) (v := ?vaa10) rfl rfl (by kernel_rfl) (by kernel_rfl) (by kernel_rfl) (by kernel_rfl) (fun _ _ _ h => h) (by rfl) ?yaa10 ?_
        case yaa10 => (intro w'; go_simp; try (with_reducible rfl))
        simp only [Act.put]; try simp only [List.setIfInBounds_toArray]; try simp only [List.set_cons_zero, List.set_cons_succ]
        refine wpAnyV_only (opre_below W9.heap.size) (i := 11) rfl (by kernel_rfl) (by rfl) fun K hK => ?_
        go_simp
        obtain ⟨wa, hwa⟩ : ∃ wa, wa = W9.alloc (.cells #[.int .i64 0, .int .i64 0, .int .i64 0, .int .i64 0, .int .i64 0, .bool false, .int .i64 0, .int .i64 0, .bool false] 111 (0, 0)) := ⟨_, rfl⟩
        have ZA : Hid (PBox (y + 2) PlD.zero wa) := by rw [hwa, ← HS9.out]; exact heap_alloc_new _ _
        have L9a : Hid (Later W9 wa) := by rw [hwa]; exact (Below.refl _ _).alloc (Nat.le_refl _) _
        rw [← hwa]
        try rw [HS9.out]
        refine hK.out _ _ (Later.trans (Later.refl _) L9a.out) ?_
        clear hwa
        clear hK K
        try (simp only [Act.put]; try simp only [List.setIfInBounds_toArray]; try simp only [List.set_cons_zero, List.set_cons_succ])
        refine wpAnyV_write (i := 12) rfl rfl (by kernel_rfl) (by rfl) fun K hK => ?_
        refine wp_store_pl (p := PlD.zero) _ _ (by rfl) (by rfl) ZA.out (by rfl) ?_
        intro w5 hz hg
        have X5 := hide hz
        have L95 : Hid (Later W9 w5) := (show Later W9 wa from L9a.out).grown hg (Below.size L9a.out) (fun k hk => by have := Option.some.inj hk; have := HS9.out; omega)
        refine hK.out _ _ ?_
        clear hz hg
        clear hK K
        try simp only [Act.put]
        refine wpAnyV_pure (opre_below W9.heap.size) (i := 13) (d := some 7) (v := ?vaa13) rfl rfl (by kernel_rfl) (by kernel_rfl) (by kernel_rfl) (by kernel_rfl) (fun _ _ _ h => h) (by rfl) ?yaa13 ?_
        case yaa13 => (intro w'; go_simp; try (with_reducible rfl))
        simp only [Act.put]; try simp only [List.setIfInBounds_toArray]; try simp only [List.set_cons_zero, List.set_cons_succ]
        refine wpAnyV_done (by kernel_rfl) ?_ _
        have L25 : Hid (Later W2 w5) := Later.trans L29.out (show Later W9 w5 from L95.out)
        have L5 : Hid (Later w w5) := Later.trans (show Later w W2 from L2.out) L25.out
        have Y5 : Hid (OBox (y + 1) OpD.zero (.slice none 0 0) w5) := Y2.out.below L25.out
        have M5 : Hid (MsB y m s o i w5) := X2.out.below L25.out
        go_wp2_with (first
          | (refine wpList_build_parts (by rfl) 37 _ (by rfl) [] (by rfl) (OpD.zero.cells (.slice none 0 0)).toArray (by kernel_rfl) ?_)
          | (refine wpList_store_oop (o := OpD.zero) (s := .slice none 0 0) (by rfl) _ _ (by rfl) (by rfl) Y5.out (by rfl) (by rfl) ?_; intro w7 X7 G7))
        have HLF : Hid (Later w w7) := (show Later w w5 from L5.out).grown G7 (Below.size L5.out) (fun k hk => by have := Option.some.inj hk; have := HY.out; omega)
        refine bodyPost_ret (results_box2 Tryz.results23 _ _ (y + 1) 37 _ _ (by rfl) X7 Tryz.underlying37 (by rfl) (by kernel_rfl) (.bool false) (by rfl)) (by rfl) ?_
        exact ⟨rfl, HLF.out⟩
      | some p =>
        obtain ⟨hpm, hps⟩ := plAt_mem hpl
        have HF : Hid (foundIn (B.map pairP) PlD.zero.val m.csaga = (p.val, true)) := by
          show _ = _
          rw [found_pl, hpl]
        obtain ⟨ta, hta⟩ : ∃ ta, p.told = ta := ⟨_, rfl⟩
        obtain ⟨dq, hdq⟩ : ∃ dq, decide (p.c = comM m) = dq := ⟨_, rfl⟩
        have HD : Hid ((!decide (p.c = comM m)) = !dq) := by show _ = _; rw [hdq]
        have hr : resF B m = if !ta && dq then some p else none := by rw [hr0]; unfold resP; rw [show (comM m).saga = m.csaga from rfl, hpl]; simp only; rw [hta, hdq]
        have HTA := hide hta
        cases ta with
        | true =>
          rw [show (!true && dq) = false from rfl, if_neg (by decide)] at hr
          unfold Resulted
          rw [hr]
          simp only
          clear h hW2 hy hI hr hkd hfn hr0 hpl hW9 hpm hps hta hdq
          go_enter Tryz.func23, Tryz.ntmps23
          go_wp2_with (fail)
          simp only [HW2.out, HG.out]
          refine CM.out.mono ?_
          rintro e w0 ⟨rfl, rfl⟩
          clear CM
          go_wp2_with (fail)
          refine wp_region_V (Below W9.heap.size) (fun j => j == 12) (by kernel_rfl) ?_
          rw [HW9.out]
          refine wpAnyV_take (opre_below W9.heap.size) (i := 0) (d := some 23) (v := ?vab0) rfl rfl (by kernel_rfl) (by kernel_rfl) (by kernel_rfl) (by kernel_rfl) (by kernel_rfl) (fun _ _ _ h => h) (by rfl) ?yab0 ?_
          case yab0 => (intro w' hw'; go_simp; try (with_reducible rfl))
          simp only [Act.put]; try simp only [List.setIfInBounds_toArray]; try simp only [List.set_cons_zero, List.set_cons_succ]
          refine wpAnyV_take (opre_below W9.heap.size) (i := 1) (d := some 24) (v := ?vab1) rfl rfl (by kernel_rfl) (by kernel_rfl) (by kernel_rfl) (by kernel_rfl) (by kernel_rfl) (fun _ _ _ h => h) (by rfl) ?yab1 ?_
          case yab1 => (intro w' hw'; go_simp; try (with_reducible rfl))
          simp only [Act.put]; try simp only [List.setIfInBounds_toArray]; try simp only [List.set_cons_zero, List.set_cons_succ]
          refine wpAnyV_take (opre_below W9.heap.size) (i := 2) (d := some 25) (v := ?vab2) rfl rfl (by kernel_rfl) (by kernel_rfl) (by kernel_rfl) (by kernel_rfl) (by kernel_rfl) (fun _ _ _ h => h) (by rfl) ?yab2 ?_
          case yab2 => (intro w' hw'; go_simp; try (with_reducible rfl))
          simp only [Act.put]; try simp only [List.setIfInBounds_toArray]; try simp only [List.set_cons_zero, List.set_cons_succ]
          refine wpAnyV_take (opre_below W9.heap.size) (i := 3) (d := some 26) (v := ?vab3) rfl rfl (by kernel_rfl) (by kernel_rfl) (by kernel_rfl) (by kernel_rfl) (by kernel_rfl) (fun _ _ _ h => h) (by rfl) ?yab3 ?_
          case yab3 => (intro w' hw'; have hl9 : Later W9 w' := hw'; have hlw : Later W2 w' := Later.trans L29.out hl9; have cc1 := (HB.out.later hlw).c1; go_simp; try (with_reducible rfl))
          simp only [Act.put]; try simp only [List.setIfInBounds_toArray]; try simp only [List.set_cons_zero, List.set_cons_succ]
          refine wpAnyV_take (opre_below W9.heap.size) (i := 4) (d := some 27) (v := ?vab4) rfl rfl (by kernel_rfl) (by kernel_rfl) (by kernel_rfl) (by kernel_rfl) (by kernel_rfl) (fun _ _ _ h => h) (by rfl) ?yab4 ?_
          case yab4 => (intro w' hw'; go_simp; try (with_reducible rfl))
          simp only [Act.put]; try simp only [List.setIfInBounds_toArray]; try simp only [List.set_cons_zero, List.set_cons_succ]
          refine wpAnyV_take (opre_below W9.heap.size) (i := 5) (d := some 28) (v := ?vab5) rfl rfl (by kernel_rfl) (by kernel_rfl) (by kernel_rfl) (by kernel_rfl) (by kernel_rfl) (fun _ _ _ h => h) (by rfl) ?yab5 ?_
          case yab5 => (intro w' hw'; go_simp; try (with_reducible rfl))
          simp only [Act.put]; try simp only [List.setIfInBounds_toArray]; try simp only [List.set_cons_zero, List.set_cons_succ]
          refine wpAnyV_take (opre_below W9.heap.size) (i := 6) (d := some 29) (v := ?vab6) rfl rfl (by kernel_rfl) (by kernel_rfl) (by kernel_rfl) (by kernel_rfl) (by kernel_rfl) (fun _ _ _ h => h) (by rfl) ?yab6 ?_
          case yab6 => (intro w' hw'; have hl9 : Later W9 w' := hw'; have hlw : Later W2 w' := Later.trans L29.out hl9; have cc28 := (X2.out.below hlw).cells.2.2.2; go_simp; try (with_reducible rfl))
          simp only [Act.put]; try simp only [List.setIfInBounds_toArray]; try simp only [List.set_cons_zero, List.set_cons_succ]
          refine wpAnyV_take (opre_below W9.heap.size) (i := 7) (d := some 30) (v := .tuple #[p.val, .bool true]) rfl rfl (by kernel_rfl) (by kernel_rfl) (by kernel_rfl) (by kernel_rfl) (by kernel_rfl) (fun _ _ _ h => h) (by rfl) ?yab7 ?_
          case yab7 => (intro w' hw'; have hl9 : Later W9 w' := hw'; have hlw : Later W2 w' := Later.trans L29.out hl9; exact exec_lookup_held (by rfl) Tryz.int_law Tryz.underlying82 (z := PlD.zero.val) (by kernel_rfl) (HMB.out w' hlw) (int_key HI.out) (by rfl) (by rfl) HF.out)
          simp only [Act.put]; try simp only [List.setIfInBounds_toArray]; try simp only [List.set_cons_zero, List.set_cons_succ]
          refine wpAnyV_take (opre_below W9.heap.size) (i := 8) (d := some 22) (v := ?vab8) rfl rfl (by kernel_rfl) (by kernel_rfl) (by kernel_rfl) (by kernel_rfl) (by kernel_rfl) (fun _ _ _ h => h) (by rfl) ?yab8 ?_
          case yab8 => (intro w' hw'; go_simp; try (with_reducible rfl))
          simp only [Act.put]; try simp only [List.setIfInBounds_toArray]; try simp only [List.set_cons_zero, List.set_cons_succ]
          refine wpAnyV_take (opre_below W9.heap.size) (i := 9) (d := some 31) (v := ?vab9) rfl rfl (by kernel_rfl) (by kernel_rfl) (by kernel_rfl) (by kernel_rfl) (by kernel_rfl) (fun _ _ _ h => h) (by rfl) ?yab9 ?_
          case yab9 => (intro w' hw'; go_simp; try (with_reducible rfl))
          simp only [Act.put]; try simp only [List.setIfInBounds_toArray]; try simp only [List.set_cons_zero, List.set_cons_succ]
          refine wpAnyV_pure (opre_below W9.heap.size) (i := 10) (d := some 32) (v := ?vab10) rfl rfl (by kernel_rfl) (by kernel_rfl) (by kernel_rfl) (by kernel_rfl) (fun _ _ _ h => h) (by rfl) ?yab10 ?_
          case yab10 => (intro w'; go_simp; try (with_reducible rfl))
          simp only [Act.put]; try simp only [List.setIfInBounds_toArray]; try simp only [List.set_cons_zero, List.set_cons_succ]
          refine wpAnyV_only (opre_below W9.heap.size) (i := 11) rfl (by kernel_rfl) (by rfl) fun K hK => ?_
          go_simp
          obtain ⟨wa, hwa⟩ : ∃ wa, wa = W9.alloc (.cells #[.int .i64 0, .int .i64 0, .int .i64 0, .int .i64 0, .int .i64 0, .bool false, .int .i64 0, .int .i64 0, .bool false] 111 (0, 0)) := ⟨_, rfl⟩
          have ZA : Hid (PBox (y + 2) PlD.zero wa) := by rw [hwa, ← HS9.out]; exact heap_alloc_new _ _
          have L9a : Hid (Later W9 wa) := by rw [hwa]; exact (Below.refl _ _).alloc (Nat.le_refl _) _
          rw [← hwa]
          try rw [HS9.out]
          refine hK.out _ _ (Later.trans (Later.refl _) L9a.out) ?_
          clear hwa
          clear hK K
          try (simp only [Act.put]; try simp only [List.setIfInBounds_toArray]; try simp only [List.set_cons_zero, List.set_cons_succ])
          refine wpAnyV_write (i := 12) rfl rfl (by kernel_rfl) (by rfl) fun K hK => ?_
          refine wp_store_pl (p := p) _ _ (by rfl) (by rfl) ZA.out (by rfl) ?_
          intro w5 hz hg
          have X5 := hide hz
          have L95 : Hid (Later W9 w5) := (show Later W9 wa from L9a.out).grown hg (Below.size L9a.out) (fun k hk => by have := Option.some.inj hk; have := HS9.out; omega)
          refine hK.out _ _ ?_
          clear hz hg
          clear hK K
          try simp only [Act.put]
          refine wpAnyV_pure (opre_below W9.heap.size) (i := 13) (d := some 7) (v := ?vab13) rfl rfl (by kernel_rfl) (by kernel_rfl) (by kernel_rfl) (by kernel_rfl) (fun _ _ _ h => h) (by rfl) ?yab13 ?_
          case yab13 => (intro w'; go_simp; try (with_reducible rfl))
          simp only [Act.put]; try simp only [List.setIfInBounds_toArray]; try simp only [List.set_cons_zero, List.set_cons_succ]
          refine wpAnyV_done (by kernel_rfl) ?_ _
          have L25 : Hid (Later W2 w5) := Later.trans L29.out (show Later W9 w5 from L95.out)
          have L5 : Hid (Later w w5) := Later.trans (show Later w W2 from L2.out) L25.out
          have Y5 : Hid (OBox (y + 1) OpD.zero (.slice none 0 0) w5) := Y2.out.below L25.out
          have M5 : Hid (MsB y m s o i w5) := X2.out.below L25.out
          have f8 := X5.out.cells.2.2.2.2.2.2.2.2.1
          rw [HTA.out] at f8
          go_wp2_with (first
            | (refine wpList_build_parts (by rfl) 37 _ (by rfl) [] (by rfl) (OpD.zero.cells (.slice none 0 0)).toArray (by kernel_rfl) ?_)
            | (refine wpList_store_oop (o := OpD.zero) (s := .slice none 0 0) (by rfl) _ _ (by rfl) (by rfl) Y5.out (by rfl) (by rfl) ?_; intro w7 X7 G7))
          have HLF : Hid (Later w w7) := (show Later w w5 from L5.out).grown G7 (Below.size L5.out) (fun k hk => by have := Option.some.inj hk; have := HY.out; omega)
          refine bodyPost_ret (results_box2 Tryz.results23 _ _ (y + 1) 37 _ _ (by rfl) X7 Tryz.underlying37 (by rfl) (by kernel_rfl) (.bool false) (by rfl)) (by rfl) ?_
          exact ⟨rfl, HLF.out⟩
        | false =>
          cases dq with
          | false =>
            rw [show (!false && false) = false from rfl, if_neg (by decide)] at hr
            unfold Resulted
            rw [hr]
            simp only
            clear h hW2 hy hI hr hkd hfn hr0 hpl hW9 hpm hps hta hdq
            go_enter Tryz.func23, Tryz.ntmps23
            go_wp2_with (fail)
            simp only [HW2.out, HG.out]
            refine CM.out.mono ?_
            rintro e w0 ⟨rfl, rfl⟩
            clear CM
            go_wp2_with (fail)
            refine wp_region_V (Below W9.heap.size) (fun j => j == 12) (by kernel_rfl) ?_
            rw [HW9.out]
            refine wpAnyV_take (opre_below W9.heap.size) (i := 0) (d := some 23) (v := ?vac0) rfl rfl (by kernel_rfl) (by kernel_rfl) (by kernel_rfl) (by kernel_rfl) (by kernel_rfl) (fun _ _ _ h => h) (by rfl) ?yac0 ?_
            case yac0 => (intro w' hw'; go_simp; try (with_reducible rfl))
            simp only [Act.put]; try simp only [List.setIfInBounds_toArray]; try simp only [List.set_cons_zero, List.set_cons_succ]
            refine wpAnyV_take (opre_below W9.heap.size) (i := 1) (d := some 24) (v := ?vac1) rfl rfl (by kernel_rfl) (by kernel_rfl) (by kernel_rfl) (by kernel_rfl) (by kernel_rfl) (fun _ _ _ h => h) (by rfl) ?yac1 ?_
            case yac1 => (intro w' hw'; go_simp; try (with_reducible rfl))
            simp only [Act.put]; try simp only [List.setIfInBounds_toArray]; try simp only [List.set_cons_zero, List.set_cons_succ]
            refine wpAnyV_take (opre_below W9.heap.size) (i := 2) (d := some 25) (v := ?vac2) rfl rfl (by kernel_rfl) (by kernel_rfl) (by kernel_rfl) (by kernel_rfl) (by kernel_rfl) (fun _ _ _ h => h) (by rfl) ?yac2 ?_
            case yac2 => (intro w' hw'; go_simp; try (with_reducible rfl))
            simp only [Act.put]; try simp only [List.setIfInBounds_toArray]; try simp only [List.set_cons_zero, List.set_cons_succ]
            refine wpAnyV_take (opre_below W9.heap.size) (i := 3) (d := some 26) (v := ?vac3) rfl rfl (by kernel_rfl) (by kernel_rfl) (by kernel_rfl) (by kernel_rfl) (by kernel_rfl) (fun _ _ _ h => h) (by rfl) ?yac3 ?_
            case yac3 => (intro w' hw'; have hl9 : Later W9 w' := hw'; have hlw : Later W2 w' := Later.trans L29.out hl9; have cc1 := (HB.out.later hlw).c1; go_simp; try (with_reducible rfl))
            simp only [Act.put]; try simp only [List.setIfInBounds_toArray]; try simp only [List.set_cons_zero, List.set_cons_succ]
            refine wpAnyV_take (opre_below W9.heap.size) (i := 4) (d := some 27) (v := ?vac4) rfl rfl (by kernel_rfl) (by kernel_rfl) (by kernel_rfl) (by kernel_rfl) (by kernel_rfl) (fun _ _ _ h => h) (by rfl) ?yac4 ?_
            case yac4 => (intro w' hw'; go_simp; try (with_reducible rfl))
            simp only [Act.put]; try simp only [List.setIfInBounds_toArray]; try simp only [List.set_cons_zero, List.set_cons_succ]
            refine wpAnyV_take (opre_below W9.heap.size) (i := 5) (d := some 28) (v := ?vac5) rfl rfl (by kernel_rfl) (by kernel_rfl) (by kernel_rfl) (by kernel_rfl) (by kernel_rfl) (fun _ _ _ h => h) (by rfl) ?yac5 ?_
            case yac5 => (intro w' hw'; go_simp; try (with_reducible rfl))
            simp only [Act.put]; try simp only [List.setIfInBounds_toArray]; try simp only [List.set_cons_zero, List.set_cons_succ]
            refine wpAnyV_take (opre_below W9.heap.size) (i := 6) (d := some 29) (v := ?vac6) rfl rfl (by kernel_rfl) (by kernel_rfl) (by kernel_rfl) (by kernel_rfl) (by kernel_rfl) (fun _ _ _ h => h) (by rfl) ?yac6 ?_
            case yac6 => (intro w' hw'; have hl9 : Later W9 w' := hw'; have hlw : Later W2 w' := Later.trans L29.out hl9; have cc28 := (X2.out.below hlw).cells.2.2.2; go_simp; try (with_reducible rfl))
            simp only [Act.put]; try simp only [List.setIfInBounds_toArray]; try simp only [List.set_cons_zero, List.set_cons_succ]
            refine wpAnyV_take (opre_below W9.heap.size) (i := 7) (d := some 30) (v := .tuple #[p.val, .bool true]) rfl rfl (by kernel_rfl) (by kernel_rfl) (by kernel_rfl) (by kernel_rfl) (by kernel_rfl) (fun _ _ _ h => h) (by rfl) ?yac7 ?_
            case yac7 => (intro w' hw'; have hl9 : Later W9 w' := hw'; have hlw : Later W2 w' := Later.trans L29.out hl9; exact exec_lookup_held (by rfl) Tryz.int_law Tryz.underlying82 (z := PlD.zero.val) (by kernel_rfl) (HMB.out w' hlw) (int_key HI.out) (by rfl) (by rfl) HF.out)
            simp only [Act.put]; try simp only [List.setIfInBounds_toArray]; try simp only [List.set_cons_zero, List.set_cons_succ]
            refine wpAnyV_take (opre_below W9.heap.size) (i := 8) (d := some 22) (v := ?vac8) rfl rfl (by kernel_rfl) (by kernel_rfl) (by kernel_rfl) (by kernel_rfl) (by kernel_rfl) (fun _ _ _ h => h) (by rfl) ?yac8 ?_
            case yac8 => (intro w' hw'; go_simp; try (with_reducible rfl))
            simp only [Act.put]; try simp only [List.setIfInBounds_toArray]; try simp only [List.set_cons_zero, List.set_cons_succ]
            refine wpAnyV_take (opre_below W9.heap.size) (i := 9) (d := some 31) (v := ?vac9) rfl rfl (by kernel_rfl) (by kernel_rfl) (by kernel_rfl) (by kernel_rfl) (by kernel_rfl) (fun _ _ _ h => h) (by rfl) ?yac9 ?_
            case yac9 => (intro w' hw'; go_simp; try (with_reducible rfl))
            simp only [Act.put]; try simp only [List.setIfInBounds_toArray]; try simp only [List.set_cons_zero, List.set_cons_succ]
            refine wpAnyV_pure (opre_below W9.heap.size) (i := 10) (d := some 32) (v := ?vac10) rfl rfl (by kernel_rfl) (by kernel_rfl) (by kernel_rfl) (by kernel_rfl) (fun _ _ _ h => h) (by rfl) ?yac10 ?_
            case yac10 => (intro w'; go_simp; try (with_reducible rfl))
            simp only [Act.put]; try simp only [List.setIfInBounds_toArray]; try simp only [List.set_cons_zero, List.set_cons_succ]
            refine wpAnyV_only (opre_below W9.heap.size) (i := 11) rfl (by kernel_rfl) (by rfl) fun K hK => ?_
            go_simp
            obtain ⟨wa, hwa⟩ : ∃ wa, wa = W9.alloc (.cells #[.int .i64 0, .int .i64 0, .int .i64 0, .int .i64 0, .int .i64 0, .bool false, .int .i64 0, .int .i64 0, .bool false] 111 (0, 0)) := ⟨_, rfl⟩
            have ZA : Hid (PBox (y + 2) PlD.zero wa) := by rw [hwa, ← HS9.out]; exact heap_alloc_new _ _
            have L9a : Hid (Later W9 wa) := by rw [hwa]; exact (Below.refl _ _).alloc (Nat.le_refl _) _
            rw [← hwa]
            try rw [HS9.out]
            refine hK.out _ _ (Later.trans (Later.refl _) L9a.out) ?_
            clear hwa
            clear hK K
            try (simp only [Act.put]; try simp only [List.setIfInBounds_toArray]; try simp only [List.set_cons_zero, List.set_cons_succ])
            refine wpAnyV_write (i := 12) rfl rfl (by kernel_rfl) (by rfl) fun K hK => ?_
            refine wp_store_pl (p := p) _ _ (by rfl) (by rfl) ZA.out (by rfl) ?_
            intro w5 hz hg
            have X5 := hide hz
            have L95 : Hid (Later W9 w5) := (show Later W9 wa from L9a.out).grown hg (Below.size L9a.out) (fun k hk => by have := Option.some.inj hk; have := HS9.out; omega)
            refine hK.out _ _ ?_
            clear hz hg
            clear hK K
            try simp only [Act.put]
            refine wpAnyV_pure (opre_below W9.heap.size) (i := 13) (d := some 7) (v := ?vac13) rfl rfl (by kernel_rfl) (by kernel_rfl) (by kernel_rfl) (by kernel_rfl) (fun _ _ _ h => h) (by rfl) ?yac13 ?_
            case yac13 => (intro w'; go_simp; try (with_reducible rfl))
            simp only [Act.put]; try simp only [List.setIfInBounds_toArray]; try simp only [List.set_cons_zero, List.set_cons_succ]
            refine wpAnyV_done (by kernel_rfl) ?_ _
            have L25 : Hid (Later W2 w5) := Later.trans L29.out (show Later W9 w5 from L95.out)
            have L5 : Hid (Later w w5) := Later.trans (show Later w W2 from L2.out) L25.out
            have Y5 : Hid (OBox (y + 1) OpD.zero (.slice none 0 0) w5) := Y2.out.below L25.out
            have M5 : Hid (MsB y m s o i w5) := X2.out.below L25.out
            have f8 := X5.out.cells.2.2.2.2.2.2.2.2.1
            rw [HTA.out] at f8
            go_wp2_with (first
              | (refine wpList_build_parts (by rfl) 37 _ (by rfl) [] (by rfl) (OpD.zero.cells (.slice none 0 0)).toArray (by kernel_rfl) ?_)
              | (refine wpList_store_oop (o := OpD.zero) (s := .slice none 0 0) (by rfl) _ _ (by rfl) (by rfl) Y5.out (by rfl) (by rfl) ?_; intro w7 X7 G7)
              | (refine wpList_val rfl (by rfl) (exec_load_pcom _ (by rfl) (by rfl) X5.out) ?_)
              | (refine wpList_val rfl (by rfl) (exec_load_mcom _ (by rfl) (by rfl) M5.out) ?_)
              | (refine wpList_val rfl (by rfl) (exec_neq_com p.c (comM m) _ _ _ (by rfl) (by rfl) (by rfl)) ?_; rw [HD.out]))
            have HLF : Hid (Later w w7) := (show Later w w5 from L5.out).grown G7 (Below.size L5.out) (fun k hk => by have := Option.some.inj hk; have := HY.out; omega)
            refine bodyPost_ret (results_box2 Tryz.results23 _ _ (y + 1) 37 _ _ (by rfl) X7 Tryz.underlying37 (by rfl) (by kernel_rfl) (.bool false) (by rfl)) (by rfl) ?_
            exact ⟨rfl, HLF.out⟩
          | true =>
            rw [show (!false && true) = true from rfl, if_pos rfl] at hr
            unfold Resulted
            rw [hr]
            simp only
            obtain ⟨B1, B2, hB, hT⟩ := tellL_split h.ok.1 hpm
            rw [hps] at hT
            rw [hT]
            have HB2 : Hid (BoxAt W2 g b k v a (B1 ++ p :: B2)) := by have := HB.out; rw [hB] at this; exact this
            obtain ⟨gd, hgd⟩ : ∃ gd, m.good = gd := ⟨_, rfl⟩
            have HGD := hide hgd
            rw [hgd]
            clear h hW2 hy hI hr hkd hfn hr0 hpl hW9 hpm hps hta hdq hB hT hgd
            go_enter Tryz.func23, Tryz.ntmps23
            go_wp2_with (fail)
            simp only [HW2.out, HG.out]
            refine CM.out.mono ?_
            rintro e w0 ⟨rfl, rfl⟩
            clear CM
            go_wp2_with (fail)
            refine wp_region_V (Below W9.heap.size) (fun j => j == 12) (by kernel_rfl) ?_
            rw [HW9.out]
            refine wpAnyV_take (opre_below W9.heap.size) (i := 0) (d := some 23) (v := ?vac0) rfl rfl (by kernel_rfl) (by kernel_rfl) (by kernel_rfl) (by kernel_rfl) (by kernel_rfl) (fun _ _ _ h => h) (by rfl) ?yac0 ?_
            case yac0 => (intro w' hw'; go_simp; try (with_reducible rfl))
            simp only [Act.put]; try simp only [List.setIfInBounds_toArray]; try simp only [List.set_cons_zero, List.set_cons_succ]
            refine wpAnyV_take (opre_below W9.heap.size) (i := 1) (d := some 24) (v := ?vac1) rfl rfl (by kernel_rfl) (by kernel_rfl) (by kernel_rfl) (by kernel_rfl) (by kernel_rfl) (fun _ _ _ h => h) (by rfl) ?yac1 ?_
            case yac1 => (intro w' hw'; go_simp; try (with_reducible rfl))
            simp only [Act.put]; try simp only [List.setIfInBounds_toArray]; try simp only [List.set_cons_zero, List.set_cons_succ]
            refine wpAnyV_take (opre_below W9.heap.size) (i := 2) (d := some 25) (v := ?vac2) rfl rfl (by kernel_rfl) (by kernel_rfl) (by kernel_rfl) (by kernel_rfl) (by kernel_rfl) (fun _ _ _ h => h) (by rfl) ?yac2 ?_
            case yac2 => (intro w' hw'; go_simp; try (with_reducible rfl))
            simp only [Act.put]; try simp only [List.setIfInBounds_toArray]; try simp only [List.set_cons_zero, List.set_cons_succ]
            refine wpAnyV_take (opre_below W9.heap.size) (i := 3) (d := some 26) (v := ?vac3) rfl rfl (by kernel_rfl) (by kernel_rfl) (by kernel_rfl) (by kernel_rfl) (by kernel_rfl) (fun _ _ _ h => h) (by rfl) ?yac3 ?_
            case yac3 => (intro w' hw'; have hl9 : Later W9 w' := hw'; have hlw : Later W2 w' := Later.trans L29.out hl9; have cc1 := (HB.out.later hlw).c1; go_simp; try (with_reducible rfl))
            simp only [Act.put]; try simp only [List.setIfInBounds_toArray]; try simp only [List.set_cons_zero, List.set_cons_succ]
            refine wpAnyV_take (opre_below W9.heap.size) (i := 4) (d := some 27) (v := ?vac4) rfl rfl (by kernel_rfl) (by kernel_rfl) (by kernel_rfl) (by kernel_rfl) (by kernel_rfl) (fun _ _ _ h => h) (by rfl) ?yac4 ?_
            case yac4 => (intro w' hw'; go_simp; try (with_reducible rfl))
            simp only [Act.put]; try simp only [List.setIfInBounds_toArray]; try simp only [List.set_cons_zero, List.set_cons_succ]
            refine wpAnyV_take (opre_below W9.heap.size) (i := 5) (d := some 28) (v := ?vac5) rfl rfl (by kernel_rfl) (by kernel_rfl) (by kernel_rfl) (by kernel_rfl) (by kernel_rfl) (fun _ _ _ h => h) (by rfl) ?yac5 ?_
            case yac5 => (intro w' hw'; go_simp; try (with_reducible rfl))
            simp only [Act.put]; try simp only [List.setIfInBounds_toArray]; try simp only [List.set_cons_zero, List.set_cons_succ]
            refine wpAnyV_take (opre_below W9.heap.size) (i := 6) (d := some 29) (v := ?vac6) rfl rfl (by kernel_rfl) (by kernel_rfl) (by kernel_rfl) (by kernel_rfl) (by kernel_rfl) (fun _ _ _ h => h) (by rfl) ?yac6 ?_
            case yac6 => (intro w' hw'; have hl9 : Later W9 w' := hw'; have hlw : Later W2 w' := Later.trans L29.out hl9; have cc28 := (X2.out.below hlw).cells.2.2.2; go_simp; try (with_reducible rfl))
            simp only [Act.put]; try simp only [List.setIfInBounds_toArray]; try simp only [List.set_cons_zero, List.set_cons_succ]
            refine wpAnyV_take (opre_below W9.heap.size) (i := 7) (d := some 30) (v := .tuple #[p.val, .bool true]) rfl rfl (by kernel_rfl) (by kernel_rfl) (by kernel_rfl) (by kernel_rfl) (by kernel_rfl) (fun _ _ _ h => h) (by rfl) ?yac7 ?_
            case yac7 => (intro w' hw'; have hl9 : Later W9 w' := hw'; have hlw : Later W2 w' := Later.trans L29.out hl9; exact exec_lookup_held (by rfl) Tryz.int_law Tryz.underlying82 (z := PlD.zero.val) (by kernel_rfl) (HMB.out w' hlw) (int_key HI.out) (by rfl) (by rfl) HF.out)
            simp only [Act.put]; try simp only [List.setIfInBounds_toArray]; try simp only [List.set_cons_zero, List.set_cons_succ]
            refine wpAnyV_take (opre_below W9.heap.size) (i := 8) (d := some 22) (v := ?vac8) rfl rfl (by kernel_rfl) (by kernel_rfl) (by kernel_rfl) (by kernel_rfl) (by kernel_rfl) (fun _ _ _ h => h) (by rfl) ?yac8 ?_
            case yac8 => (intro w' hw'; go_simp; try (with_reducible rfl))
            simp only [Act.put]; try simp only [List.setIfInBounds_toArray]; try simp only [List.set_cons_zero, List.set_cons_succ]
            refine wpAnyV_take (opre_below W9.heap.size) (i := 9) (d := some 31) (v := ?vac9) rfl rfl (by kernel_rfl) (by kernel_rfl) (by kernel_rfl) (by kernel_rfl) (by kernel_rfl) (fun _ _ _ h => h) (by rfl) ?yac9 ?_
            case yac9 => (intro w' hw'; go_simp; try (with_reducible rfl))
            simp only [Act.put]; try simp only [List.setIfInBounds_toArray]; try simp only [List.set_cons_zero, List.set_cons_succ]
            refine wpAnyV_pure (opre_below W9.heap.size) (i := 10) (d := some 32) (v := ?vac10) rfl rfl (by kernel_rfl) (by kernel_rfl) (by kernel_rfl) (by kernel_rfl) (fun _ _ _ h => h) (by rfl) ?yac10 ?_
            case yac10 => (intro w'; go_simp; try (with_reducible rfl))
            simp only [Act.put]; try simp only [List.setIfInBounds_toArray]; try simp only [List.set_cons_zero, List.set_cons_succ]
            refine wpAnyV_only (opre_below W9.heap.size) (i := 11) rfl (by kernel_rfl) (by rfl) fun K hK => ?_
            go_simp
            obtain ⟨wa, hwa⟩ : ∃ wa, wa = W9.alloc (.cells #[.int .i64 0, .int .i64 0, .int .i64 0, .int .i64 0, .int .i64 0, .bool false, .int .i64 0, .int .i64 0, .bool false] 111 (0, 0)) := ⟨_, rfl⟩
            have ZA : Hid (PBox (y + 2) PlD.zero wa) := by rw [hwa, ← HS9.out]; exact heap_alloc_new _ _
            have L9a : Hid (Later W9 wa) := by rw [hwa]; exact (Below.refl _ _).alloc (Nat.le_refl _) _
            rw [← hwa]
            try rw [HS9.out]
            refine hK.out _ _ (Later.trans (Later.refl _) L9a.out) ?_
            clear hwa
            clear hK K
            try (simp only [Act.put]; try simp only [List.setIfInBounds_toArray]; try simp only [List.set_cons_zero, List.set_cons_succ])
            refine wpAnyV_write (i := 12) rfl rfl (by kernel_rfl) (by rfl) fun K hK => ?_
            refine wp_store_pl (p := p) _ _ (by rfl) (by rfl) ZA.out (by rfl) ?_
            intro w5 hz hg
            have X5 := hide hz
            have L95 : Hid (Later W9 w5) := (show Later W9 wa from L9a.out).grown hg (Below.size L9a.out) (fun k hk => by have := Option.some.inj hk; have := HS9.out; omega)
            refine hK.out _ _ ?_
            clear hz hg
            clear hK K
            try simp only [Act.put]
            refine wpAnyV_pure (opre_below W9.heap.size) (i := 13) (d := some 7) (v := ?vac13) rfl rfl (by kernel_rfl) (by kernel_rfl) (by kernel_rfl) (by kernel_rfl) (fun _ _ _ h => h) (by rfl) ?yac13 ?_
            case yac13 => (intro w'; go_simp; try (with_reducible rfl))
            simp only [Act.put]; try simp only [List.setIfInBounds_toArray]; try simp only [List.set_cons_zero, List.set_cons_succ]
            refine wpAnyV_done (by kernel_rfl) ?_ _
            have L25 : Hid (Later W2 w5) := Later.trans L29.out (show Later W9 w5 from L95.out)
            have L5 : Hid (Later w w5) := Later.trans (show Later w W2 from L2.out) L25.out
            have Y5 : Hid (OBox (y + 1) OpD.zero (.slice none 0 0) w5) := Y2.out.below L25.out
            have M5 : Hid (MsB y m s o i w5) := X2.out.below L25.out
            have f8 := X5.out.cells.2.2.2.2.2.2.2.2.1
            rw [HTA.out] at f8
            have CT := hide (tell_any (HB2.out.later L25.out) hk6 4)
            go_wp2_with (first
              | (refine wpList_val rfl (by rfl) (exec_load_pcom _ (by rfl) (by rfl) X5.out) ?_)
              | (refine wpList_val rfl (by rfl) (exec_load_mcom _ (by rfl) (by rfl) M5.out) ?_)
              | (refine wpList_val rfl (by rfl) (exec_neq_com p.c (comM m) _ _ _ (by rfl) (by rfl) (by rfl)) ?_; rw [HD.out])
              | (refine wpList_val rfl (by rfl) (exec_load_pl _ (by rfl) (by rfl) X5.out) ?_))
            refine CT.out.mono ?_
            rintro e w6 ⟨rfl, hb6, ht6⟩
            have B6 := hide hb6
            have T6 : Hid (Turned (fun i => i = b) w w6) := (Turned.of_below (show Later w w5 from L5.out) _).trans ht6
            have M6 : Hid (MsB y m s o i w6) := (ht6.block y (lt_of_block M5.out) (fun e => by have := HBY.out.1; omega)).trans M5.out
            have Y6 : Hid (OBox (y + 1) OpD.zero (.slice none 0 0) w6) := Y5.out.turned ht6 (by have := HBY.out.1; omega)
            have T7 : Hid (OBox w6.heap.size OpD.zero (.slice none 0 0) (w6.alloc (.cells #[.int .i64 0, .int .i64 0, .int .i64 0, .string ⟨#[]⟩, .slice none 0 0, .int .i64 0, .int .i64 0, .int .i64 0, .bool false, .bool false] 37 (0, 0)))) := heap_alloc_new _ _
            have L7a : Hid (Later w6 (w6.alloc (.cells #[.int .i64 0, .int .i64 0, .int .i64 0, .string ⟨#[]⟩, .slice none 0 0, .int .i64 0, .int .i64 0, .int .i64 0, .bool false, .bool false] 37 (0, 0)))) := (Below.refl _ _).alloc (Nat.le_refl _) _
            clear hb6 ht6 CT f8
            go_wp2_with (refine wpList_store_oop (o := opP 4 false p) (s := .slice none 0 0) (by rfl) _ _ (by rfl) (by rfl) T7.out (by rfl) (by rfl) ?_)
            intro w7 X7 G7
            have L67 : Hid (Later w6 w7) := L7a.out.grown G7 (by simp) (fun k hk => by have := Option.some.inj hk; omega)
            obtain ⟨z, hz⟩ : ∃ z, w6.heap.size = z := ⟨_, rfl⟩
            have HZ : Hid (y + 1 < z ∧ b < z ∧ g < z) := by have h1 := lt_of_block Y6.out; have h2 := B6.out.lt; rw [hz] at h1 h2; exact ⟨h1, h2.2, h2.1⟩
            rw [hz] at X7 ⊢
            have HX7 := hide X7
            have M7 : Hid (MsB y m s o i w7) := M6.out.below L67.out
            have Y7 : Hid (OBox (y + 1) OpD.zero (.slice none 0 0) w7) := Y6.out.below L67.out
            have B7 := hide (B6.out.later L67.out)
            have T7w : Hid (Turned (fun i => i = b) w w7) := T6.out.trans (Turned.of_below L67.out _)
            have e10 := M7.out.cells.2.2.1
            rw [HGD.out] at e10
            obtain ⟨q9, qf⟩ := X7.c9
            have HZW : Hid (w.heap.size ≤ z) := by have := T6.out.size; rw [hz] at this; exact this
            clear X7 G7 T7 L7a hz
            obtain ⟨w8, hw8⟩ : ∃ w8, w8 = w7.setCell ⟨z, 9, none⟩ (.bool gd) := ⟨_, rfl⟩
            have X8 : Hid (OBox z (opP 4 gd p) (.slice none 0 0) w8) := by rw [hw8]; exact OBox.hit_ HX7.out gd
            have G8 : w7.grownBy w8 (some z) := by rw [hw8]; exact grown_set _ _ _ _
            have S8 : Turned (fun i => i = z) w7 w8 := Turned.of_grown G8 (fun g e => (Option.some.inj e).symm)
            have Y8 : Hid (OBox (y + 1) OpD.zero (.slice none 0 0) w8) := Y7.out.turned S8 (by have := HZ.out; omega)
            have B8 := hide (B7.out.turned S8 (by have := HZ.out; omega) (by have := HZ.out; omega))
            have T8 : Hid (Turned (fun i => i = b) w w8) := T7w.out.onto S8 (fun i hi => .inr (by have := HZW.out; omega))
            have HW8 := hide hw8.symm
            have xe := X8.out
            rw [← HW8.out] at xe
            have XE := hide xe
            clear hw8 G8 S8 xe
            go_wp2_with (first
              | (refine wpList_val rfl (by rfl) (exec_load_oop _ (by rfl) (by rfl) XE.out) ?_; simp only [HW8.out])
              | (refine wpList_store_oop (o := opP 4 gd p) (s := .slice none 0 0) (by rfl) _ _ (by rfl) (by rfl) Y8.out (by rfl) (by rfl) ?_; intro w9 X9 G9))
            have S9 : Turned (fun i => i = y + 1) w8 w9 := Turned.of_grown G9 (fun g e => (Option.some.inj e).symm)
            have B9 := hide (B8.out.turned S9 (by have := HBY.out; omega) (by have := HBY.out; omega))
            have T9 : Hid (Turned (fun i => i = b) w w9) := T8.out.onto S9 (fun i hi => .inr (by have := HY.out; omega))
            refine bodyPost_ret (results_box2 Tryz.results23 _ _ (y + 1) 37 _ _ (by rfl) X9 Tryz.underlying37 (by rfl) (by kernel_rfl) (.bool true) (by rfl)) (by rfl) ?_
            exact ⟨rfl, B9.out, T9.out⟩
  · have hr : resF B m = none := by unfold resF; rw [if_neg (by rw [hkd]; simp [h14])]
    have k14 : (kd == 14) = false := by simp [h14]
    unfold Resulted
    rw [hr]
    simp only
    clear h hW2 hy hI hr hkd hfn
    go_enter Tryz.func23, Tryz.ntmps23
    go_wp2_with (fail)
    simp only [HW2.out, HG.out]
    refine CM.out.mono ?_
    rintro e w0 ⟨rfl, rfl⟩
    go_wp2_with (first
      | (refine wpList_build_parts (by rfl) 37 _ (by rfl) [] (by rfl) (OpD.zero.cells (.slice none 0 0)).toArray (by kernel_rfl) ?_)
      | (refine wpList_store_oop (o := OpD.zero) (s := .slice none 0 0) (by rfl) _ _ (by rfl) (by rfl) Y2.out (by rfl) (by rfl) ?_; intro w7 X7 G7))
    have HLF : Hid (Later w w7) := (show Later w W2 from L2.out).grown G7 (Below.size L2.out) (fun k hk => by have := Option.some.inj hk; have := HY.out; omega)
    refine bodyPost_ret (results_box2 Tryz.results23 _ _ (y + 1) 37 _ _ (by rfl) X7 Tryz.underlying37 (by rfl) (by kernel_rfl) (.bool false) (by rfl)) (by rfl) ?_
    exact ⟨rfl, HLF.out⟩
end
end Go.Proofs.YtdkiopajilakcaaGreat
/- Apply of package book, whatever the operation. -/
namespace Go.Proofs.YtdkiopajilakcaaGreat
open Go.RowKit Go.Maps
theorem isIt_wants {l : List StepD} {s : SagaD} {step tr : Int} {back : Bool} (h : isIt l s step tr back = true) : wantsB l s = true := by
  unfold isIt at h
  simp only [Bool.and_eq_true] at h
  exact h.1
theorem want_range {l : List StepD} {s : SagaD} (h : wantsB l s = true) : 0 ≤ s.step ∧ s.step ≤ 8 ∧ l.length ≤ 8 := by
  obtain ⟨he, p1, p2, p3, _⟩ := wants_parts h
  have h8 := (check_good he).1
  exact ⟨by omega, by omega, h8⟩
theorem reportE_step {l : List StepD} {s : SagaD} (back good : Bool) (h : wantsB l s = true) : 0 ≤ (reportE l s back good).step ∧ (reportE l s back good).step ≤ 9 := by
  obtain ⟨h0, h1, h8⟩ := want_range h
  unfold reportE
  split
  · split
    · have := downS_step l (s.hitN false)
      omega
    · unfold nextS
      split
      · exact ⟨by show (0 : Int) ≤ 0; omega, by show (0 : Int) ≤ 9; omega⟩
      · exact ⟨by show 0 ≤ s.step + 1; omega, by show s.step + 1 ≤ 9; omega⟩
  · exact missedS_step h0 h1 h8
theorem lapseE_step {l : List StepD} {s : SagaD} (h : wantsB l s = true) : 0 ≤ (lapseE l s).step ∧ (lapseE l s).step ≤ 9 := by
  obtain ⟨h0, h1, h8⟩ := want_range h
  exact missedS_step (s := s.hitN true) h0 h1 h8
theorem reportV_step {l : List StepD} {s : SagaD} {step tr : Int} {back good : Bool} (h : (reportV step tr back good l s).2 = 0) : 0 ≤ (reportV step tr back good l s).1.step ∧ (reportV step tr back good l s).1.step ≤ 9 := by
  unfold reportV at h ⊢
  split
  · rename_i hi
    exact reportE_step back good (isIt_wants hi)
  · rename_i hi
    rw [if_neg hi] at h
    exact absurd h (by decide)
theorem lapseV_step {l : List StepD} {s : SagaD} {step tr : Int} {back : Bool} (h : (lapseV step tr back l s).2 = 0) : 0 ≤ (lapseV step tr back l s).1.step ∧ (lapseV step tr back l s).1.step ≤ 9 := by
  unfold lapseV at h ⊢
  split
  · rename_i hi
    exact lapseE_step (isIt_wants hi)
  · rename_i hi
    rw [if_neg hi] at h
    exact absurd h (by decide)
theorem cancelV_step {l : List StepD} {s : SagaD} (h : (cancelF l s).2 = 0) : 0 ≤ (cancelF l s).1.step ∧ (cancelF l s).1.step ≤ 9 := by
  by_cases hg : goodF l s = true
  · by_cases h2 : s.st = 2
    · have hw : wantsB l s = true := by unfold wantsB; rw [hg]; simp [h2]
      obtain ⟨h0, h1, h8⟩ := want_range hw
      exact cancel_step h0 h1 h8
    · by_cases h1 : s.st = 1
      · have hw : wantsB l s = true := by unfold wantsB; rw [hg]; simp [h1]
        obtain ⟨h0, h1, h8⟩ := want_range hw
        exact cancel_step h0 h1 h8
      · exfalso
        unfold cancelF at h
        have hb : lateB l s = true := by unfold lateB; simp [h1]
        rw [if_pos hg, if_neg h2, if_pos hb] at h
        exact absurd h (by decide)
  · exfalso
    unfold cancelF at h
    rw [if_neg hg] at h
    exact absurd (show (2 : Int) = 0 from h) (by decide)
section
variable {F : Nat → Prop} {w : World} {g b k : Nat} {most : Int} {t : BkS}
/-- An event, whatever it says. -/
theorem behind_any (h : BookAt F w g b k most t) (hk : k ≤ 1000000) {id : Int} (hid : I64 id) (gf : Nat) (cb : Array Value) (ev : List StepD → SagaD → SagaD × Int)
    (eg : ∀ args w, (callFunc gf args).run Tryz.prog w = .ok (.enter gf args) w)
    (hc : ∀ x ∈ t.L, ∀ W, Later w W → ∀ (q : Option Addr) (n c : Nat), StepsAt F W (.slice q n c) x.l → Calls Tryz.prog gf (#[(x.s.withV q n c).val] ++ cb) W (EvT (ev x.l x.s) x.l W))
    (hst : ∀ x ∈ t.L, (ev x.l x.s).2 = 0 → 0 ≤ (ev x.l x.s).1.step ∧ (ev x.l x.s).1.step ≤ 9) (hF : ∀ i, w.heap.size ≤ i → F i) :
    Calls Tryz.prog 35 #[.pointer (some ⟨g, 0, none⟩), .int .i64 id, .func (.func gf) #[] cb] w (Did F g b (k + 1) most (eventR ev t id) (eventS ev t id) w) := by
  unfold eventR eventS
  cases hx : entAt t.L id with
  | none => exact behind_none h hid hx gf cb
  | some x =>
    have hm := (entAt_mem hx).1
    by_cases he : (ev x.l x.s).2 = 0
    · simp only [he, ne_eq, not_true_eq_false, if_false]
      exact behind_ok h hid hx gf cb ev eg (hc x hm) hk he (hst x hm he) hF
    · simp only [he, ne_eq, not_false_eq_true, if_true]
      exact behind_bad h hid hx gf cb ev eg (hc x hm) he
theorem enters_rep : ∀ args w, (callFunc 38 args).run Tryz.prog w = .ok (.enter 38 args) w := enters_of Tryz.func38 (by kernel_rfl) rfl
theorem enters_lap : ∀ args w, (callFunc 41 args).run Tryz.prog w = .ok (.enter 41 args) w := enters_of Tryz.func41 (by kernel_rfl) rfl
theorem enters_can : ∀ args w, (callFunc 36 args).run Tryz.prog w = .ok (.enter 36 args) w := enters_of Tryz.func36 (by kernel_rfl) rfl
theorem can_is {x : Ent} (hx : EntOk x) {q : Option Addr} {n c : Nat} {F0 : Nat → Prop} (h : StepsAt F0 w (.slice q n c) x.l) : Calls Tryz.prog 36 (#[(x.s.withV q n c).val] ++ #[]) w (EvT (cancelF x.l x.s) x.l w) := by
  have hh := cancel_any (s := x.s.withV q n c) h (by have := hx.2.1; omega) hx.1 (show I64 x.s.step from ⟨by have := hx.2.2.1.1; omega, by have := hx.2.2.1.2; omega⟩)
  refine hh.mono ?_
  rintro e w' ⟨p, m, d, rfl, hs, hl⟩
  obtain ⟨e1, e2⟩ := cancelF_withV x.l x.s q p n c m d
  refine ⟨p, m, d, by rw [e1, e2], fun h0 => ?_, hl⟩
  have : cancelL x.l (x.s.withV q n c) = x.l := by
    unfold cancelL
    rw [if_neg (by rw [e2, h0]; decide)]
  rw [this] at hs
  exact hs
theorem rep_is {x : Ent} (hx : EntOk x) {q : Option Addr} {n c : Nat} {F0 : Nat → Prop} (h : StepsAt F0 w (.slice q n c) x.l) {y : Nat} {o : OpD} {sv : Value} (ho : OBox y o sv w) :
    Calls Tryz.prog 38 (#[(x.s.withV q n c).val] ++ #[.pointer (some ⟨y, 0, none⟩)]) w (EvT (reportV o.step o.try_ o.back o.good x.l x.s) x.l w) := by
  have h6 : x.l.length ≤ 1000000 := by have := hx.2.1; omega
  have h1 : I64 x.s.step := ⟨by have := hx.2.2.1.1; omega, by have := hx.2.2.1.2; omega⟩
  unfold reportV
  cases hi : isIt x.l x.s o.step o.try_ o.back with
  | true =>
    rw [if_pos rfl]
    refine (rep_ev_yes (s := x.s.withV q n c) h h6 hx.1 h1 ho hi).mono ?_
    rintro e w' ⟨p, m, d, rfl, hs, hl⟩
    exact ⟨p, m, d, by rw [reportE_withV, withV_twice], fun _ => hs, hl⟩
  | false =>
    rw [if_neg (by simp)]
    refine (rep_ev_no (s := x.s.withV q n c) h h6 hx.1 h1 ho hi).mono ?_
    rintro e w' ⟨p, m, d, rfl, hs, hl⟩
    exact ⟨none, 0, 0, rfl, fun h => absurd h (by decide), hl⟩
theorem lap_is {x : Ent} (hx : EntOk x) {q : Option Addr} {n c : Nat} {F0 : Nat → Prop} (h : StepsAt F0 w (.slice q n c) x.l) {y : Nat} {o : OpD} {sv : Value} (ho : OBox y o sv w) :
    Calls Tryz.prog 41 (#[(x.s.withV q n c).val] ++ #[.pointer (some ⟨y, 0, none⟩)]) w (EvT (lapseV o.step o.try_ o.back x.l x.s) x.l w) := by
  have h6 : x.l.length ≤ 1000000 := by have := hx.2.1; omega
  have h1 : I64 x.s.step := ⟨by have := hx.2.2.1.1; omega, by have := hx.2.2.1.2; omega⟩
  unfold lapseV
  cases hi : isIt x.l x.s o.step o.try_ o.back with
  | true =>
    rw [if_pos rfl]
    refine (lap_ev_yes (s := x.s.withV q n c) h h6 hx.1 h1 ho hi).mono ?_
    rintro e w' ⟨p, m, d, rfl, hs, hl⟩
    exact ⟨p, m, d, by rw [lapseE_withV, withV_twice], fun _ => hs, hl⟩
  | false =>
    rw [if_neg (by simp)]
    refine (lap_ev_no (s := x.s.withV q n c) h h6 hx.1 h1 ho hi).mono ?_
    rintro e w' ⟨p, m, d, rfl, hs, hl⟩
    exact ⟨none, 0, 0, rfl, fun h => absurd h (by decide), hl⟩
set_option maxHeartbeats 4000000 in
set_option maxRecDepth 100000 in
theorem apply_0 {F0 : Nat → Prop} {o : OpD} {A : Option Addr} {n c : Nat} (h : BookAt F w g b k most t) (_hk : k ≤ 1000000) (_hn : t.L.length ≤ 1000000) (hst : StepsAt F0 w (.slice A n c) o.steps) (_hw : o.wf) (_hla : t.last < 4611686018427387904) (hF : ∀ i, w.heap.size ≤ i → F i) (hkd : o.kind = 0) :
    Calls Tryz.prog 14 #[.pointer (some ⟨g, 0, none⟩), .agg (o.cells (.slice A n c)).toArray] w (Did F g b (k + 1) most (errR 0) (t) w) := by
  have hlt := h.lt
  obtain ⟨W1, hW1⟩ : ∃ W1, W1 = (w.alloc (.cells (o.cells (.slice A n c)).toArray 37 (0, 0))).alloc (.cells #[.int .i64 0, .int .i64 0, .int .i64 0, .int .i64 0] 40 (0, 0)) := ⟨_, rfl⟩
  obtain ⟨d, hd⟩ : ∃ d, d = w.heap.size := ⟨_, rfl⟩
  have X1 : Hid (OBox d o (.slice A n c) W1) := by rw [hW1, hd]; exact (heap_alloc_old _ _ (by simp)).trans (heap_alloc_new _ _)
  have Y1 : Hid (RBox (d + 1) (errR 0) W1) := by rw [hW1, hd]; exact heap_second _ _ _
  have L1 : Hid (Later w W1) := by rw [hW1]; exact ((Below.refl _ _).alloc (Nat.le_refl _) _).alloc (by simp) _
  have HYG : Hid (g < d + 1 ∧ b < d + 1) := by rw [hd]; exact ⟨by omega, by omega⟩
  have HY : Hid (w.heap.size ≤ d + 1) := by rw [hd]; exact Nat.le_succ _
  have HYW : Hid (d + 1 < W1.heap.size) := lt_of_block Y1.out
  have h1 : BookAt (fun i => F i ∧ i ≠ d + 1) W1 g b k most t := (h.mono (G := fun i => F i ∧ i ≠ d + 1) (fun i hi hf => ⟨hf, by omega⟩) (fun e => h.apart.2.1 e.1) (fun e => h.apart.2.2 e.1)).later L1.out
  have hF1 : ∀ i, W1.heap.size ≤ i → F i ∧ i ≠ d + 1 := fun i hi => by
    have a1 := Below.size L1.out
    have a2 := HYW.out
    exact ⟨hF i (by omega), by omega⟩
  have H1 := hide h1
  have HA := hide h.apart
  have hst1 := StepsAt.kept hst (Kept.of_below L1.out _)
  have CM := hide (made_yes h1)
  obtain ⟨a0, a3, a4, a5, a6, a7, a8, a9⟩ := X1.out.at_
  clear a6 a7 a8 a9
  rw [hkd] at a0
  clear hkd
  clear a3 a4 a5
  have HW1 := hide hW1.symm
  have HG := hide hd.symm
  clear h _hk _hn hst hst1 _hw _hla hF hF1 hW1 hd h1 hlt
  go_enter Tryz.func14, Tryz.ntmps14
  go_wp2_with (fail)
  simp only [HW1.out, HG.out]
  refine CM.out.mono ?_
  rintro e w2 ⟨rfl, rfl⟩
  go_wp2_with (refine wpList_store_rep (r := errR 0) (by rfl) _ _ (by rfl) (by rfl) Y1.out (by rfl) ?_)
  intro w9 Z9 G9
  have HZ := hide Z9
  have T9 : Hid (Turned (fun i => i = d + 1) W1 w9) := Turned.of_grown G9 (fun g e => (Option.some.inj e).symm)
  clear Z9 G9
  go_wp2
  refine bodyPost_ret (results_cell_row Tryz.results14 _ _ (d + 1) 40 _ (0, 0) _ (by rfl) HZ.out Tryz.underlying40 (by rfl) (by kernel_rfl)) (by rfl) ?_
  have B9 := (H1.out).turned T9.out (by have := HYG.out; omega) (by have := HYG.out; omega) (fun i hi => hi.2)
  exact ⟨rfl, (B9.mono (fun i _ hf => hf.1) HA.out.2.1 HA.out.2.2).more (by omega), (Turned.of_below L1.out _).onto T9.out (fun i hi => .inr (by have := HY.out; omega))⟩
set_option maxHeartbeats 4000000 in
set_option maxRecDepth 100000 in
theorem apply_1 {F0 : Nat → Prop} {o : OpD} {A : Option Addr} {n c : Nat} (h : BookAt F w g b k most t) (_hk : k ≤ 1000000) (_hn : t.L.length ≤ 1000000) (hst : StepsAt F0 w (.slice A n c) o.steps) (_hw : o.wf) (_hla : t.last < 4611686018427387904) (hF : ∀ i, w.heap.size ≤ i → F i) (hkd : o.kind = 1) :
    Calls Tryz.prog 14 #[.pointer (some ⟨g, 0, none⟩), .agg (o.cells (.slice A n c)).toArray] w (Did F g b (k + 1) most (startR most t o.name o.steps) (startS most t o.name o.steps) w) := by
  have hlt := h.lt
  obtain ⟨W1, hW1⟩ : ∃ W1, W1 = (w.alloc (.cells (o.cells (.slice A n c)).toArray 37 (0, 0))).alloc (.cells #[.int .i64 0, .int .i64 0, .int .i64 0, .int .i64 0] 40 (0, 0)) := ⟨_, rfl⟩
  obtain ⟨d, hd⟩ : ∃ d, d = w.heap.size := ⟨_, rfl⟩
  have X1 : Hid (OBox d o (.slice A n c) W1) := by rw [hW1, hd]; exact (heap_alloc_old _ _ (by simp)).trans (heap_alloc_new _ _)
  have Y1 : Hid (RBox (d + 1) (errR 0) W1) := by rw [hW1, hd]; exact heap_second _ _ _
  have L1 : Hid (Later w W1) := by rw [hW1]; exact ((Below.refl _ _).alloc (Nat.le_refl _) _).alloc (by simp) _
  have HYG : Hid (g < d + 1 ∧ b < d + 1) := by rw [hd]; exact ⟨by omega, by omega⟩
  have HY : Hid (w.heap.size ≤ d + 1) := by rw [hd]; exact Nat.le_succ _
  have HYW : Hid (d + 1 < W1.heap.size) := lt_of_block Y1.out
  have h1 : BookAt (fun i => F i ∧ i ≠ d + 1) W1 g b k most t := (h.mono (G := fun i => F i ∧ i ≠ d + 1) (fun i hi hf => ⟨hf, by omega⟩) (fun e => h.apart.2.1 e.1) (fun e => h.apart.2.2 e.1)).later L1.out
  have hF1 : ∀ i, W1.heap.size ≤ i → F i ∧ i ≠ d + 1 := fun i hi => by
    have a1 := Below.size L1.out
    have a2 := HYW.out
    exact ⟨hF i (by omega), by omega⟩
  have H1 := hide h1
  have HA := hide h.apart
  have hst1 := StepsAt.kept hst (Kept.of_below L1.out _)
  have CM := hide (made_yes h1)
  obtain ⟨a0, a3, a4, a5, a6, a7, a8, a9⟩ := X1.out.at_
  clear a6 a7 a8 a9
  rw [hkd] at a0
  clear hkd
  have C := hide (start_any (name := o.name) h1 _hk _hn hst1 _hw.2.2.2.2.1 _hla hF1)
  obtain ⟨r9, hr9⟩ : ∃ r9, startR most t o.name o.steps = r9 := ⟨_, rfl⟩
  rw [hr9] at C ⊢
  obtain ⟨t9, ht9⟩ : ∃ t9, startS most t o.name o.steps = t9 := ⟨_, rfl⟩
  rw [ht9] at C ⊢
  clear hr9 ht9
  generalize o.name = nm at a3 C
  generalize o.saga = sg at a5
  clear a5
  have HW1 := hide hW1.symm
  have HG := hide hd.symm
  clear h _hk _hn hst hst1 _hw _hla hF hF1 hW1 hd h1 hlt
  go_enter Tryz.func14, Tryz.ntmps14
  go_wp2_with (fail)
  simp only [HW1.out, HG.out]
  refine CM.out.mono ?_
  rintro e w2 ⟨rfl, rfl⟩
  go_wp2_with (fail)
  refine C.out.mono ?_
  rintro e w3 ⟨rfl, hb3, ht3⟩
  have T3 := hide ht3
  have H3 := hide hb3
  clear hb3 ht3 C
  have Y3 : Hid (RBox (d + 1) (errR 0) w3) := Y1.out.turned T3.out (by have := HYG.out; omega)
  go_wp2_with (refine wpList_store_rep (r := r9) (by rfl) _ _ (by rfl) (by rfl) Y3.out (by rfl) ?_)
  intro w9 Z9 G9
  have HZ := hide Z9
  have T9 : Hid (Turned (fun i => i = d + 1) w3 w9) := Turned.of_grown G9 (fun g e => (Option.some.inj e).symm)
  clear Z9 G9
  go_wp2
  refine bodyPost_ret (results_cell_row Tryz.results14 _ _ (d + 1) 40 _ (0, 0) _ (by rfl) HZ.out Tryz.underlying40 (by rfl) (by kernel_rfl)) (by rfl) ?_
  have B9 := (H3.out).turned T9.out (by have := HYG.out; omega) (by have := HYG.out; omega) (fun i hi => hi.2)
  have La : Turned (fun i => i = g ∨ i = b) w W1 := Turned.of_below L1.out _
  exact ⟨rfl, B9.mono (fun i _ hf => hf.1) HA.out.2.1 HA.out.2.2, (La.trans T3.out).onto T9.out (fun i hi => .inr (by have := HY.out; omega))⟩
set_option maxHeartbeats 4000000 in
set_option maxRecDepth 100000 in
theorem apply_2 {F0 : Nat → Prop} {o : OpD} {A : Option Addr} {n c : Nat} (h : BookAt F w g b k most t) (_hk : k ≤ 1000000) (_hn : t.L.length ≤ 1000000) (hst : StepsAt F0 w (.slice A n c) o.steps) (_hw : o.wf) (_hla : t.last < 4611686018427387904) (hF : ∀ i, w.heap.size ≤ i → F i) (hkd : o.kind = 2) :
    Calls Tryz.prog 14 #[.pointer (some ⟨g, 0, none⟩), .agg (o.cells (.slice A n c)).toArray] w (Did F g b (k + 1) most (eventR cancelF t o.saga) (eventS cancelF t o.saga) w) := by
  have hlt := h.lt
  obtain ⟨W1, hW1⟩ : ∃ W1, W1 = (w.alloc (.cells (o.cells (.slice A n c)).toArray 37 (0, 0))).alloc (.cells #[.int .i64 0, .int .i64 0, .int .i64 0, .int .i64 0] 40 (0, 0)) := ⟨_, rfl⟩
  obtain ⟨d, hd⟩ : ∃ d, d = w.heap.size := ⟨_, rfl⟩
  have X1 : Hid (OBox d o (.slice A n c) W1) := by rw [hW1, hd]; exact (heap_alloc_old _ _ (by simp)).trans (heap_alloc_new _ _)
  have Y1 : Hid (RBox (d + 1) (errR 0) W1) := by rw [hW1, hd]; exact heap_second _ _ _
  have L1 : Hid (Later w W1) := by rw [hW1]; exact ((Below.refl _ _).alloc (Nat.le_refl _) _).alloc (by simp) _
  have HYG : Hid (g < d + 1 ∧ b < d + 1) := by rw [hd]; exact ⟨by omega, by omega⟩
  have HY : Hid (w.heap.size ≤ d + 1) := by rw [hd]; exact Nat.le_succ _
  have HYW : Hid (d + 1 < W1.heap.size) := lt_of_block Y1.out
  have h1 : BookAt (fun i => F i ∧ i ≠ d + 1) W1 g b k most t := (h.mono (G := fun i => F i ∧ i ≠ d + 1) (fun i hi hf => ⟨hf, by omega⟩) (fun e => h.apart.2.1 e.1) (fun e => h.apart.2.2 e.1)).later L1.out
  have hF1 : ∀ i, W1.heap.size ≤ i → F i ∧ i ≠ d + 1 := fun i hi => by
    have a1 := Below.size L1.out
    have a2 := HYW.out
    exact ⟨hF i (by omega), by omega⟩
  have H1 := hide h1
  have HA := hide h.apart
  have hst1 := StepsAt.kept hst (Kept.of_below L1.out _)
  have CM := hide (made_yes h1)
  obtain ⟨a0, a3, a4, a5, a6, a7, a8, a9⟩ := X1.out.at_
  clear a6 a7 a8 a9
  rw [hkd] at a0
  clear hkd
  have C := hide (behind_any h1 _hk _hw.2.2.2.2.2.1 36 #[] cancelF enters_can (fun x hx W hW q n c hq => can_is (h1.ok.2.1 x hx).1 hq) (fun x _ he => cancelV_step he) hF1)
  obtain ⟨r9, hr9⟩ : ∃ r9, eventR cancelF t o.saga = r9 := ⟨_, rfl⟩
  rw [hr9] at C ⊢
  obtain ⟨t9, ht9⟩ : ∃ t9, eventS cancelF t o.saga = t9 := ⟨_, rfl⟩
  rw [ht9] at C ⊢
  clear hr9 ht9
  generalize o.name = nm at a3
  generalize o.saga = sg at a5 C
  clear a3 a4
  have HW1 := hide hW1.symm
  have HG := hide hd.symm
  clear h _hk _hn hst hst1 _hw _hla hF hF1 hW1 hd h1 hlt
  go_enter Tryz.func14, Tryz.ntmps14
  go_wp2_with (fail)
  simp only [HW1.out, HG.out]
  refine CM.out.mono ?_
  rintro e w2 ⟨rfl, rfl⟩
  go_wp2_with (fail)
  refine C.out.mono ?_
  rintro e w3 ⟨rfl, hb3, ht3⟩
  have T3 := hide ht3
  have H3 := hide hb3
  clear hb3 ht3 C
  have Y3 : Hid (RBox (d + 1) (errR 0) w3) := Y1.out.turned T3.out (by have := HYG.out; omega)
  go_wp2_with (refine wpList_store_rep (r := r9) (by rfl) _ _ (by rfl) (by rfl) Y3.out (by rfl) ?_)
  intro w9 Z9 G9
  have HZ := hide Z9
  have T9 : Hid (Turned (fun i => i = d + 1) w3 w9) := Turned.of_grown G9 (fun g e => (Option.some.inj e).symm)
  clear Z9 G9
  go_wp2
  refine bodyPost_ret (results_cell_row Tryz.results14 _ _ (d + 1) 40 _ (0, 0) _ (by rfl) HZ.out Tryz.underlying40 (by rfl) (by kernel_rfl)) (by rfl) ?_
  have B9 := (H3.out).turned T9.out (by have := HYG.out; omega) (by have := HYG.out; omega) (fun i hi => hi.2)
  have La : Turned (fun i => i = g ∨ i = b) w W1 := Turned.of_below L1.out _
  exact ⟨rfl, B9.mono (fun i _ hf => hf.1) HA.out.2.1 HA.out.2.2, (La.trans T3.out).onto T9.out (fun i hi => .inr (by have := HY.out; omega))⟩
set_option maxHeartbeats 4000000 in
set_option maxRecDepth 100000 in
theorem apply_3 {F0 : Nat → Prop} {o : OpD} {A : Option Addr} {n c : Nat} (h : BookAt F w g b k most t) (_hk : k ≤ 1000000) (_hn : t.L.length ≤ 1000000) (hst : StepsAt F0 w (.slice A n c) o.steps) (_hw : o.wf) (_hla : t.last < 4611686018427387904) (hF : ∀ i, w.heap.size ≤ i → F i) (hkd : o.kind = 3) :
    Calls Tryz.prog 14 #[.pointer (some ⟨g, 0, none⟩), .agg (o.cells (.slice A n c)).toArray] w (Did F g b (k + 1) most (statusF t.L o.saga) (t) w) := by
  have hlt := h.lt
  obtain ⟨W1, hW1⟩ : ∃ W1, W1 = (w.alloc (.cells (o.cells (.slice A n c)).toArray 37 (0, 0))).alloc (.cells #[.int .i64 0, .int .i64 0, .int .i64 0, .int .i64 0] 40 (0, 0)) := ⟨_, rfl⟩
  obtain ⟨d, hd⟩ : ∃ d, d = w.heap.size := ⟨_, rfl⟩
  have X1 : Hid (OBox d o (.slice A n c) W1) := by rw [hW1, hd]; exact (heap_alloc_old _ _ (by simp)).trans (heap_alloc_new _ _)
  have Y1 : Hid (RBox (d + 1) (errR 0) W1) := by rw [hW1, hd]; exact heap_second _ _ _
  have L1 : Hid (Later w W1) := by rw [hW1]; exact ((Below.refl _ _).alloc (Nat.le_refl _) _).alloc (by simp) _
  have HYG : Hid (g < d + 1 ∧ b < d + 1) := by rw [hd]; exact ⟨by omega, by omega⟩
  have HY : Hid (w.heap.size ≤ d + 1) := by rw [hd]; exact Nat.le_succ _
  have HYW : Hid (d + 1 < W1.heap.size) := lt_of_block Y1.out
  have h1 : BookAt (fun i => F i ∧ i ≠ d + 1) W1 g b k most t := (h.mono (G := fun i => F i ∧ i ≠ d + 1) (fun i hi hf => ⟨hf, by omega⟩) (fun e => h.apart.2.1 e.1) (fun e => h.apart.2.2 e.1)).later L1.out
  have hF1 : ∀ i, W1.heap.size ≤ i → F i ∧ i ≠ d + 1 := fun i hi => by
    have a1 := Below.size L1.out
    have a2 := HYW.out
    exact ⟨hF i (by omega), by omega⟩
  have H1 := hide h1
  have HA := hide h.apart
  have hst1 := StepsAt.kept hst (Kept.of_below L1.out _)
  have CM := hide (made_yes h1)
  obtain ⟨a0, a3, a4, a5, a6, a7, a8, a9⟩ := X1.out.at_
  clear a6 a7 a8 a9
  rw [hkd] at a0
  clear hkd
  have C := hide (status_any h1 _hw.2.2.2.2.2.1)
  obtain ⟨r9, hr9⟩ : ∃ r9, statusF t.L o.saga = r9 := ⟨_, rfl⟩
  rw [hr9] at C ⊢
  clear hr9
  generalize o.name = nm at a3
  generalize o.saga = sg at a5 C
  clear a3 a4
  have HW1 := hide hW1.symm
  have HG := hide hd.symm
  clear h _hk _hn hst hst1 _hw _hla hF hF1 hW1 hd h1 hlt
  go_enter Tryz.func14, Tryz.ntmps14
  go_wp2_with (fail)
  simp only [HW1.out, HG.out]
  refine CM.out.mono ?_
  rintro e w2 ⟨rfl, rfl⟩
  go_wp2_with (fail)
  refine C.out.mono ?_
  rintro e w3 ⟨rfl, hl3⟩
  have T3 : Hid (Turned (fun i => i = g ∨ i = b) W1 w3) := Turned.of_below hl3 _
  have H3 : Hid (BookAt (fun i => F i ∧ i ≠ d + 1) w3 g b (k + 1) most t) := (H1.out.later hl3).more (by omega)
  clear hl3 C
  have Y3 : Hid (RBox (d + 1) (errR 0) w3) := Y1.out.turned T3.out (by have := HYG.out; omega)
  go_wp2_with (refine wpList_store_rep (r := r9) (by rfl) _ _ (by rfl) (by rfl) Y3.out (by rfl) ?_)
  intro w9 Z9 G9
  have HZ := hide Z9
  have T9 : Hid (Turned (fun i => i = d + 1) w3 w9) := Turned.of_grown G9 (fun g e => (Option.some.inj e).symm)
  clear Z9 G9
  go_wp2
  refine bodyPost_ret (results_cell_row Tryz.results14 _ _ (d + 1) 40 _ (0, 0) _ (by rfl) HZ.out Tryz.underlying40 (by rfl) (by kernel_rfl)) (by rfl) ?_
  have B9 := (H3.out).turned T9.out (by have := HYG.out; omega) (by have := HYG.out; omega) (fun i hi => hi.2)
  have La : Turned (fun i => i = g ∨ i = b) w W1 := Turned.of_below L1.out _
  exact ⟨rfl, B9.mono (fun i _ hf => hf.1) HA.out.2.1 HA.out.2.2, (La.trans T3.out).onto T9.out (fun i hi => .inr (by have := HY.out; omega))⟩
set_option maxHeartbeats 4000000 in
set_option maxRecDepth 100000 in
theorem apply_4 {F0 : Nat → Prop} {o : OpD} {A : Option Addr} {n c : Nat} (h : BookAt F w g b k most t) (_hk : k ≤ 1000000) (_hn : t.L.length ≤ 1000000) (hst : StepsAt F0 w (.slice A n c) o.steps) (_hw : o.wf) (_hla : t.last < 4611686018427387904) (hF : ∀ i, w.heap.size ≤ i → F i) (hkd : o.kind = 4) :
    Calls Tryz.prog 14 #[.pointer (some ⟨g, 0, none⟩), .agg (o.cells (.slice A n c)).toArray] w (Did F g b (k + 1) most (eventR (reportV o.step o.try_ o.back o.good) t o.saga) (eventS (reportV o.step o.try_ o.back o.good) t o.saga) w) := by
  have hlt := h.lt
  obtain ⟨W1, hW1⟩ : ∃ W1, W1 = (w.alloc (.cells (o.cells (.slice A n c)).toArray 37 (0, 0))).alloc (.cells #[.int .i64 0, .int .i64 0, .int .i64 0, .int .i64 0] 40 (0, 0)) := ⟨_, rfl⟩
  obtain ⟨d, hd⟩ : ∃ d, d = w.heap.size := ⟨_, rfl⟩
  have X1 : Hid (OBox d o (.slice A n c) W1) := by rw [hW1, hd]; exact (heap_alloc_old _ _ (by simp)).trans (heap_alloc_new _ _)
  have Y1 : Hid (RBox (d + 1) (errR 0) W1) := by rw [hW1, hd]; exact heap_second _ _ _
  have L1 : Hid (Later w W1) := by rw [hW1]; exact ((Below.refl _ _).alloc (Nat.le_refl _) _).alloc (by simp) _
  have HYG : Hid (g < d + 1 ∧ b < d + 1) := by rw [hd]; exact ⟨by omega, by omega⟩
  have HY : Hid (w.heap.size ≤ d + 1) := by rw [hd]; exact Nat.le_succ _
  have HYW : Hid (d + 1 < W1.heap.size) := lt_of_block Y1.out
  have h1 : BookAt (fun i => F i ∧ i ≠ d + 1) W1 g b k most t := (h.mono (G := fun i => F i ∧ i ≠ d + 1) (fun i hi hf => ⟨hf, by omega⟩) (fun e => h.apart.2.1 e.1) (fun e => h.apart.2.2 e.1)).later L1.out
  have hF1 : ∀ i, W1.heap.size ≤ i → F i ∧ i ≠ d + 1 := fun i hi => by
    have a1 := Below.size L1.out
    have a2 := HYW.out
    exact ⟨hF i (by omega), by omega⟩
  have H1 := hide h1
  have HA := hide h.apart
  have hst1 := StepsAt.kept hst (Kept.of_below L1.out _)
  have CM := hide (made_yes h1)
  obtain ⟨a0, a3, a4, a5, a6, a7, a8, a9⟩ := X1.out.at_
  clear a6 a7 a8 a9
  rw [hkd] at a0
  clear hkd
  have C := hide (behind_any h1 _hk _hw.2.2.2.2.2.1 38 #[.pointer (some ⟨d, 0, none⟩)] (reportV o.step o.try_ o.back o.good) enters_rep (fun x hx W hW q n c hq => rep_is (h1.ok.2.1 x hx).1 hq (X1.out.below hW)) (fun x _ he => reportV_step he) hF1)
  obtain ⟨r9, hr9⟩ : ∃ r9, eventR (reportV o.step o.try_ o.back o.good) t o.saga = r9 := ⟨_, rfl⟩
  rw [hr9] at C ⊢
  obtain ⟨t9, ht9⟩ : ∃ t9, eventS (reportV o.step o.try_ o.back o.good) t o.saga = t9 := ⟨_, rfl⟩
  rw [ht9] at C ⊢
  clear hr9 ht9
  generalize o.name = nm at a3
  generalize o.saga = sg at a5 C
  clear a3 a4
  have HW1 := hide hW1.symm
  have HG := hide hd.symm
  clear h _hk _hn hst hst1 _hw _hla hF hF1 hW1 hd h1 hlt
  go_enter Tryz.func14, Tryz.ntmps14
  go_wp2_with (fail)
  simp only [HW1.out, HG.out]
  refine CM.out.mono ?_
  rintro e w2 ⟨rfl, rfl⟩
  go_wp2_with (fail)
  refine C.out.mono ?_
  rintro e w3 ⟨rfl, hb3, ht3⟩
  have T3 := hide ht3
  have H3 := hide hb3
  clear hb3 ht3 C
  have Y3 : Hid (RBox (d + 1) (errR 0) w3) := Y1.out.turned T3.out (by have := HYG.out; omega)
  go_wp2_with (refine wpList_store_rep (r := r9) (by rfl) _ _ (by rfl) (by rfl) Y3.out (by rfl) ?_)
  intro w9 Z9 G9
  have HZ := hide Z9
  have T9 : Hid (Turned (fun i => i = d + 1) w3 w9) := Turned.of_grown G9 (fun g e => (Option.some.inj e).symm)
  clear Z9 G9
  go_wp2
  refine bodyPost_ret (results_cell_row Tryz.results14 _ _ (d + 1) 40 _ (0, 0) _ (by rfl) HZ.out Tryz.underlying40 (by rfl) (by kernel_rfl)) (by rfl) ?_
  have B9 := (H3.out).turned T9.out (by have := HYG.out; omega) (by have := HYG.out; omega) (fun i hi => hi.2)
  have La : Turned (fun i => i = g ∨ i = b) w W1 := Turned.of_below L1.out _
  exact ⟨rfl, B9.mono (fun i _ hf => hf.1) HA.out.2.1 HA.out.2.2, (La.trans T3.out).onto T9.out (fun i hi => .inr (by have := HY.out; omega))⟩
set_option maxHeartbeats 4000000 in
set_option maxRecDepth 100000 in
theorem apply_5 {F0 : Nat → Prop} {o : OpD} {A : Option Addr} {n c : Nat} (h : BookAt F w g b k most t) (_hk : k ≤ 1000000) (_hn : t.L.length ≤ 1000000) (hst : StepsAt F0 w (.slice A n c) o.steps) (_hw : o.wf) (_hla : t.last < 4611686018427387904) (hF : ∀ i, w.heap.size ≤ i → F i) (hkd : o.kind = 5) :
    Calls Tryz.prog 14 #[.pointer (some ⟨g, 0, none⟩), .agg (o.cells (.slice A n c)).toArray] w (Did F g b (k + 1) most (eventR (lapseV o.step o.try_ o.back) t o.saga) (eventS (lapseV o.step o.try_ o.back) t o.saga) w) := by
  have hlt := h.lt
  obtain ⟨W1, hW1⟩ : ∃ W1, W1 = (w.alloc (.cells (o.cells (.slice A n c)).toArray 37 (0, 0))).alloc (.cells #[.int .i64 0, .int .i64 0, .int .i64 0, .int .i64 0] 40 (0, 0)) := ⟨_, rfl⟩
  obtain ⟨d, hd⟩ : ∃ d, d = w.heap.size := ⟨_, rfl⟩
  have X1 : Hid (OBox d o (.slice A n c) W1) := by rw [hW1, hd]; exact (heap_alloc_old _ _ (by simp)).trans (heap_alloc_new _ _)
  have Y1 : Hid (RBox (d + 1) (errR 0) W1) := by rw [hW1, hd]; exact heap_second _ _ _
  have L1 : Hid (Later w W1) := by rw [hW1]; exact ((Below.refl _ _).alloc (Nat.le_refl _) _).alloc (by simp) _
  have HYG : Hid (g < d + 1 ∧ b < d + 1) := by rw [hd]; exact ⟨by omega, by omega⟩
  have HY : Hid (w.heap.size ≤ d + 1) := by rw [hd]; exact Nat.le_succ _
  have HYW : Hid (d + 1 < W1.heap.size) := lt_of_block Y1.out
  have h1 : BookAt (fun i => F i ∧ i ≠ d + 1) W1 g b k most t := (h.mono (G := fun i => F i ∧ i ≠ d + 1) (fun i hi hf => ⟨hf, by omega⟩) (fun e => h.apart.2.1 e.1) (fun e => h.apart.2.2 e.1)).later L1.out
  have hF1 : ∀ i, W1.heap.size ≤ i → F i ∧ i ≠ d + 1 := fun i hi => by
    have a1 := Below.size L1.out
    have a2 := HYW.out
    exact ⟨hF i (by omega), by omega⟩
  have H1 := hide h1
  have HA := hide h.apart
  have hst1 := StepsAt.kept hst (Kept.of_below L1.out _)
  have CM := hide (made_yes h1)
  obtain ⟨a0, a3, a4, a5, a6, a7, a8, a9⟩ := X1.out.at_
  clear a6 a7 a8 a9
  rw [hkd] at a0
  clear hkd
  have C := hide (behind_any h1 _hk _hw.2.2.2.2.2.1 41 #[.pointer (some ⟨d, 0, none⟩)] (lapseV o.step o.try_ o.back) enters_lap (fun x hx W hW q n c hq => lap_is (h1.ok.2.1 x hx).1 hq (X1.out.below hW)) (fun x _ he => lapseV_step he) hF1)
  obtain ⟨r9, hr9⟩ : ∃ r9, eventR (lapseV o.step o.try_ o.back) t o.saga = r9 := ⟨_, rfl⟩
  rw [hr9] at C ⊢
  obtain ⟨t9, ht9⟩ : ∃ t9, eventS (lapseV o.step o.try_ o.back) t o.saga = t9 := ⟨_, rfl⟩
  rw [ht9] at C ⊢
  clear hr9 ht9
  generalize o.name = nm at a3
  generalize o.saga = sg at a5 C
  clear a3 a4
  have HW1 := hide hW1.symm
  have HG := hide hd.symm
  clear h _hk _hn hst hst1 _hw _hla hF hF1 hW1 hd h1 hlt
  go_enter Tryz.func14, Tryz.ntmps14
  go_wp2_with (fail)
  simp only [HW1.out, HG.out]
  refine CM.out.mono ?_
  rintro e w2 ⟨rfl, rfl⟩
  go_wp2_with (fail)
  refine C.out.mono ?_
  rintro e w3 ⟨rfl, hb3, ht3⟩
  have T3 := hide ht3
  have H3 := hide hb3
  clear hb3 ht3 C
  have Y3 : Hid (RBox (d + 1) (errR 0) w3) := Y1.out.turned T3.out (by have := HYG.out; omega)
  go_wp2_with (refine wpList_store_rep (r := r9) (by rfl) _ _ (by rfl) (by rfl) Y3.out (by rfl) ?_)
  intro w9 Z9 G9
  have HZ := hide Z9
  have T9 : Hid (Turned (fun i => i = d + 1) w3 w9) := Turned.of_grown G9 (fun g e => (Option.some.inj e).symm)
  clear Z9 G9
  go_wp2
  refine bodyPost_ret (results_cell_row Tryz.results14 _ _ (d + 1) 40 _ (0, 0) _ (by rfl) HZ.out Tryz.underlying40 (by rfl) (by kernel_rfl)) (by rfl) ?_
  have B9 := (H3.out).turned T9.out (by have := HYG.out; omega) (by have := HYG.out; omega) (fun i hi => hi.2)
  have La : Turned (fun i => i = g ∨ i = b) w W1 := Turned.of_below L1.out _
  exact ⟨rfl, B9.mono (fun i _ hf => hf.1) HA.out.2.1 HA.out.2.2, (La.trans T3.out).onto T9.out (fun i hi => .inr (by have := HY.out; omega))⟩
set_option maxHeartbeats 4000000 in
set_option maxRecDepth 100000 in
theorem apply_9 {F0 : Nat → Prop} {o : OpD} {A : Option Addr} {n c : Nat} (h : BookAt F w g b k most t) (_hk : k ≤ 1000000) (_hn : t.L.length ≤ 1000000) (hst : StepsAt F0 w (.slice A n c) o.steps) (_hw : o.wf) (_hla : t.last < 4611686018427387904) (hF : ∀ i, w.heap.size ≤ i → F i) (n0 : o.kind ≠ 0) (n1 : o.kind ≠ 1) (n2 : o.kind ≠ 2) (n3 : o.kind ≠ 3) (n4 : o.kind ≠ 4) (n5 : o.kind ≠ 5) :
    Calls Tryz.prog 14 #[.pointer (some ⟨g, 0, none⟩), .agg (o.cells (.slice A n c)).toArray] w (Did F g b (k + 1) most (errR 2) (t) w) := by
  have hlt := h.lt
  obtain ⟨W1, hW1⟩ : ∃ W1, W1 = (w.alloc (.cells (o.cells (.slice A n c)).toArray 37 (0, 0))).alloc (.cells #[.int .i64 0, .int .i64 0, .int .i64 0, .int .i64 0] 40 (0, 0)) := ⟨_, rfl⟩
  obtain ⟨d, hd⟩ : ∃ d, d = w.heap.size := ⟨_, rfl⟩
  have X1 : Hid (OBox d o (.slice A n c) W1) := by rw [hW1, hd]; exact (heap_alloc_old _ _ (by simp)).trans (heap_alloc_new _ _)
  have Y1 : Hid (RBox (d + 1) (errR 0) W1) := by rw [hW1, hd]; exact heap_second _ _ _
  have L1 : Hid (Later w W1) := by rw [hW1]; exact ((Below.refl _ _).alloc (Nat.le_refl _) _).alloc (by simp) _
  have HYG : Hid (g < d + 1 ∧ b < d + 1) := by rw [hd]; exact ⟨by omega, by omega⟩
  have HY : Hid (w.heap.size ≤ d + 1) := by rw [hd]; exact Nat.le_succ _
  have HYW : Hid (d + 1 < W1.heap.size) := lt_of_block Y1.out
  have h1 : BookAt (fun i => F i ∧ i ≠ d + 1) W1 g b k most t := (h.mono (G := fun i => F i ∧ i ≠ d + 1) (fun i hi hf => ⟨hf, by omega⟩) (fun e => h.apart.2.1 e.1) (fun e => h.apart.2.2 e.1)).later L1.out
  have hF1 : ∀ i, W1.heap.size ≤ i → F i ∧ i ≠ d + 1 := fun i hi => by
    have a1 := Below.size L1.out
    have a2 := HYW.out
    exact ⟨hF i (by omega), by omega⟩
  have H1 := hide h1
  have HA := hide h.apart
  have hst1 := StepsAt.kept hst (Kept.of_below L1.out _)
  have CM := hide (made_yes h1)
  obtain ⟨a0, a3, a4, a5, a6, a7, a8, a9⟩ := X1.out.at_
  clear a6 a7 a8 a9
  have e0 : (o.kind == 0) = false := by simpa using n0
  have e1 : (o.kind == 1) = false := by simpa using n1
  have e2 : (o.kind == 2) = false := by simpa using n2
  have e3 : (o.kind == 3) = false := by simpa using n3
  have e4 : (o.kind == 4) = false := by simpa using n4
  have e5 : (o.kind == 5) = false := by simpa using n5
  generalize o.kind = kd at a0 e0 e1 e2 e3 e4 e5
  clear n0 n1 n2 n3 n4 n5
  clear a3 a4 a5
  have HW1 := hide hW1.symm
  have HG := hide hd.symm
  clear h _hk _hn hst hst1 _hw _hla hF hF1 hW1 hd h1 hlt
  go_enter Tryz.func14, Tryz.ntmps14
  go_wp2_with (fail)
  simp only [HW1.out, HG.out]
  refine CM.out.mono ?_
  rintro e w2 ⟨rfl, rfl⟩
  go_wp2_with (refine wpList_store_rep (r := errR 2) (by rfl) _ _ (by rfl) (by rfl) Y1.out (by rfl) ?_)
  intro w9 Z9 G9
  have HZ := hide Z9
  have T9 : Hid (Turned (fun i => i = d + 1) W1 w9) := Turned.of_grown G9 (fun g e => (Option.some.inj e).symm)
  clear Z9 G9
  go_wp2
  refine bodyPost_ret (results_cell_row Tryz.results14 _ _ (d + 1) 40 _ (0, 0) _ (by rfl) HZ.out Tryz.underlying40 (by rfl) (by kernel_rfl)) (by rfl) ?_
  have B9 := (H1.out).turned T9.out (by have := HYG.out; omega) (by have := HYG.out; omega) (fun i hi => hi.2)
  exact ⟨rfl, (B9.mono (fun i _ hf => hf.1) HA.out.2.1 HA.out.2.2).more (by omega), (Turned.of_below L1.out _).onto T9.out (fun i hi => .inr (by have := HY.out; omega))⟩
theorem apply_any {F0 : Nat → Prop} {o : OpD} {A : Option Addr} {n c : Nat} (h : BookAt F w g b k most t) (hk : k ≤ 1000000) (hn : t.L.length ≤ 1000000) (hst : StepsAt F0 w (.slice A n c) o.steps) (hw : o.wf) (hla : t.last < 4611686018427387904) (hF : ∀ i, w.heap.size ≤ i → F i) :
    Calls Tryz.prog 14 #[.pointer (some ⟨g, 0, none⟩), .agg (o.cells (.slice A n c)).toArray] w (Did F g b (k + 1) most (applyR most t o) (applyS most t o) w) := by
  unfold applyR applyS
  by_cases n0 : o.kind = 0
  · simp only [n0, if_true]
    exact apply_0 h hk hn hst hw hla hF n0
  by_cases n1 : o.kind = 1
  · simp only [n1, if_true]
    exact apply_1 h hk hn hst hw hla hF n1
  by_cases n2 : o.kind = 2
  · simp only [n2, if_true]
    exact apply_2 h hk hn hst hw hla hF n2
  by_cases n3 : o.kind = 3
  · simp only [n3, if_true]
    exact apply_3 h hk hn hst hw hla hF n3
  by_cases n4 : o.kind = 4
  · simp only [n4, if_true]
    exact apply_4 h hk hn hst hw hla hF n4
  by_cases n5 : o.kind = 5
  · simp only [n5, if_true]
    exact apply_5 h hk hn hst hw hla hF n5
  simp only [n0, n1, n2, n3, n4, n5, if_false]
  exact apply_9 h hk hn hst hw hla hF n0 n1 n2 n3 n4 n5
end
end Go.Proofs.YtdkiopajilakcaaGreat
/- Replies are compared; the document's example of package book. -/
namespace Go.Proofs.YtdkiopajilakcaaGreat
open Go.RowKit Go.Maps
theorem eql_rep (x y : RepD) (w : World) : (binOp .eql 40 x.val y.val).run Tryz.prog w = .ok (.bool (decide (x = y))) w := by
  obtain ⟨a, b, c, d⟩ := x
  obtain ⟨a', b', c', d'⟩ := y
  have u3 := Tryz.underlying3
  have u4 := Tryz.underlying4
  have u34 := Tryz.underlying38
  have hS : Tryz.prog.underlying 40 = some (.struct (Tryz.prog.fieldsOf 40)) := by kernel_rfl
  have hp : Tryz.prog.stoodInHeld 40 = false := by kernel_rfl
  unfold RepD.val RepD.cells
  rw [run_eql_struct, show (10000 : Nat) = 9999 + 1 from rfl, run_equalIn_struct w 9999 40 _ _ hS hp]
  simp only [Program.fieldsOf, Tryz.underlying40]
  go_simp
  by_cases h0 : a = a' <;> by_cases h1 : b = b' <;> by_cases h2 : c = c' <;> by_cases h3 : d = d' <;> simp [h0, h1, h2, h3]
theorem exec_eql_rep {op : Oper} {a : Act} {w : World} (x y : RepD) (p q : Operand) (t : TypeId) (ho : op.op = .binOp .eql 40 p q t) (hp : a.eval p = x.val) (hq : a.eval q = y.val) : (execOp a.eval op).run Tryz.prog w = .ok (.value (.bool (decide (x = y)))) w := by
  unfold execOp
  simp only [ho, hp, hq, Sem.run_bind, eql_rep, run_eqGuard_agg (P := Tryz.prog) w .eql 40 p q x.cells.toArray y.cells.toArray (by kernel_rfl), Result.andThen_ok, Sem.run_pure]
theorem neq_rep (x y : RepD) (w : World) : (binOp .neq 40 x.val y.val).run Tryz.prog w = .ok (.bool (!decide (x = y))) w := by
  obtain ⟨a, b, c, d⟩ := x
  obtain ⟨a', b', c', d'⟩ := y
  have u3 := Tryz.underlying3
  have u4 := Tryz.underlying4
  have u34 := Tryz.underlying38
  have hS : Tryz.prog.underlying 40 = some (.struct (Tryz.prog.fieldsOf 40)) := by kernel_rfl
  have hp : Tryz.prog.stoodInHeld 40 = false := by kernel_rfl
  unfold RepD.val RepD.cells
  rw [run_neq_struct, show (10000 : Nat) = 9999 + 1 from rfl, run_equalIn_struct w 9999 40 _ _ hS hp]
  simp only [Program.fieldsOf, Tryz.underlying40]
  go_simp
  by_cases h0 : a = a' <;> by_cases h1 : b = b' <;> by_cases h2 : c = c' <;> by_cases h3 : d = d' <;> simp [h0, h1, h2, h3]
theorem exec_neq_rep {op : Oper} {a : Act} {w : World} (x y : RepD) (p q : Operand) (t : TypeId) (ho : op.op = .binOp .neq 40 p q t) (hp : a.eval p = x.val) (hq : a.eval q = y.val) : (execOp a.eval op).run Tryz.prog w = .ok (.value (.bool (!decide (x = y)))) w := by
  unfold execOp
  simp only [ho, hp, hq, Sem.run_bind, neq_rep, run_eqGuard_agg (P := Tryz.prog) w .neq 40 p q x.cells.toArray y.cells.toArray (by kernel_rfl), Result.andThen_ok, Sem.run_pure]
theorem exec_load_rep {op : Oper} {a : Act} {w : World} {g : Nat} {r : RepD} (x : Operand) (ho : op.op = .load 40 x) (hx : a.eval x = .pointer (some ⟨g, 0, none⟩)) (hg : RBox g r w) : (execOp a.eval op).run Tryz.prog w = .ok (.value r.val) w :=
  exec_load_box 40 x ho g 0 hx _ _ hg 4 _ Tryz.underlying40 (by rfl) (by kernel_rfl) r.cells (by rfl) (by rfl)
theorem field_err (r : RepD) (W : World) : (Instr.field 40 r.val 0).run Tryz.prog W = .ok (.int .i64 r.err) W := by kernel_rfl
theorem exec_field_err {op : Oper} {a : Act} {w : World} (x : Operand) (r : RepD) (ho : op.op = .field 40 x 0) (hx : a.eval x = r.val) : (execOp a.eval op).run Tryz.prog w = .ok (.value (.int .i64 r.err)) w := by
  unfold execOp
  simp only [ho, hx, Sem.run_bind, field_err, Result.andThen_ok, Sem.run_pure]
theorem RBox.cells_ {g : Nat} {r : RepD} {w : World} (h : RBox g r w) : w.cell? ⟨g, 0, none⟩ = some (.int .i64 r.err) ∧ w.cell? ⟨g, 1, none⟩ = some (.int .i64 r.saga) ∧ w.cell? ⟨g, 2, none⟩ = some (.int .i64 r.st) ∧ w.cell? ⟨g, 3, none⟩ = some (.int .i64 r.step) :=
  ⟨cell_of_row w g 0 _ _ _ h, cell_of_row w g 1 _ _ _ h, cell_of_row w g 2 _ _ _ h, cell_of_row w g 3 _ _ _ h⟩
/-- The document's example. -/
def holdB : StepD := ⟨⟨#[98]⟩, 1, 0, 1, true, false⟩
abbrev lB : List StepD := [holdB]
abbrev nmB : ByteArray := ⟨#[97]⟩
def opStart (name : ByteArray) (l : List StepD) : OpD := ⟨1, 0, 0, name, l, 0, 0, 0, false, false⟩
def opCan (id : Int) : OpD := ⟨2, 0, 0, ⟨#[]⟩, [], id, 0, 0, false, false⟩
theorem lB_ok : (checkF nmB lB).2 = 0 := by decide +kernel
theorem lB_wf : ∀ x ∈ lB, x.wf := by simp [holdB, StepD.wf, I64]; decide
theorem opB_wf : (opStart nmB lB).wf := ⟨⟨by decide, by decide⟩, ⟨by decide, by decide⟩, ⟨by decide, by decide⟩, by decide, lB_wf, ⟨by decide, by decide⟩, ⟨by decide, by decide⟩, ⟨by decide, by decide⟩⟩
theorem opCan_wf : (opCan 2).wf := ⟨⟨by decide, by decide⟩, ⟨by decide, by decide⟩, ⟨by decide, by decide⟩, by decide, by simp [opCan], ⟨by decide, by decide⟩, ⟨by decide, by decide⟩, ⟨by decide, by decide⟩⟩
theorem startB_R (most : Int) (t : BkS) (hm : (openN t.L : Int) < most) : applyR most t (opStart nmB lB) = ⟨0, t.last + 1, 1, 1⟩ := by
  unfold applyR startR opStart
  simp only [show ¬ ((1 : Int) = 0) from by decide, if_false, if_true, lB_ok, ne_eq, not_true_eq_false]
  rw [if_neg (by omega)]
theorem startB_S (most : Int) (t : BkS) (hm : (openN t.L : Int) < most) : applyS most t (opStart nmB lB) = ⟨t.last + 1, putE (newE (t.last + 1) nmB lB) (roomF t.L)⟩ := by
  unfold applyS startS opStart
  simp only [if_true, lB_ok, ne_eq, not_true_eq_false, if_false]
  rw [if_neg (by omega)]
theorem startB_full (most : Int) (t : BkS) (hm : most ≤ (openN t.L : Int)) : applyR most t (opStart nmB lB) = errR 7 ∧ applyS most t (opStart nmB lB) = t := by
  constructor
  · unfold applyR startR opStart
    simp only [show ¬ ((1 : Int) = 0) from by decide, if_false, if_true, lB_ok, ne_eq, not_true_eq_false]
    rw [if_pos hm]
  · unfold applyS startS opStart
    simp only [if_true, lB_ok, ne_eq, not_true_eq_false, if_false]
    rw [if_pos hm]
/-- The steps of the example, in a new block. -/
theorem stepB_at (w : World) (F : Nat → Prop) (hF : F w.heap.size) : StepsAt F (w.alloc (.cells holdB.cells.toArray 79 (0, 0))) (.slice (some ⟨w.heap.size, 0, none⟩) 1 1) lB :=
  flat_one w _ 6 holdB.cells.toArray rfl holdB.one F hF
section
variable {w : World}
end
end Go.Proofs.YtdkiopajilakcaaGreat
/- A book and its box side by side; a saga of one step in them, as data. -/
namespace Go.Proofs.YtdkiopajilakcaaGreat
open Go.RowKit Go.Maps

/-- All blocks but these four. -/
def FF (kg kb og ob : Nat) (i : Nat) : Prop := i ≠ kg ∧ i ≠ kb ∧ i ≠ og ∧ i ≠ ob
/-- A book and a box, made since W0. -/
structure BP (W0 w : World) (kg kb og ob : Nat) (most v : Int) (t : BkS) (B : List PlD) (kk ok a : Nat) : Prop where
  book : BookAt (FF kg kb og ob) w kg kb kk most t
  box : BoxAt w og ob ok v a B
  new : W0.heap.size ≤ kg ∧ W0.heap.size ≤ kb ∧ W0.heap.size ≤ og ∧ W0.heap.size ≤ ob
  ne : og ≠ kg ∧ og ≠ kb ∧ ob ≠ kg ∧ ob ≠ kb
  bel : Later W0 w
section
variable {W0 w w' : World} {kg kb og ob : Nat} {most v : Int} {t : BkS} {B : List PlD} {kk ok a : Nat}
theorem BP.later (h : BP W0 w kg kb og ob most v t B kk ok a) (hl : Later w w') : BP W0 w' kg kb og ob most v t B kk ok a := ⟨h.book.later hl, h.box.later hl, h.new, h.ne, Later.trans h.bel hl⟩
theorem BP.blocks (h : BP W0 w kg kb og ob most v t B kk ok a) : kg < w.heap.size ∧ kb < w.heap.size ∧ og < w.heap.size ∧ ob < w.heap.size := ⟨h.book.lt.1, h.book.lt.2, h.box.lt.1, h.box.lt.2⟩
/-- The box's map lies elsewhere. -/
theorem book_moved {S : Nat → Prop} {b' : Nat} (h : BookAt (FF kg kb og ob) w kg kb kk most t) (ht : Turned S w w') (hs : ∀ i, S i → i = og ∨ i = ob) (hb : w.heap.size ≤ b') (hne : og ≠ kg ∧ og ≠ kb ∧ ob ≠ kg ∧ ob ≠ kb) : BookAt (FF kg kb og b') w' kg kb kk most t := by
  have hl := h.lt
  have h1 : BookAt (fun i => FF kg kb og ob i ∧ i ≠ b') w kg kb kk most t := h.mono (fun i hi hf => ⟨hf, by omega⟩) (fun e => e.1.1 rfl) (fun e => e.1.2.1 rfl)
  have h2 := h1.turned ht (fun e => by have := hs _ e; omega) (fun e => by have := hs _ e; omega) (fun i hi e => by have := hs _ e; have := hi.1; unfold FF at this; omega)
  exact h2.mono (fun i _ hi => ⟨hi.1.1, hi.1.2.1, hi.1.2.2.1, hi.2⟩) (fun e => e.1 rfl) (fun e => e.2.1 rfl)
theorem below_of {S : Nat → Prop} {lo : Nat} (h : Later W0 w) (hlo : W0.heap.size = lo) (ht : Turned S w w') (hs : ∀ i, S i → lo ≤ i) : Later W0 w' :=
  ((Turned.of_below h (fun _ => False)).onto ht (fun i hi => .inr (by have := hs i hi; omega))).below (fun i hi => hi.elim) (Nat.le_refl _)
def BSync (W0 : World) (kg kb og : Nat) (most v : Int) (t : BkS) (B : List PlD) (kk a : Nat) (w : World) (e : Ending) (w' : World) : Prop :=
  ∃ sv ob', e = .returned sv ∧ w.heap.size ≤ ob' ∧ w'.ownsRow (ob' + 1) 42 6 sv (syncA v B t.L).length (coms (syncA v B t.L)) ∧ BP W0 w' kg kb og ob' most v t (syncL v B t.L) kk t.L.length a ∧ Turned (fun i => i = og) w w'
theorem bp_sync (h : BP W0 w kg kb og ob most v t B kk ok a) (hn : t.L.length ≤ 1000000) : Calls Tryz.prog 17 #[.pointer (some ⟨og, 0, none⟩), .pointer (some ⟨kg, 0, none⟩)] w (BSync W0 kg kb og most v t B kk a w) := by
  refine (sync_any h.box h.book hn).mono ?_
  rintro e w' ⟨sv, b', rfl, hb, hr, hB, hT⟩
  have hl := h.blocks
  have hs := Below.size h.bel
  refine ⟨sv, b', rfl, hb, hr, ⟨book_moved h.book hT (fun i hi => .inl hi) hb h.ne, hB, ⟨h.new.1, h.new.2.1, h.new.2.2.1, by omega⟩, ⟨h.ne.1, h.ne.2.1, by omega, by omega⟩, below_of h.bel rfl hT (fun i hi => by have := h.new.2.2.1; omega)⟩, hT⟩
def BTick (W0 : World) (kg kb og ob : Nat) (most v : Int) (t : BkS) (A0 : List ComD) (B2 : List PlD) (kk a : Nat) (w : World) (e : Ending) (w' : World) : Prop :=
  ∃ sv ov ob', e = .returned (.tuple #[sv, ov]) ∧ w.heap.size ≤ ob' ∧ w'.ownsRow w.heap.size 42 6 sv (A0 ++ tickA B2).length (coms (A0 ++ tickA B2)) ∧ w'.ownsRow w.heap.size 37 10 ov (tickO B2).length (opsC (tickO B2)) ∧
    BP W0 w' kg kb og ob' most v t (tickL B2) kk (t.L.length + t.L.length) (a + 1) ∧ Turned (fun i => i = og ∨ i = ob) w w'
theorem bp_tick (h : BP W0 w kg kb og ob most v t B kk ok a) (hn : t.L.length ≤ 1000000) (hk : ok ≤ 100000000) (ha : a ≤ 1000000) :
    Calls Tryz.prog 19 #[.pointer (some ⟨og, 0, none⟩), .pointer (some ⟨kg, 0, none⟩)] w (BTick W0 kg kb og ob most v t (syncA v (growL B) t.L) (syncL v (growL B) t.L) kk a w) := by
  refine (otick_any h.box h.book hn hk ha ⟨h.ne.1, h.ne.2.2.1, h.ne.2.1, h.ne.2.2.2, fun e => e.2.2.1 rfl, fun e => e.2.2.2 rfl⟩).mono ?_
  rintro e w' ⟨sv, ov, b', rfl, hb, hr, hr2, hB, hT⟩
  have hl := h.blocks
  have hs := Below.size h.bel
  refine ⟨sv, ov, b', rfl, hb, hr, hr2, ⟨book_moved h.book hT (fun i hi => hi) hb h.ne, hB, ⟨h.new.1, h.new.2.1, h.new.2.2.1, by omega⟩, ⟨h.ne.1, h.ne.2.1, by omega, by omega⟩, below_of h.bel rfl hT (fun i hi => by have := h.new; omega)⟩, hT⟩
def BApply (W0 : World) (kg kb og ob : Nat) (most v : Int) (r : RepD) (t : BkS) (B : List PlD) (kk ok a : Nat) (w : World) (e : Ending) (w' : World) : Prop :=
  e = .returned r.val ∧ BP W0 w' kg kb og ob most v t B kk ok a ∧ Turned (fun i => i = kg ∨ i = kb) w w'
theorem bp_apply {F0 : Nat → Prop} {o : OpD} {A : Option Addr} {n c : Nat} (h : BP W0 w kg kb og ob most v t B kk ok a) (hk : kk ≤ 1000000) (hn : t.L.length ≤ 1000000) (hst : StepsAt F0 w (.slice A n c) o.steps) (hw : o.wf) (hla : t.last < 4611686018427387904) :
    Calls Tryz.prog 14 #[.pointer (some ⟨kg, 0, none⟩), .agg (o.cells (.slice A n c)).toArray] w (BApply W0 kg kb og ob most v (applyR most t o) (applyS most t o) B (kk + 1) ok a w) := by
  have hl := h.blocks
  refine (apply_any h.book hk hn hst hw hla (fun i hi => ⟨by omega, by omega, by omega, by omega⟩)).mono ?_
  rintro e w' ⟨rfl, hB, hT⟩
  exact ⟨rfl, ⟨hB, h.box.turned hT (by have := h.ne; omega) (by have := h.ne; omega), h.new, h.ne, below_of h.bel rfl hT (fun i hi => by have := h.new; omega)⟩, hT⟩
def BRes (W0 : World) (kg kb og ob : Nat) (most v : Int) (t : BkS) (B : List PlD) (m : MsgD) (kk ok a : Nat) (w : World) (e : Ending) (w' : World) : Prop :=
  match resF B m with
  | none => e = .returned (.tuple #[.agg (OpD.zero.cells (.slice none 0 0)).toArray, .bool false]) ∧ Later w w'
  | some p => e = .returned (.tuple #[.agg ((opP 4 m.good p).cells (.slice none 0 0)).toArray, .bool true]) ∧ BP W0 w' kg kb og ob most v t (tellL B m.csaga) kk (ok + 1) a ∧ Turned (fun i => i = ob) w w'
theorem bp_result {m : MsgD} {s o i : Value} (h : BP W0 w kg kb og ob most v t B kk ok a) (hk6 : ok ≤ 100000000) (hI : I64 m.csaga) :
    Calls Tryz.prog 23 #[.pointer (some ⟨og, 0, none⟩), .agg (m.cells s o i).toArray] w (BRes W0 kg kb og ob most v t B m kk ok a w) := by
  refine (oresult_any h.box hk6 hI).mono ?_
  intro e w' hr
  unfold Resulted at hr
  unfold BRes
  cases hres : resF B m with
  | none => rw [hres] at hr; exact hr
  | some p =>
    rw [hres] at hr
    obtain ⟨rfl, hB, hT⟩ := hr
    exact ⟨rfl, ⟨h.book.turned hT (fun e => h.ne.2.2.1 e.symm) (fun e => h.ne.2.2.2 e.symm) (fun i hi e => hi.2.2.2 e), hB, h.new, h.ne, below_of h.bel rfl hT (fun i hi => by have := h.new; omega)⟩, hT⟩
/-- Both, just made. -/
theorem BP.start {w1 : World} (h1 : W0.heap.size ≤ kg ∧ W0.heap.size ≤ kb) (hl1 : Later W0 w1) (hb : ∀ F : Nat → Prop, ¬ F kg → ¬ F kb → BookAt F w1 kg kb 0 most ⟨0, []⟩) (h2 : w1.heap.size ≤ og ∧ w1.heap.size ≤ ob) (hl2 : Later w1 w) (hB : BoxAt w og ob 0 v 0 []) : BP W0 w kg kb og ob most v ⟨0, []⟩ [] 0 0 0 := by
  have hs := Below.size hl1
  have hk := (hb (fun i => FF kg kb og ob i) (fun e => e.1 rfl) (fun e => e.2.1 rfl))
  have hl := hk.lt
  exact ⟨hk.later hl2, hB, ⟨h1.1, h1.2, by omega, by omega⟩, ⟨by omega, by omega, by omega, by omega⟩, Later.trans hl1 hl2⟩
end
/-- The step of the examples. -/
def sB (st wt : Int) : StepD := ⟨⟨#[98]⟩, st, 0, wt, true, false⟩
theorem sB_ok {st wt : Int} (h1 : 1 ≤ st) (h2 : st ≤ 4) (h3 : 1 ≤ wt) (h4 : wt ≤ 99) : (checkF nmB [sB st wt]).2 = 0 := by
  have e1 : nameF (nmB.data.toList) = true := by decide +kernel
  have e2 : stepBad (sB st wt) = false := by
    have e3 : nameF (sB st wt).name.data.toList = true := by show nameF (⟨#[98]⟩ : ByteArray).data.toList = true; decide +kernel
    have a1 : outB (sB st wt).stub 1 4 = false := by unfold outB; simp only [Bool.or_eq_false_iff, decide_eq_false_iff_not]; exact ⟨by show ¬ st < 1; omega, by show ¬ 4 < st; omega⟩
    have a2 : outB (sB st wt).wait 1 99 = false := by unfold outB; simp only [Bool.or_eq_false_iff, decide_eq_false_iff_not]; exact ⟨by show ¬ wt < 1; omega, by show ¬ 99 < wt; omega⟩
    unfold stepBad
    rw [e3, a1, a2]
    rfl
  unfold checkF firstBad
  rw [e1]
  simp only [List.length_singleton, Bool.not_true, Bool.false_or, show decide (1 < 1) = false from rfl, show decide (8 < 1) = false from rfl, Bool.false_eq_true, if_false]
  unfold stepErr
  rw [e2]
  simp [namedB, pivotB, firstBad, sB]
theorem sB_wf {st wt : Int} (h1 : 1 ≤ st) (h2 : st ≤ 4) (h3 : 1 ≤ wt) (h4 : wt ≤ 99) : (opStart nmB [sB st wt]).wf := by
  refine ⟨(show I64 1 from ⟨by decide, by decide⟩), (show I64 0 from ⟨by decide, by decide⟩), (show I64 0 from ⟨by decide, by decide⟩), (show nmB.size ≤ 140737488355328 from by decide), fun x hx => ?_, (show I64 0 from ⟨by decide, by decide⟩), (show I64 0 from ⟨by decide, by decide⟩), (show I64 0 from ⟨by decide, by decide⟩)⟩
  obtain rfl := List.mem_singleton.1 hx
  refine ⟨(show (⟨#[98]⟩ : ByteArray).size ≤ 140737488355328 from by decide), ?_, (show I64 0 from ⟨by decide, by decide⟩), ?_⟩
  · exact ⟨by show -9223372036854775808 ≤ st; omega, by show st < 9223372036854775808; omega⟩
  · exact ⟨by show -9223372036854775808 ≤ wt; omega, by show wt < 9223372036854775808; omega⟩
/-- Its saga in an empty book. -/
def tB (st wt : Int) : BkS := ⟨1, [newE 1 nmB [sB st wt]]⟩
theorem sB_starts {st wt most : Int} (h1 : 1 ≤ st) (h2 : st ≤ 4) (h3 : 1 ≤ wt) (h4 : wt ≤ 99) (hm : 1 ≤ most) : applyR most ⟨0, []⟩ (opStart nmB [sB st wt]) = ⟨0, 1, 1, 1⟩ ∧ applyS most ⟨0, []⟩ (opStart nmB [sB st wt]) = tB st wt := by
  have hc := sB_ok h1 h2 h3 h4
  constructor
  · unfold applyR startR opStart
    simp only [show ¬ ((1 : Int) = 0) from by decide, if_false, if_true, hc, ne_eq, not_true_eq_false]
    rw [if_neg (by show ¬ most ≤ ((openN [] : Nat) : Int); simp [openN]; omega)]
    rfl
  · unfold applyS startS opStart
    simp only [if_true, hc, ne_eq, not_true_eq_false, if_false]
    rw [if_neg (by show ¬ most ≤ ((openN [] : Nat) : Int); simp [openN]; omega)]
    rfl
/-- Its place. -/
def pB (v st wt age : Int) (told : Bool) : PlD := ⟨⟨v, st, 1, 1, 1, false⟩, wt, age, told⟩
theorem sB_wants {st wt : Int} (hc : (checkF nmB [sB st wt]).2 = 0) (v : Int) : wantE (newE 1 nmB [sB st wt]) = true ∧ newP v (newE 1 nmB [sB st wt]) = pB v st wt 0 false := by
  have hw : wantsB [sB st wt] (newE 1 nmB [sB st wt]).s = true := Runs.wants hc ⟨rfl, rfl, (by show 0 < 1; decide), Int.le_refl 1, tries_one (s := (newE 1 nmB [sB st wt]).s) hc (k := 0) (by show 0 < 1; decide), .inl rfl⟩
  refine ⟨hw, ?_⟩
  unfold newP comE wantsC wantsW
  rw [show wantsB (newE 1 nmB [sB st wt]).l (newE 1 nmB [sB st wt]).s = true from hw]
  rfl
theorem sync_first {st wt : Int} (hc : (checkF nmB [sB st wt]).2 = 0) (v : Int) : syncL v [] (tB st wt).L = [pB v st wt 0 false] ∧ syncA v [] (tB st wt).L = [(pB v st wt 0 false).c] := by
  obtain ⟨h1, h2⟩ := sB_wants hc v
  unfold tB
  obtain ⟨e1, e2⟩ := sync_new (v := v) (B := []) (L := []) h1 (fun p hp => by cases hp)
  rw [List.nil_append] at e1 e2
  rw [e1, e2, h2, ← h2]
  exact ⟨rfl, rfl⟩
theorem sync_again {st wt : Int} (hc : (checkF nmB [sB st wt]).2 = 0) (v age : Int) (told : Bool) : syncL v [pB v st wt age told] (tB st wt).L = [pB v st wt age told] ∧ syncA v [pB v st wt age told] (tB st wt).L = [] := by
  obtain ⟨h1, h2⟩ := sB_wants hc v
  unfold tB
  have hcm : comE v (newE 1 nmB [sB st wt]) = (pB v st wt 0 false).c := congrArg PlD.c h2
  obtain ⟨e1, e2⟩ := sync_had (v := v) (B := [pB v st wt age told]) (L := []) h1 (p := pB v st wt age told) rfl (by rw [hcm]; rfl)
  rw [List.nil_append] at e1 e2
  rw [e1, e2]
  exact ⟨rfl, rfl⟩
end Go.Proofs.YtdkiopajilakcaaGreat
/- The document's example of package outbox. -/
namespace Go.Proofs.YtdkiopajilakcaaGreat
open Go.RowKit Go.Maps
theorem own_com1 {w : World} {base : Nat} {sv : Value} {c : ComD} (h : w.ownsRow base 42 6 sv 1 (coms [c])) : ∃ b cap, sv = .slice (some ⟨b, 0, none⟩) 1 cap ∧ base ≤ b ∧ b < w.heap.size ∧ 1 ≤ cap ∧ w.rangeAt b 0 c.cells := by
  rcases h.2 with ⟨_, e2⟩ | ⟨g, cap, cur, rfl, hb, hg, hnc, _⟩
  · cases e2
  · refine ⟨g, cap, rfl, hb, lt_of_block hg, hnc, fun j u hj => ?_⟩
    have hj2 : (coms [c])[j]? = some u := by simpa [coms] using hj
    have := h.cells (g := g) rfl j u hj2
    rwa [Addr.add_lit] at this
theorem own_op1 {w : World} {base : Nat} {sv : Value} {o : OpD} (h : w.ownsRow base 37 10 sv 1 (opsC [o])) : ∃ b cap, sv = .slice (some ⟨b, 0, none⟩) 1 cap ∧ base ≤ b ∧ b < w.heap.size ∧ 1 ≤ cap ∧ w.rangeAt b 0 (o.cells (.slice none 0 0)) := by
  rcases h.2 with ⟨_, e2⟩ | ⟨g, cap, cur, rfl, hb, hg, hnc, _⟩
  · cases e2
  · refine ⟨g, cap, rfl, hb, lt_of_block hg, hnc, fun j u hj => ?_⟩
    have hj2 : (opsC [o])[j]? = some u := by simpa [opsC] using hj
    have := h.cells (g := g) rfl j u hj2
    rwa [Addr.add_lit] at this
theorem own_none {w : World} {base e k : Nat} {sv : Value} (h : w.ownsRow base e k sv 0 []) : ∃ A cap, sv = .slice A 0 cap := by
  obtain ⟨A, c, e1, _⟩ := (FlatAt.of_own h (fun _ hu => (by cases hu))).shape
  exact ⟨A, c, e1⟩
theorem step_info : (Tryz.prog.info? 79).map (fun i => (i.zero, i.size, i.bytes)) = some (some (.agg #[.string ⟨#[]⟩, .int .i64 0, .int .i64 0, .int .i64 0, .bool false, .bool false]), 6, 48) := by kernel_rfl
theorem sB_one (st wt : Int) : ∀ u ∈ (sB st wt).cells.toArray.toList, u.oneCell' = true := (sB st wt).one
section
variable {w : World}
set_option maxHeartbeats 8000000 in
set_option maxRecDepth 100000 in
theorem olives_any : Calls Tryz.prog 9 #[] w fun e w' => e = .returned (.bool true) ∧ Later w w' := by
  obtain ⟨i0, hi, hz0, hz1, _⟩ := info_parts step_info
  have HI := hide hi
  have HZ0 := hide hz0
  have HZ1 := hide hz1
  have hc := sB_ok (st := 1) (wt := 2) (by decide) (by decide) (by decide) (by decide)
  have HC := hide hc
  have HWF := hide (sB_wf (st := 1) (wt := 2) (by decide) (by decide) (by decide) (by decide))
  have HST := hide (sB_starts (st := 1) (wt := 2) (most := 2) (by decide) (by decide) (by decide) (by decide) (by decide))
  have CN := hide (new_yes 2 w (by decide) (by decide))
  clear hi hz0 hz1 hc
  go_enter Tryz.func9, Tryz.ntmps9
  go_wp2_with (fail)
  refine CN.out.mono ?_
  rintro e w1 ⟨kg, kb, rfl, hg, hb, hl1, hbk⟩
  have H1 := hide (And.intro hg (And.intro hb (And.intro hl1 hbk)))
  have CO := hide (onew_yes 0 w1 (by decide))
  clear hg hb hl1 hbk CN
  go_wp2_with (fail)
  refine CO.out.mono ?_
  rintro e w2 ⟨og, ob, rfl, ho1, ho2, hl2, hbx⟩
  have P2 : Hid (BP w w2 kg kb og ob 2 0 ⟨0, []⟩ [] 0 0 0) := BP.start ⟨H1.out.1, H1.out.2.1⟩ H1.out.2.2.1 H1.out.2.2.2 ⟨ho1, ho2⟩ hl2 hbx
  clear ho1 ho2 hl2 hbx CO H1
  obtain ⟨W3, hW3⟩ : ∃ W3, W3 = w2.alloc (.cells (sB 1 2).cells.toArray 79 (0, 0)) := ⟨_, rfl⟩
  obtain ⟨z, hz⟩ : ∃ z, w2.heap.size = z := ⟨_, rfl⟩
  have L23 : Hid (Later w2 W3) := by rw [hW3]; exact (Below.refl _ _).alloc (Nat.le_refl _) _
  have S3 : Hid (StepsAt (fun _ => True) W3 (.slice (some ⟨z, 0, none⟩) 1 1) [sB 1 2]) := by rw [hW3, ← hz]; exact flat_one w2 _ 6 (sB 1 2).cells.toArray rfl (sB_one 1 2) _ trivial
  have P3 := hide (P2.out.later L23.out)
  have CA := hide (bp_apply (o := opStart nmB [sB 1 2]) P3.out (by decide) (by decide) S3.out HWF.out (by decide))
  rw [HST.out.1, HST.out.2] at CA
  unfold OpD.cells opStart at CA
  have HW3 := hide hW3.symm
  have HZ := hide hz
  clear hW3 hz
  go_wp2_with (refine wpList_buildSlice_one (by rfl) 33 79 _ (by rfl) i0 _ 6 Tryz.underlying33 HI.out HZ0.out HZ1.out (by omega) (by omega) (sB 1 2).cells.toArray (by rfl) (by rfl) ?_; rw [HW3.out, HZ.out])
  refine CA.out.mono ?_
  rintro e w4 ⟨rfl, hp4, _⟩
  have P4 := hide hp4
  have CS := hide (bp_sync hp4 (by decide))
  unfold BSync at CS
  rw [(sync_first HC.out 0).1, (sync_first HC.out 0).2] at CS
  clear hp4 CA
  go_wp2_with (fail)
  refine CS.out.mono ?_
  rintro e w5 ⟨sv, ob5, rfl, hb5, hr5, hp5, ht5⟩
  obtain ⟨c5, cap5, rfl, hc5, hc6, _, hrow⟩ := own_com1 hr5
  have hg5 := P4.out.blocks
  have HC5 : Hid (ob5 < c5 ∧ c5 < w5.heap.size ∧ og < c5) := ⟨by omega, hc6, by omega⟩
  have P5 := hide hp5
  have HR5 := hide hrow
  have CT := hide (bp_tick hp5 (by decide) (by decide) (by decide))
  unfold BTick at CT
  rw [show growL [pB 0 1 2 0 false] = [pB 0 1 2 1 false] from rfl, (sync_again HC.out 0 1 false).1, (sync_again HC.out 0 1 false).2, show tickA [pB 0 1 2 1 false] = [] from rfl, show tickO [pB 0 1 2 1 false] = [] from rfl, show tickL [pB 0 1 2 1 false] = [pB 0 1 2 1 false] from rfl] at CT
  clear hb5 hr5 hp5 ht5 hc5 hc6 hrow hg5 CS
  go_wp2_with (fail)
  refine CT.out.mono ?_
  rintro e w6 ⟨sv6, ov6, ob6, rfl, hb6, hr6, hq6, hp6, ht6⟩
  obtain ⟨A6, d6, rfl⟩ := own_none hr6
  obtain ⟨B6, e6, rfl⟩ := own_none hq6
  have P6 := hide hp6
  have HR6 : Hid (w6.rangeAt c5 0 (pB 0 1 2 0 false).c.cells) := fun j u hj => (World.cell?_of_block (ht6.block c5 HC5.out.2.1 (fun e => by have := HC5.out; omega))).trans (HR5.out j u hj)
  have HC6 : Hid (c5 < ob6 ∧ c5 < w6.heap.size) := ⟨by have := HC5.out; omega, by have := HC5.out; have := ht6.size; omega⟩
  have CT2 := hide (bp_tick hp6 (by decide) (by decide) (by decide))
  unfold BTick at CT2
  rw [show growL [pB 0 1 2 1 false] = [pB 0 1 2 2 false] from rfl, (sync_again HC.out 0 2 false).1, (sync_again HC.out 0 2 false).2, show tickA [pB 0 1 2 2 false] = [] from rfl, show tickO [pB 0 1 2 2 false] = [opP 5 false (pB 0 1 2 2 false)] from rfl] at CT2
  clear hb6 hr6 hq6 hp6 ht6 CT
  go_wp2_with (fail)
  refine CT2.out.mono ?_
  rintro e w7 ⟨sv7, ov7, ob7, rfl, hb7, hr7, hq7, hp7, ht7⟩
  obtain ⟨A7, d7, rfl⟩ := own_none hr7
  obtain ⟨o7, e7, rfl, _, _, _, hrow7⟩ := own_op1 hq7
  have h0 : w7.cell? ⟨o7, 0, none⟩ = some (.int .i64 5) := hrow7 0 _ rfl
  have h2 : w7.cell? ⟨c5, 2, none⟩ = some (.int .i64 1) := (World.cell?_of_block (ht7.block c5 HC6.out.2 (fun e => by have := HC6.out; have := HC5.out; omega))).trans (HR6.out 2 _ rfl)
  have LF : Hid (Later w w7) := hp7.bel
  clear hb7 hr7 hq7 hp7 ht7 hrow7 CT2
  go_wp2
  go_ret
  exact ⟨rfl, LF.out⟩
end
end Go.Proofs.YtdkiopajilakcaaGreat
/- Why the log is told once: what a saga wanted and does not want any more, it never wants again. -/
namespace Go.Proofs.YtdkiopajilakcaaGreat
open Go.RowKit Go.Maps

/-- How much is left behind what has these numbers. -/
def phiK (l : List StepD) (step tr : Int) (back : Bool) : Int :=
  if back then U l (step - 1).toNat + triesN l step - tr + 1 else A l l.length - A l (step - 1).toNat - tr + 1 + U l l.length
theorem phi_key {l : List StepD} {s : SagaD} (h : wantsB l s = true) : phi l s = phiK l s.step s.tr (decide (s.st = 2)) := by
  have h2 : s.st = 1 ∨ s.st = 2 := (wants_parts h).2.2.2.2.2.2.1
  unfold phi phiK
  rcases h2 with e | e
  · rw [if_pos e, if_neg (by rw [e]; decide)]
  · rw [if_neg (by rw [e]; decide), if_pos e, if_pos (by rw [e]; decide)]
/-- A saga as operations make them. -/
def EI (x : Ent) : Prop := (checkF x.s.name x.l).2 = 0 ∧ ((∃ q, Runs x.l x.s q) ∨ (∃ q, Backs x.l x.s q) ∨ (x.s.st ≠ 1 ∧ x.s.st ≠ 2))
def BI (t : BkS) : Prop := ∀ x ∈ t.L, EI x ∧ x.id ≤ t.last
section
variable {l : List StepD} {s : SagaD} {id : Int}
theorem run_ends (hc : (checkF s.name l).2 = 0) {q : Nat} (h : Runs l s q) (k : Int) : EI ⟨id, evE l s k, l⟩ ∧ phi l (evE l s k) < phi l s := by
  obtain ⟨h1, h2⟩ := run_ev hc h k
  have h3 := run_less hc h h2
  refine ⟨⟨by show (checkF (evE l s k).name l).2 = 0; rw [h1]; exact hc, ?_⟩, by omega⟩
  rcases h2 with ⟨_, _, e⟩ | ⟨_, e, _⟩ | ⟨_, e, _⟩ | ⟨_, e⟩ | ⟨_, _, e⟩ | ⟨_, j, e, _, _, _⟩
  · exact .inr (.inr ⟨by show (evE l s k).st ≠ 1; rw [e]; decide, by show (evE l s k).st ≠ 2; rw [e]; decide⟩)
  · exact .inl ⟨_, e⟩
  · exact .inl ⟨_, e⟩
  · exact .inr (.inr ⟨by show (evE l s k).st ≠ 1; rw [e]; decide, by show (evE l s k).st ≠ 2; rw [e]; decide⟩)
  · exact .inr (.inr ⟨by show (evE l s k).st ≠ 1; rw [e]; decide, by show (evE l s k).st ≠ 2; rw [e]; decide⟩)
  · exact .inr (.inl ⟨_, e⟩)
theorem back_ends (hc : (checkF s.name l).2 = 0) {q : Nat} (h : Backs l s q) (k : Int) : EI ⟨id, evE l s k, l⟩ ∧ phi l (evE l s k) < phi l s := by
  obtain ⟨h1, h2⟩ := back_ev hc h k
  have h3 := back_less hc h h2
  refine ⟨⟨by show (checkF (evE l s k).name l).2 = 0; rw [h1]; exact hc, ?_⟩, by omega⟩
  rcases h2 with ⟨_, _, e⟩ | ⟨_, j, _, e, _⟩ | ⟨_, e, _⟩ | ⟨_, e⟩
  · exact .inr (.inr ⟨by show (evE l s k).st ≠ 1; rw [e]; decide, by show (evE l s k).st ≠ 2; rw [e]; decide⟩)
  · exact .inr (.inl ⟨_, e⟩)
  · exact .inr (.inl ⟨_, e⟩)
  · exact .inr (.inr ⟨by show (evE l s k).st ≠ 1; rw [e]; decide, by show (evE l s k).st ≠ 2; rw [e]; decide⟩)
theorem ev_ends (h : EI ⟨id, s, l⟩) (hw : wantsB l s = true) (k : Int) : EI ⟨id, evE l s k, l⟩ ∧ phi l (evE l s k) < phi l s := by
  rcases h.2 with ⟨q, e⟩ | ⟨q, e⟩ | ⟨e1, e2⟩
  · exact run_ends h.1 e k
  · exact back_ends h.1 e k
  · have := done_wants (l := l) e1 e2
    exact absurd hw (by rw [show wantsB l s = false from this]; decide)
theorem report_ends {step tr : Int} {back good : Bool} (h : EI ⟨id, s, l⟩) (h0 : (reportV step tr back good l s).2 = 0) : EI ⟨id, (reportV step tr back good l s).1, l⟩ ∧ phi l (reportV step tr back good l s).1 < phi l s := by
  unfold reportV at h0 ⊢
  cases hi : isIt l s step tr back with
  | false => rw [hi, if_neg (by decide)] at h0; exact absurd (show (10 : Int) = 0 from h0) (by decide)
  | true =>
    rw [if_pos rfl]
    have hw := isIt_wants hi
    have hb : decide (s.st = 2) = back := by
      unfold isIt at hi
      simp only [Bool.and_eq_true, beq_iff_eq] at hi
      exact hi.2.2.2
    cases good with
    | true =>
      have := ev_ends h hw 3
      unfold evE at this
      rw [if_pos rfl, hb] at this
      exact this
    | false =>
      have := ev_ends h hw 4
      unfold evE at this
      rw [if_neg (by decide), if_pos rfl] at this
      exact this
theorem lapse_ends {step tr : Int} {back : Bool} (h : EI ⟨id, s, l⟩) (h0 : (lapseV step tr back l s).2 = 0) : EI ⟨id, (lapseV step tr back l s).1, l⟩ ∧ phi l (lapseV step tr back l s).1 < phi l s := by
  unfold lapseV at h0 ⊢
  cases hi : isIt l s step tr back with
  | false => rw [hi, if_neg (by decide)] at h0; exact absurd (show (10 : Int) = 0 from h0) (by decide)
  | true =>
    rw [if_pos rfl]
    have := ev_ends h (isIt_wants hi) 5
    unfold evE at this
    rw [if_neg (by decide), if_neg (by decide)] at this
    exact this
theorem cancel_ends (h : EI ⟨id, s, l⟩) (h0 : (cancelF l s).2 = 0) : EI ⟨id, (cancelF l s).1, l⟩ ∧ ((cancelF l s).1 = s ∨ phi l (cancelF l s).1 < phi l s) := by
  rcases h.2 with ⟨q, e⟩ | ⟨q, e⟩ | ⟨e1, e2⟩
  · have e : Runs l s q := e
    have hc : (checkF s.name l).2 = 0 := h.1
    have hp := e.pos hc
    have hu := U_nn hc (Nat.le_refl l.length)
    rcases cancel_run hc e with ⟨a, _⟩ | ⟨_, a, b⟩
    · rw [a] at h0; exact absurd h0 (by decide)
    · have hn : (checkF (cancelF l s).1.name l).2 = 0 := by rw [a]; exact hc
      rcases b with b | b
      · have : phi l (cancelF l s).1 = 0 := phi_off (by rw [b]; decide) (by rw [b]; decide)
        exact ⟨⟨hn, .inr (.inr ⟨by show (cancelF l s).1.st ≠ 1; rw [b]; decide, by show (cancelF l s).1.st ≠ 2; rw [b]; decide⟩)⟩, .inr (by omega)⟩
      · have hl : l[q]? = some (l[q]'b.lt) := List.getElem?_eq_getElem b.lt
        have h1 := U_next hl
        rw [Free.undo hc b.free (Nat.lt_succ_self q) hl, if_pos rfl] at h1
        have h4 := U_le hc (i := q + 1) (l.length - (q + 1)) (by have := b.lt; omega)
        rw [show q + 1 + (l.length - (q + 1)) = l.length from by have := b.lt; omega] at h4
        have h5 := b.phi
        have h6 := b.lo
        rw [triesN_at hl] at h5
        exact ⟨⟨hn, .inr (.inl ⟨_, b⟩)⟩, .inr (by omega)⟩
  · rw [cancel_back h.1 e]
    exact ⟨⟨h.1, .inr (.inl ⟨q, e⟩)⟩, .inl rfl⟩
  · rcases cancel_off (l := l) e2 e1 with ⟨a, _⟩ | ⟨a, _⟩
    · rw [show (cancelF l s).2 = 10 from a] at h0; exact absurd h0 (by decide)
    · rw [show (cancelF l s).2 = 2 from a] at h0; exact absurd h0 (by decide)
end
theorem entAt_drop (k id : Int) : ∀ L : List Ent, entAt (dropE L k) id = if id = k then none else entAt L id
  | [] => by simp [entAt, dropE]
  | x :: r => by
    have ih := entAt_drop k id r
    unfold entAt dropE at ih ⊢
    by_cases e : x.id = k
    · rw [List.filter_cons_of_neg (by simp [e]), ih]
      by_cases e2 : id = k
      · rw [if_pos e2, if_pos e2]
      · rw [if_neg e2, if_neg e2, List.find?_cons_of_neg (by simp; omega)]
    · rw [List.filter_cons_of_pos (by simp [e])]
      by_cases e2 : x.id = id
      · rw [List.find?_cons_of_pos (by simp [e2]), List.find?_cons_of_pos (by simp [e2]), if_neg (by omega)]
      · rw [List.find?_cons_of_neg (by simp [e2]), List.find?_cons_of_neg (by simp [e2]), ih]
theorem entAt_room (L : List Ent) (id : Int) : entAt (roomF L) id = entAt L id ∨ entAt (roomF L) id = none := by
  unfold roomF
  split
  · exact .inl rfl
  · split
    · exact .inl rfl
    · rename_i x _
      rw [entAt_drop]
      split
      · exact .inr rfl
      · exact .inl rfl
theorem room_sub {L : List Ent} : ∀ x ∈ roomF L, x ∈ L := by
  unfold roomF
  split
  · exact fun _ h => h
  · split
    · exact fun _ h => h
    · exact dropE_sub
/-- What an operation makes of the saga of that number. -/
def Goes (t t' : BkS) (id : Int) : Prop := entAt t'.L id = entAt t.L id ∨ entAt t'.L id = none ∨ ∃ x s, entAt t.L id = some x ∧ entAt t'.L id = some ⟨id, s, x.l⟩ ∧ phi x.l s < phi x.l x.s
theorem event_goes {ev : List StepD → SagaD → SagaD × Int} {t : BkS} (k : Int) (hr : RiseE t.L) (hb : BI t)
    (he : ∀ x ∈ t.L, (ev x.l x.s).2 = 0 → EI ⟨k, (ev x.l x.s).1, x.l⟩ ∧ ((ev x.l x.s).1 = x.s ∨ phi x.l (ev x.l x.s).1 < phi x.l x.s)) : BI (eventS ev t k) ∧ (eventS ev t k).last = t.last ∧ ∀ id, Goes t (eventS ev t k) id := by
  unfold eventS
  cases hx : entAt t.L k with
  | none => exact ⟨hb, rfl, fun _ => .inl rfl⟩
  | some x =>
    simp only
    obtain ⟨hm, hk⟩ := entAt_mem hx
    split
    · exact ⟨hb, rfl, fun _ => .inl rfl⟩
    · rename_i h0
      have h0 : (ev x.l x.s).2 = 0 := by simpa using h0
      obtain ⟨e1, e2⟩ := he x hm h0
      have ea := entAt_putE ⟨k, (ev x.l x.s).1, x.l⟩ hr
      refine ⟨fun y hy => ?_, rfl, fun id => ?_⟩
      · rcases mem_putE hy with rfl | hy
        · exact ⟨e1, by have := (hb x hm).2; show k ≤ t.last; omega⟩
        · exact hb y hy
      · by_cases h : id = k
        · subst h
          rcases e2 with e2 | e2
          · refine .inl ?_
            show entAt (putE _ t.L) id = _
            rw [show entAt (putE (⟨id, (ev x.l x.s).1, x.l⟩ : Ent) t.L) id = _ from ea, hx, e2]
            cases x
            simp only at hk
            rw [hk]
          · exact .inr (.inr ⟨x, _, hx, ea, e2⟩)
        · exact .inl (entAt_put_other ⟨k, (ev x.l x.s).1, x.l⟩ id h t.L)
theorem apply_goes (most : Int) (t : BkS) (o : OpD) (hr : RiseE t.L) (hb : BI t) : BI (applyS most t o) ∧ t.last ≤ (applyS most t o).last ∧ ∀ id, id ≤ t.last → Goes t (applyS most t o) id := by
  have none_ : BI t ∧ t.last ≤ t.last ∧ ∀ id, id ≤ t.last → Goes t t id := ⟨hb, Int.le_refl _, fun _ _ => .inl rfl⟩
  have some_ : ∀ (ev : List StepD → SagaD → SagaD × Int) (k : Int), (∀ x ∈ t.L, (ev x.l x.s).2 = 0 → EI ⟨k, (ev x.l x.s).1, x.l⟩ ∧ ((ev x.l x.s).1 = x.s ∨ phi x.l (ev x.l x.s).1 < phi x.l x.s)) →
      BI (eventS ev t k) ∧ t.last ≤ (eventS ev t k).last ∧ ∀ id, id ≤ t.last → Goes t (eventS ev t k) id := fun ev k he => by
    obtain ⟨a, b, c⟩ := event_goes k hr hb he
    exact ⟨a, by omega, fun id _ => c id⟩
  have ei : ∀ (x : Ent) (k : Int), x ∈ t.L → EI ⟨k, x.s, x.l⟩ := fun x k hx => (hb x hx).1
  unfold applyS
  split
  · unfold startS
    split
    · exact none_
    · split
      · exact none_
      · rename_i hc _
        have hc : (checkF o.name o.steps).2 = 0 := by simpa using hc
        refine ⟨fun y hy => ?_, by show t.last ≤ t.last + 1; omega, fun id hid => ?_⟩
        · rcases mem_putE hy with rfl | hy
          · exact ⟨⟨hc, .inl ⟨0, begin_runs hc none 0 0⟩⟩, Int.le_refl _⟩
          · obtain ⟨a, b⟩ := hb y (room_sub y hy)
            exact ⟨a, by show y.id ≤ t.last + 1; omega⟩
        · have e := entAt_put_other (newE (t.last + 1) o.name o.steps) id (by show id ≠ t.last + 1; omega) (roomF t.L)
          rcases entAt_room t.L id with h | h
          · exact .inl (e.trans h)
          · exact .inr (.inl (e.trans h))
  · split
    · exact some_ _ _ fun x hx h0 => cancel_ends (ei x _ hx) h0
    · split
      · exact some_ _ _ fun x hx h0 => let ⟨a, b⟩ := report_ends (ei x _ hx) h0; ⟨a, .inr b⟩
      · split
        · exact some_ _ _ fun x hx h0 => let ⟨a, b⟩ := lapse_ends (ei x _ hx) h0; ⟨a, .inr b⟩
        · exact none_

/-- A saga wants just that. -/
def NowC (t : BkS) (v : Int) (c : ComD) : Prop := ∃ x, entAt t.L c.saga = some x ∧ wantE x = true ∧ comE v x = c
/-- It will never want that again. -/
def PastK (t : BkS) (id step tr : Int) (back : Bool) : Prop := match entAt t.L id with | none => True | some x => phi x.l x.s < phiK x.l step tr back
theorem NowC.key {t : BkS} {v : Int} {c : ComD} (h : NowC t v c) : ∃ x, entAt t.L c.saga = some x ∧ phi x.l x.s = phiK x.l c.step c.tr c.back := by
  obtain ⟨x, hx, hw, rfl⟩ := h
  refine ⟨x, hx, ?_⟩
  obtain ⟨e1, e2, e3⟩ := wants_fields (show wantsB x.l x.s = true from hw)
  show _ = phiK x.l (wantsC x.l x.s).step (wantsC x.l x.s).tr (wantsC x.l x.s).back
  rw [e1, e2, e3]
  exact phi_key hw
theorem NowC.past {t : BkS} {v : Int} {c : ComD} (h : NowC t v c) : ¬ PastK t c.saga c.step c.tr c.back := by
  obtain ⟨x, hx, e⟩ := h.key
  unfold PastK
  rw [hx]
  show ¬ (_ < _)
  omega
theorem Goes.past {t t' : BkS} {id step tr : Int} {back : Bool} (h : Goes t t' id) (hp : PastK t id step tr back) : PastK t' id step tr back := by
  unfold PastK at hp ⊢
  rcases h with e | e | ⟨x, s, e1, e2, e3⟩
  · rw [e]; exact hp
  · rw [e]; trivial
  · rw [e1] at hp
    rw [e2]
    have hp : phi x.l x.s < phiK x.l step tr back := hp
    show phi x.l s < phiK x.l step tr back
    omega
theorem Goes.now {t t' : BkS} {v : Int} {c : ComD} (h : Goes t t' c.saga) (hn : NowC t v c) : NowC t' v c ∨ PastK t' c.saga c.step c.tr c.back := by
  rcases h with e | e | ⟨x, s, e1, e2, e3⟩
  · obtain ⟨x, hx, hw, hc⟩ := hn
    exact .inl ⟨x, by rw [e]; exact hx, hw, hc⟩
  · right; unfold PastK; rw [e]; trivial
  · right
    obtain ⟨y, hy, e⟩ := hn.key
    obtain rfl : x = y := Option.some.inj (e1.symm.trans hy)
    unfold PastK
    rw [e2]
    show phi x.l s < phiK x.l c.step c.tr c.back
    omega
/-- Two commands of the same numbers that are both wanted are the same. -/
theorem NowC.same {t : BkS} {v : Int} {c d : ComD} (h : NowC t v c) (k : NowC t v d) (e : c.saga = d.saga) : c = d := by
  obtain ⟨x, hx, _, rfl⟩ := h
  obtain ⟨y, hy, _, rfl⟩ := k
  rw [e] at hx
  obtain rfl : x = y := Option.some.inj (hx.symm.trans hy)
  rfl
def keyed (c : ComD) (o : OpD) : Prop := o.saga = c.saga ∧ o.step = c.step ∧ o.try_ = c.tr ∧ o.back = c.back
/-- The box, the book and what the log was told. -/
structure OnceI (v : Int) (t : BkS) (B : List PlD) (T : List OpD) : Prop where
  bi : BI t
  rise : RiseP B
  pl : ∀ p ∈ B, p.c.saga ≤ t.last ∧ (NowC t v p.c ∨ PastK t p.c.saga p.c.step p.c.tr p.c.back)
  told : ∀ o ∈ T, o.saga ≤ t.last ∧ ((∃ p ∈ B, p.told = true ∧ keyed p.c o) ∨ PastK t o.saga o.step o.try_ o.back)
  open_ : ∀ p ∈ B, p.told = false → ∀ o ∈ T, ¬ keyed p.c o
theorem OnceI.start (v : Int) : OnceI v ⟨0, []⟩ [] [] := ⟨fun _ h => (by cases h), .nil, fun _ h => (by cases h), fun _ h => (by cases h), fun _ h => (by cases h)⟩
theorem OnceI.apply {v most : Int} {t : BkS} {B : List PlD} {T : List OpD} (h : OnceI v t B T) (hr : RiseE t.L) (o : OpD) : OnceI v (applyS most t o) B T := by
  obtain ⟨a, b, c⟩ := apply_goes most t o hr h.bi
  refine ⟨a, h.rise, fun p hp => ?_, fun q hq => ?_, h.open_⟩
  · obtain ⟨h1, h2⟩ := h.pl p hp
    exact ⟨by omega, h2.elim (fun k => (c _ h1).now k) (fun k => .inr ((c _ h1).past k))⟩
  · obtain ⟨h1, h2⟩ := h.told q hq
    exact ⟨by omega, h2.elim .inl (fun k => .inr ((c _ h1).past k))⟩
theorem entAt_in {L : List Ent} (hr : RiseE L) {x : Ent} (hx : x ∈ L) : entAt L x.id = some x := by
  obtain ⟨i, hi⟩ := List.mem_iff_getElem?.1 hx
  induction L generalizing i with
  | nil => cases hx
  | cons z r ih =>
    obtain ⟨h1, h2⟩ := List.pairwise_cons.1 hr
    unfold entAt
    rcases List.mem_cons.1 hx with rfl | hx
    · rw [List.find?_cons_of_pos (by simp)]
    · have := h1 x hx
      obtain ⟨j, hj⟩ := List.mem_iff_getElem?.1 hx
      rw [List.find?_cons_of_neg (by simp; omega)]
      exact ih h2 hx j hj
theorem sync_now {v : Int} {t : BkS} (hr : RiseE t.L) (B : List PlD) : ∀ p ∈ syncL v B t.L, NowC t v p.c := by
  intro p hp
  obtain ⟨x, hx, rfl⟩ := List.mem_map.1 hp
  obtain ⟨hm, hw⟩ := List.mem_filter.1 hx
  refine ⟨x, ?_, hw, (syncP_saga v B x).symm⟩
  rw [syncP_saga]
  exact entAt_in hr hm
theorem OnceI.sync {v : Int} {t : BkS} {B : List PlD} {T : List OpD} (h : OnceI v t B T) (hr : RiseE t.L) : OnceI v t (syncL v B t.L) T := by
  have hn := sync_now (v := v) hr B
  refine ⟨h.bi, sync_rise v B hr, fun p hp => ?_, fun o ho => ?_, fun p hp h0 o ho hk => ?_⟩
  · have h1 := hn p hp
    refine ⟨?_, .inl h1⟩
    obtain ⟨x, hx, _, _⟩ := h1
    obtain ⟨hm, e⟩ := entAt_mem hx
    have := (h.bi x hm).2
    omega
  · obtain ⟨h1, h2⟩ := h.told o ho
    refine ⟨h1, ?_⟩
    rcases h2 with ⟨p, hp, ht, hk⟩ | h2
    · obtain ⟨h3, h4⟩ := h.pl p hp
      have hk2 := hk
      obtain ⟨k1, k2, k3, k4⟩ := hk2
      rcases h4 with ⟨x, hx, hw, hc⟩ | h4
      · left
        have hid : x.id = p.c.saga := (entAt_mem hx).2
        have hpl := plAt_of h.rise hp
        have e : syncP v B x = p := by
          unfold syncP
          rw [hid, hpl]
          simp only
          rw [if_pos hc.symm]
        exact ⟨p, List.mem_map.2 ⟨x, List.mem_filter.2 ⟨(entAt_mem hx).1, hw⟩, e⟩, ht, hk⟩
      · right
        rw [k1, k2, k3, k4]
        exact h4
    · exact .inr h2
  · have h1 := hn p hp
    obtain ⟨k1, k2, k3, k4⟩ := hk
    obtain ⟨_, h2⟩ := h.told o ho
    have np := h1.past
    rcases h2 with ⟨q, hq, ht, hkq⟩ | h2
    · obtain ⟨_, h4⟩ := h.pl q hq
      obtain ⟨j1, j2, j3, j4⟩ := hkq
      rcases h4 with h4 | h4
      · have e : q.c = p.c := h4.same h1 (by omega)
        obtain ⟨x, hx, rfl⟩ := List.mem_map.1 hp
        have hpl := plAt_of h.rise hq
        have hxi : x.id = q.c.saga := by rw [e, syncP_saga]; rfl
        have e2 : syncP v B x = q := by
          unfold syncP
          rw [hxi, hpl]
          simp only
          rw [if_pos (e.trans (syncP_saga v B x))]
        rw [e2, ht] at h0
        cases h0
      · refine np ?_
        rw [← k1, ← k2, ← k3, ← k4, j1, j2, j3, j4]
        exact h4
    · exact np (by rw [← k1, ← k2, ← k3, ← k4]; exact h2)
theorem OnceI.grow {v : Int} {t : BkS} {B : List PlD} {T : List OpD} (h : OnceI v t B T) : OnceI v t (growL B) T := by
  refine ⟨h.bi, grow_rise h.rise, fun p hp => ?_, fun o ho => ?_, fun p hp h0 o ho hk => ?_⟩
  · obtain ⟨q, hq, rfl⟩ := List.mem_map.1 hp
    exact h.pl q hq
  · obtain ⟨h1, h2⟩ := h.told o ho
    exact ⟨h1, h2.imp (fun ⟨p, hp, ht, hk⟩ => ⟨p.grow, List.mem_map.2 ⟨p, hp, rfl⟩, ht, hk⟩) id⟩
  · obtain ⟨q, hq, rfl⟩ := List.mem_map.1 hp
    exact h.open_ q hq h0 o ho hk
/-- Some more are told, of places that were not told. -/
theorem OnceI.tell {v : Int} {t : BkS} {B : List PlD} {T : List OpD} (h : OnceI v t B T) (f : PlD → Bool) (kind : Int) (good : Bool) (hf : ∀ p ∈ B, f p = true → p.told = false) :
    OnceI v t (B.map fun p => if f p then p.tell else p) (T ++ (B.filter f).map (opP kind good)) := by
  have ec : ∀ p : PlD, (if f p then p.tell else p).c = p.c := fun p => by split <;> rfl
  refine ⟨h.bi, List.pairwise_map.2 (h.rise.imp fun {x y} e => by rw [ec, ec]; exact e), fun p hp => ?_, fun o ho => ?_, fun p hp h0 o ho hk => ?_⟩
  · obtain ⟨q, hq, rfl⟩ := List.mem_map.1 hp
    rw [ec]
    exact h.pl q hq
  · rcases List.mem_append.1 ho with ho | ho
    · obtain ⟨h1, h2⟩ := h.told o ho
      refine ⟨h1, h2.imp (fun ⟨p, hp, ht, hk⟩ => ⟨if f p then p.tell else p, List.mem_map.2 ⟨p, hp, rfl⟩, ?_, ?_⟩) id⟩
      · split
        · rfl
        · exact ht
      · rw [ec]; exact hk
    · obtain ⟨p, hp, rfl⟩ := List.mem_map.1 ho
      obtain ⟨hm, hfp⟩ := List.mem_filter.1 hp
      refine ⟨(h.pl p hm).1, .inl ⟨if f p then p.tell else p, List.mem_map.2 ⟨p, hm, rfl⟩, ?_, ?_⟩⟩
      · rw [if_pos hfp]; rfl
      · rw [ec]; exact ⟨rfl, rfl, rfl, rfl⟩
  · obtain ⟨q, hq, rfl⟩ := List.mem_map.1 hp
    rw [ec] at hk
    cases hfq : f q with
    | true => rw [if_pos hfq] at h0; cases h0
    | false =>
      rw [if_neg (by rw [hfq]; decide)] at h0
      rcases List.mem_append.1 ho with ho | ho
      · exact h.open_ q hq h0 o ho hk
      · obtain ⟨p, hp, rfl⟩ := List.mem_map.1 ho
        obtain ⟨hm, hfp⟩ := List.mem_filter.1 hp
        have e := plAt_of h.rise hm
        have e2 := plAt_of h.rise hq
        rw [show q.c.saga = p.c.saga from hk.1.symm, e] at e2
        obtain rfl := Option.some.inj e2
        rw [hfp] at hfq
        cases hfq
end Go.Proofs.YtdkiopajilakcaaGreat
/- How much a message has, up to some: droverref04.weigh, Steps. -/
namespace Go.Proofs.YtdkiopajilakcaaGreat
open Go.RowKit

/-- What weigh tells of an operation: it is above the number of its steps, as long as it is not above mx. -/
def WeighsN (mx : Int) (o : OpD) (w : World) (e : Ending) (w' : World) : Prop :=
  ∃ n : Int, e = .returned (.int .i64 n) ∧ 1 ≤ n ∧ n ≤ 20000000000000 ∧ (n ≤ mx → (o.steps.length : Int) < n) ∧ Later w w'

set_option maxHeartbeats 1000000 in
theorem weighn_any (mx : Int) (hm0 : 0 ≤ mx) (hm1 : mx ≤ 1000) (F : Nat → Prop) (o : OpD) (s : Value) (w : World) (hn : o.name.size ≤ 140737488355328) (hs : ∀ x ∈ o.steps, x.wf) (h : StepsAt F w s o.steps) :
    Calls Tryz.prog 62 #[.agg (o.cells s).toArray, .int .i64 mx] w (WeighsN mx o w) := by
  obtain ⟨A, c, rfl, h1, h2, _⟩ := FlatAt.shape h
  unfold maxLen at h2
  have HS := hide hs
  have HF := hide h
  clear hs h
  unfold OpD.cells
  obtain ⟨L, hL⟩ : ∃ L, o.steps.length = L := ⟨_, rfl⟩
  rw [hL] at h1 HF ⊢
  have HL := hide hL
  clear hL
  obtain ⟨z, hz⟩ : ∃ z, z = o.name.size / 20 := ⟨_, rfl⟩
  have hz1 : (o.name.size : Int) / 20 = (z : Int) := by omega
  have hz2 : z ≤ 8000000000000 := by omega
  clear hz
  go_enter Tryz.func62, Tryz.ntmps62
  go_wp2
  go_loopw [5, 18] (fun n i wr => ∃ (q : Int) (k : Nat), k ≤ L ∧ n = .int .i64 q ∧ i = .int .i64 (k : Int) ∧ (k : Int) < q ∧ q ≤ 8000000000001 ∧ (0 < k → q ≤ mx) ∧ Below w.heap.size w wr) (fun _ i _ => L - (Go.RowKit.intOf i).toNat)
  case atStart => exact ⟨_, 0, by omega, rfl, rfl, by omega, by omega, by omega, (Below.refl _ _).alloc (Nat.le_refl _) _⟩
  case round =>
    obtain ⟨q, k, hk, rfl, rfl, hq1, hq2, hq3, hb⟩ := hrel
    have HB := hide hb
    clear hb
    by_cases hkl : k < L
    · obtain ⟨x, b, off, c', hx, hv, _, _, hb, hr⟩ := StepsAt.at_ (HF.out.kept (Kept.of_below HB.out F)) (i := k) (by rw [HL.out]; exact hkl)
      obtain ⟨rfl, rfl⟩ : A = some ⟨b, off, none⟩ ∧ c = c' := by injection hv with e1 _ e3; exact ⟨e1, e3⟩
      obtain ⟨r0, r1, r2, r3, r4, r5⟩ := range_step hr
      have hxn := (HS.out x (List.mem_of_getElem? hx)).1
      obtain ⟨y, hy⟩ : ∃ y, y = x.name.size / 20 := ⟨_, rfl⟩
      have hy1 : (x.name.size : Int) / 20 = (y : Int) := by omega
      have hy2 : y ≤ 8000000000000 := by omega
      clear hy hx hv hr
      go_wp2
      · go_ret
        exact ⟨_, rfl, by omega, by omega, by omega, HB.out.trans ((Below.alloc (Below.refl _ _) (Nat.le_refl _) _).mono HB.out.size)⟩
      · go_roundw
        case rel => exact ⟨q + (1 + y), k + 1, by omega, rfl, by go_num, by omega, by omega, by omega, HB.out.trans ((Below.alloc (Below.refl _ _) (Nat.le_refl _) _).mono HB.out.size)⟩
        case measure => simp [Go.RowKit.intOf]; omega
    · go_wp2
      go_ret
      exact ⟨_, rfl, by omega, by omega, by rw [HL.out]; omega, HB.out⟩

/-- What Steps tells of a message that is not above mx. -/
def MsgD.lightN (mx : Int) (m : MsgD) : Prop := (m.op.steps.length : Int) ≤ mx ∧ (m.ops.length : Int) ≤ mx ∧ ∀ o ∈ m.ops, (o.steps.length : Int) ≤ mx
def CountsN (mx : Int) (m : MsgD) (w : World) (e : Ending) (w' : World) : Prop :=
  ∃ n : Int, e = .returned (.int .i64 n) ∧ (n ≤ mx → m.lightN mx) ∧ Later w w'

/-- So far none has more than mx steps. -/
def SomeN (mx : Int) (m : MsgD) (ps : List (OpD × Value)) (k : Nat) : Prop := (m.op.steps.length : Int) ≤ mx ∧ ∀ p ∈ ps.take k, (p.1.steps.length : Int) ≤ mx
theorem somen_step {mx : Int} {m : MsgD} {ps : List (OpD × Value)} {k : Nat} {x : OpD} {s : Value} (hx : ps[k]? = some (x, s)) (h : SomeN mx m ps k) (hs : (x.steps.length : Int) ≤ mx) : SomeN mx m ps (k + 1) := by
  refine ⟨h.1, fun p hp => ?_⟩
  rw [List.take_add_one, hx] at hp
  rcases List.mem_append.1 hp with hp | hp
  · exact h.2 p hp
  · obtain rfl : p = (x, s) := by simpa using hp
    exact hs
theorem somen_end {mx : Int} {m : MsgD} {ps : List (OpD × Value)} {k : Nat} (hp : ps.map (·.1) = m.ops) (hl : m.ops.length = ps.length) (hk : ps.length ≤ k) (hq : (k : Int) ≤ mx) (h : SomeN mx m ps k) : m.lightN mx := by
  refine ⟨h.1, by omega, fun o ho => ?_⟩
  rw [← hp] at ho
  obtain ⟨p, hp, rfl⟩ := List.mem_map.1 ho
  exact h.2 p (by rwa [List.take_of_length_le hk])

set_option maxHeartbeats 2000000 in
set_option maxRecDepth 100000 in
theorem stepsn_any (mx : Int) (hm0 : 0 ≤ mx) (hm1 : mx ≤ 1000) (F : Nat → Prop) (m : MsgD) (s o i : Value) (w : World) (hw : m.wf) (h : Lists F w m s o i) :
    Calls Tryz.prog 32 #[.agg (m.cells s o i).toArray, .int .i64 mx] w (CountsN mx m w) := by
  obtain ⟨hs, ⟨ps, hps, ho⟩, hi⟩ := h
  have hl : m.ops.length = ps.length := by rw [← hps]; simp
  have hwp : ∀ p ∈ ps, p.1.wf := fun p hp => hw.2.2.2.2.2.2.2.2.2.2.2.2.2.2.2.2.2.2.2.1 p.1 (by rw [← hps]; exact List.mem_map_of_mem hp)
  have hwo : m.op.wf := hw.2.2.2.2.2.2.2.2.2.1
  have HP := hide hps
  have HW := hide hwp
  have HL := hide hl
  have HO := hide ho
  obtain ⟨A, c, rfl, h1, h2, _⟩ := FlatAt.shape ho.1
  unfold maxLen at h2
  have C1 := hide (fun w' (hb : Below w.heap.size w w') => weighn_any mx hm0 hm1 F m.op s w' hwo.2.2.2.1 hwo.2.2.2.2.1 (hs.kept (Kept.of_below hb F)))
  clear hs hps ho hi hw hwp hwo hl
  unfold MsgD.cells
  unfold OpD.cells at C1
  go_enter Tryz.func32, Tryz.ntmps32
  go_wp2_with (fail)
  refine (C1.out _ ((Below.refl _ _).alloc (Nat.le_refl _) _)).mono ?_
  rintro e w1 ⟨q, rfl, hq1, hq2, hq3, hb⟩
  have HB1 : Hid (Below w.heap.size w w1) := ((Below.refl _ _).alloc (Nat.le_refl _) _).trans (Below.mono hb (by simp))
  have hbox : w1.heap[w.heap.size]? = _ := (hb.block w.heap.size (by simp)).trans (heap_alloc_new w _)
  have f15 := cell_of_row w1 w.heap.size 32 _ _ _ hbox
  simp only [List.getElem?_toArray, List.getElem?_cons_succ, List.getElem?_cons_zero] at f15
  have HQ := hide hq3
  have HX := hide hbox
  clear hb hq3 hbox C1
  go_wp2
  go_loopw [5, 15] (fun n i wr => ∃ (q : Int) (k : Nat), k ≤ ps.length ∧ n = .int .i64 q ∧ i = .int .i64 (k : Int) ∧ (k : Int) < q ∧ q ≤ 20000000002000 ∧ (q ≤ mx → SomeN mx m ps k) ∧ Below w.heap.size w wr) (fun _ i _ => ps.length - (Go.RowKit.intOf i).toNat)
  case atStart => exact ⟨q, 0, by omega, rfl, rfl, by omega, by omega, fun h => ⟨by have := HQ.out h; omega, by simp⟩, HB1.out⟩
  case round =>
    obtain ⟨q, k, hk, rfl, rfl, hq1, hq2, hq3, hb⟩ := hrel
    have HQ3 := hide hq3
    have HB := hide hb
    clear hb hq3
    by_cases hkl : k < ps.length
    · obtain ⟨x, xs, b, off, c', hx, hv, _, _, hb, hr, hst⟩ := OpsIn.at_ (HO.out.kept (Kept.of_below HB.out F)) (i := k) hkl
      obtain ⟨rfl, rfl⟩ : A = some ⟨b, off, none⟩ ∧ c = c' := by injection hv with e1 _ e3; exact ⟨e1, e3⟩
      obtain ⟨r0, r1, r2, r3, r4, r5, r6, r7, r8, r9⟩ := range_op hr
      have hwx : x.wf := HW.out _ (List.mem_of_getElem? hx)
      have HX2 := hide hx
      obtain ⟨sA, sc, rfl, _, _, _⟩ := FlatAt.shape hst
      have C2 := hide (fun w' (hb : Below wr.heap.size wr w') => weighn_any mx hm0 hm1 F x _ w' hwx.2.2.2.1 hwx.2.2.2.2.1 (hst.kept (Kept.of_below hb F)))
      unfold OpD.cells at C2
      clear hx hv hr hst hwx
      by_cases hbig : q ≤ mx
      · go_wp2_with (fail)
        refine (C2.out _ ((Below.refl _ _).alloc (Nat.le_refl _) _)).mono ?_
        rintro e w2 ⟨r, rfl, hr1, hr2, hr3, hb⟩
        have HB2 : Hid (Below w.heap.size w w2) := HB.out.trans ((((Below.refl _ _).alloc (Nat.le_refl _) _).trans (Below.mono hb (by simp))).mono HB.out.size)
        have HR := hide hr3
        clear hb hr3 C2
        go_wp2
        go_roundw
        case rel => exact ⟨q + (1 + r), k + 1, by omega, rfl, by go_num, by omega, by omega, fun h => somen_step HX2.out (HQ3.out hbig) (by have := HR.out (by omega); omega), HB2.out⟩
        case measure => simp [Go.RowKit.intOf]; omega
      · go_wp2_with (fail)
        go_ret
        exact ⟨_, rfl, fun h => absurd h (by omega), HB.out.trans (((Below.refl _ _).alloc (Nat.le_refl _) _).mono HB.out.size)⟩
    · go_wp2
      go_ret
      exact ⟨_, rfl, fun h => somen_end HP.out HL.out (by omega) (by omega) (HQ3.out h), HB.out⟩
end Go.Proofs.YtdkiopajilakcaaGreat
/- From what a row says of steps and definitions that came in to what the walks are told of them. -/
namespace Go.Proofs.YtdkiopajilakcaaGreat
open Go.RowKit

/-- No string and no slice in the datum is too long. -/
def Sm {H : Type} (t : TypeId) (d : DataW H) : Prop := ∀ n ∈ d.weights Tryz.prog t, n ≤ reachBytes
theorem weights_mem_all {H : Type} {P : Program} {e : TypeId} {d : DataW H} : ∀ {l : List (DataW H)}, d ∈ l → ∀ n ∈ d.weights P e, n ∈ DataW.weightsAll P e l
  | [], h, _, _ => by cases h
  | y :: r, h, n, hn => by
    simp only [DataW.weightsAll, List.mem_append]
    rcases List.mem_cons.1 h with rfl | h
    · exact .inl hn
    · exact .inr (weights_mem_all h n hn)

section
variable {H : Type} {enc : TypeId × Value → H} {W : World}
/-- The reading of an argument. -/
abbrev Rdg (enc : TypeId × Value → H) (W : World) (n : Nat) (t : TypeId) (cs : List Value) (x : DataW H × List MemPlace) : Prop := DataW.trod enc Tryz.prog W 0 (fun _ => true) true n t cs = some x

/-- A struct's fields. -/
theorem open_fields {t : TypeId} {fs : Array Field} {n : Nat} {cs : List Value} {x : DataW H × List MemPlace} (ht : Tryz.prog.underlying t = some (.struct fs)) (h : Rdg enc W n t cs x) (hs : Sm t x.1) :
    ∃ m, cs.length = Tryz.prog.cellsOf t ∧ ∀ (i : Nat) (f : Field), fs[i]? = some f → ∃ y, Rdg enc W m f.type ((cs.drop f.offset).take (Tryz.prog.cellsOf f.type)) y ∧ Sm f.type y.1 := by
  obtain ⟨xs, m, _, hx, hl, hxl, hf⟩ := DataW.trod_struct ht h
  refine ⟨m, hl, fun i f hi => ?_⟩
  have hil : i < xs.length := by rw [hxl]; exact (Array.getElem?_eq_some_iff.1 hi).1
  refine ⟨xs[i], (hf i f hi).trans (List.getElem?_eq_getElem hil), fun k hk => hs k ?_⟩
  rw [hx]
  simp only [DataW.weights, ht]
  exact DataW.weights_mem_each (j := i) (t := f.type) (d := xs[i].1) (by simp [hi]) (by simp [hil]) k hk
theorem open_int1 {t : TypeId} {n : Nat} {c : Value} {x : DataW H × List MemPlace} (ht : Tryz.prog.underlying t = some (.int .i64)) (h : Rdg enc W n t [c] x) : ∃ a : Int, c = .int .i64 a ∧ I64 a := by
  obtain ⟨a, h0, _, w0⟩ := DataW.trod_int ht h
  have b0 := bounds_i64 w0
  simp only [List.cons.injEq, and_true] at h0
  exact ⟨a, h0, by unfold I64; omega⟩
theorem open_bool1 {t : TypeId} {n : Nat} {c : Value} {x : DataW H × List MemPlace} (ht : Tryz.prog.underlying t = some .bool) (h : Rdg enc W n t [c] x) : ∃ a : Bool, c = .bool a := by
  obtain ⟨a, h0, _⟩ := DataW.trod_bool ht h
  simp only [List.cons.injEq, and_true] at h0
  exact ⟨a, h0⟩
theorem open_str1 {t : TypeId} {n : Nat} {c : Value} {x : DataW H × List MemPlace} (ht : Tryz.prog.underlying t = some .string) (h : Rdg enc W n t [c] x) (hs : Sm t x.1) : ∃ s : ByteArray, c = .string s ∧ s.size ≤ 140737488355328 := by
  obtain ⟨s, h0, h1, _⟩ := DataW.trod_string ht h
  simp only [List.cons.injEq, and_true] at h0
  refine ⟨s, h0, ?_⟩
  have := hs s.data.toList.length (by rw [h1]; simp [DataW.weights])
  unfold reachBytes at this
  rw [Array.length_toList] at this
  show s.data.size ≤ _
  omega

/-- The elements of a slice. -/
theorem open_elems {α : Type} [Inhabited α] (cells : α → List Value) (good : α → Prop) {t e : TypeId} (k : Nat) (hk : 0 < k) (hck : ∀ y, (cells y).length = k) (ht : Tryz.prog.underlying t = some (.slice e)) (hc : Tryz.prog.cellsOf e = k)
    (hel : ∀ (n : Nat) (cs : List Value) (x : DataW H × List MemPlace), Rdg enc W n e cs x → Sm e x.1 → ∃ y : α, cs = cells y ∧ good y) (hone : ∀ y, good y → ∀ u ∈ cells y, u.oneCell' = true)
    {n : Nat} {v : Value} {x : DataW H × List MemPlace} (h : Rdg enc W n t [v] x) (hs : Sm t x.1) :
    ∃ ys : List α, FlatAt (· < W.heap.size) W k v ys.length (ys.flatMap cells) ∧ ∀ y ∈ ys, good y := by
  rcases Go.Deep.open_slice ht h with ⟨hcs, _⟩ | ⟨a, l, c, m, n', D, Pl, hcs, _, hl, hm, hmm, hx, hi⟩
  · obtain rfl : v = .slice none 0 0 := by simpa using hcs
    exact ⟨[], FlatAt.nil_ _ _ _, by simp⟩
  · obtain rfl : v = .slice (some a) l c := by simpa using hcs
    simp only [if_true] at hmm
    rw [hc] at hi
    obtain ⟨F, hF⟩ := Go.Deep.choose_lt (p := fun i (y : α) => (∀ j u, (cells y)[j]? = some u → W.cell? (a.add (i * k + j)) = some u) ∧ good y) fun i (hil : i < l) => by
      obtain ⟨cs', h1, h2⟩ := hi i (by omega)
      have hsm : Sm e (D i) := fun q hq => hs q (by
        rw [hx]
        simp only [DataW.weights, ht]
        exact List.mem_cons_of_mem _ (List.mem_append_left _ (weights_mem_all (List.mem_map.2 ⟨i, List.mem_range.2 hil, rfl⟩) q hq)))
      obtain ⟨y, hy, hg⟩ := hel n' cs' (D i, Pl i) h2 hsm
      obtain ⟨_, hlen, hat⟩ := World.cells?_some h1
      refine ⟨y, fun j u hu => ?_, hg⟩
      have hj : j < k := by rw [← hck y]; exact (List.getElem?_eq_some_iff.1 hu).1
      rw [← Go.Deep.add_add, hat j hj, hy, hu]
    refine ⟨(List.range l).map F, ⟨?_, ?_, some a, c, by simp, by simpa using hl, hm, (fun e => by cases e), fun hn => ?_⟩, fun y hy => ?_⟩
    · exact flat_len cells k _ (fun y _ => hck y)
    · intro u hu
      obtain ⟨y, hy, hu⟩ := List.mem_flatMap.1 hu
      obtain ⟨i, hi, rfl⟩ := List.mem_map.1 hy
      exact hone _ (hF i (List.mem_range.1 hi)).2 u hu
    · have hn' : 0 < l := by simpa using hn
      obtain ⟨b, off, spot⟩ := a
      have hk0 : (cells (F 0))[0]? = some ((cells (F 0))[0]'(by rw [hck]; exact hk)) := List.getElem?_eq_getElem (by rw [hck]; exact hk)
      have h0 := (hF 0 hn').1 0 _ hk0
      have hspot : spot = none := by simpa [Addr.add] using World.cell?_spot h0
      subst hspot
      have hblt : b < W.heap.size := World.block_lt_of_cell? W _ (by simpa [Addr.add] using h0)
      refine ⟨b, off, rfl, hblt, hblt, fun j u hj => ?_⟩
      have hjl : j < l * k := by
        have := (List.getElem?_eq_some_iff.1 hj).1
        rw [flat_len cells k _ (fun y _ => hck y)] at this
        simpa using this
      have hq : j / k < l := Nat.div_lt_of_lt_mul (by rwa [Nat.mul_comm])
      have hr : j % k < k := Nat.mod_lt _ hk
      have hj2 : j = j / k * k + j % k := by rw [Nat.mul_comm]; exact (Nat.div_add_mod j k).symm
      have hge := flat_get cells k ((List.range l).map F) (j / k) (F (j / k)) (fun y _ => hck y) (by simp [hq])
      have hu : (cells (F (j / k)))[j % k]? = some u := by
        rw [← hge, List.getElem?_take_of_lt hr, List.getElem?_drop, ← hj2, hj]
      have := (hF (j / k) hq).1 (j % k) u hu
      rwa [Addr.add_lit, ← hj2] at this
    · obtain ⟨i, hi, rfl⟩ := List.mem_map.1 hy
      exact (hF i (List.mem_range.1 hi)).2
end

instance : Inhabited StepD := ⟨⟨⟨#[]⟩, 0, 0, 0, false, false⟩⟩
instance : Inhabited (OpD × Value) := ⟨⟨.zero, .slice none 0 0⟩⟩
section
variable {H : Type} {enc : TypeId × Value → H} {W : World}
set_option maxRecDepth 100000

theorem open_step {n : Nat} {cs : List Value} {x : DataW H × List MemPlace} (h : Rdg enc W n 79 cs x) (hs : Sm 79 x.1) :
    ∃ s : StepD, cs = s.cells ∧ s.wf := by
  obtain ⟨m, hl, hf⟩ := open_fields Tryz.underlying79 h hs
  have hl : cs.length = 6 := hl
  match cs, hl with
  | [c0, c1, c2, c3, c4, c5], _ =>
    obtain ⟨y0, g0, s0⟩ := hf 0 _ rfl
    have g0 : Rdg enc W m 9 [c0] y0 := (congrArg (fun q => DataW.trod enc Tryz.prog W 0 (fun _ => true) true m 9 q) (show ([c0, c1, c2, c3, c4, c5].drop 0).take (Tryz.prog.cellsOf 9) = [c0] from by rw [show Tryz.prog.cellsOf 9 = 1 from by kernel_rfl]; rfl)).symm.trans g0
    obtain ⟨a0, e0, w0⟩ := open_str1 Tryz.underlying9 g0 s0
    obtain ⟨y1, g1, s1⟩ := hf 1 _ rfl
    have g1 : Rdg enc W m 3 [c1] y1 := (congrArg (fun q => DataW.trod enc Tryz.prog W 0 (fun _ => true) true m 3 q) (show ([c0, c1, c2, c3, c4, c5].drop 1).take (Tryz.prog.cellsOf 3) = [c1] from by rw [show Tryz.prog.cellsOf 3 = 1 from by kernel_rfl]; rfl)).symm.trans g1
    obtain ⟨a1, e1, w1⟩ := open_int1 Tryz.underlying3 g1
    obtain ⟨y2, g2, s2⟩ := hf 2 _ rfl
    have g2 : Rdg enc W m 3 [c2] y2 := (congrArg (fun q => DataW.trod enc Tryz.prog W 0 (fun _ => true) true m 3 q) (show ([c0, c1, c2, c3, c4, c5].drop 2).take (Tryz.prog.cellsOf 3) = [c2] from by rw [show Tryz.prog.cellsOf 3 = 1 from by kernel_rfl]; rfl)).symm.trans g2
    obtain ⟨a2, e2, w2⟩ := open_int1 Tryz.underlying3 g2
    obtain ⟨y3, g3, s3⟩ := hf 3 _ rfl
    have g3 : Rdg enc W m 3 [c3] y3 := (congrArg (fun q => DataW.trod enc Tryz.prog W 0 (fun _ => true) true m 3 q) (show ([c0, c1, c2, c3, c4, c5].drop 3).take (Tryz.prog.cellsOf 3) = [c3] from by rw [show Tryz.prog.cellsOf 3 = 1 from by kernel_rfl]; rfl)).symm.trans g3
    obtain ⟨a3, e3, w3⟩ := open_int1 Tryz.underlying3 g3
    obtain ⟨y4, g4, s4⟩ := hf 4 _ rfl
    have g4 : Rdg enc W m 4 [c4] y4 := (congrArg (fun q => DataW.trod enc Tryz.prog W 0 (fun _ => true) true m 4 q) (show ([c0, c1, c2, c3, c4, c5].drop 4).take (Tryz.prog.cellsOf 4) = [c4] from by rw [show Tryz.prog.cellsOf 4 = 1 from by kernel_rfl]; rfl)).symm.trans g4
    obtain ⟨a4, e4⟩ := open_bool1 Tryz.underlying4 g4
    obtain ⟨y5, g5, s5⟩ := hf 5 _ rfl
    have g5 : Rdg enc W m 4 [c5] y5 := (congrArg (fun q => DataW.trod enc Tryz.prog W 0 (fun _ => true) true m 4 q) (show ([c0, c1, c2, c3, c4, c5].drop 5).take (Tryz.prog.cellsOf 4) = [c5] from by rw [show Tryz.prog.cellsOf 4 = 1 from by kernel_rfl]; rfl)).symm.trans g5
    obtain ⟨a5, e5⟩ := open_bool1 Tryz.underlying4 g5
    subst e0 e1 e2 e3 e4 e5
    exact ⟨⟨a0, a1, a2, a3, a4, a5⟩, rfl, w0, w1, w2, w3⟩

theorem open_steps {n : Nat} {v : Value} {x : DataW H × List MemPlace} (h : Rdg enc W n 33 [v] x) (hs : Sm 33 x.1) : ∃ l, StepsAt (· < W.heap.size) W v l ∧ ∀ s ∈ l, s.wf := by
  obtain ⟨ys, h1, h2⟩ := open_elems StepD.cells StepD.wf 6 (by decide) StepD.len Tryz.underlying33 (by kernel_rfl) (fun n cs x h hs => open_step h hs) (fun y _ => y.one) h hs
  exact ⟨ys, h1, h2⟩

theorem open_def {n : Nat} {cs : List Value} {x : DataW H × List MemPlace} (h : Rdg enc W n 35 cs x) (hs : Sm 35 x.1) :
    ∃ (nm : ByteArray) (v : Value) (l : List StepD), cs = [.string nm, v] ∧ nm.size ≤ 140737488355328 ∧ StepsAt (· < W.heap.size) W v l ∧ ∀ s ∈ l, s.wf := by
  obtain ⟨m, hl, hf⟩ := open_fields Tryz.underlying35 h hs
  have hl : cs.length = 2 := hl
  match cs, hl with
  | [c0, c1], _ =>
    obtain ⟨y0, g0, s0⟩ := hf 0 _ rfl
    have g0 : Rdg enc W m 9 [c0] y0 := (congrArg (fun q => DataW.trod enc Tryz.prog W 0 (fun _ => true) true m 9 q) (show ([c0, c1].drop 0).take (Tryz.prog.cellsOf 9) = [c0] from by rw [show Tryz.prog.cellsOf 9 = 1 from by kernel_rfl]; rfl)).symm.trans g0
    obtain ⟨a0, e0, w0⟩ := open_str1 Tryz.underlying9 g0 s0
    obtain ⟨y1, g1, s1⟩ := hf 1 _ rfl
    have g1 : Rdg enc W m 33 [c1] y1 := (congrArg (fun q => DataW.trod enc Tryz.prog W 0 (fun _ => true) true m 33 q) (show ([c0, c1].drop 1).take (Tryz.prog.cellsOf 33) = [c1] from by rw [show Tryz.prog.cellsOf 33 = 1 from by kernel_rfl]; rfl)).symm.trans g1
    obtain ⟨l, hl1, hl2⟩ := open_steps g1 s1
    subst e0
    exact ⟨a0, _, l, rfl, w0, hl1, hl2⟩
/-- Arguments: a struct by value, a slice. -/
theorem sm_of {ts : List TypeId} {ds : List (DataW H)} (hsz : (DataW.weightsEach Tryz.prog ts ds).all (· ≤ reachBytes) = true) {j : Nat} {t : TypeId} {d : DataW H} (ht : ts[j]? = some t) (hd : ds[j]? = some d) : Sm t d := fun n hn => by
  have := List.all_eq_true.1 hsz n (DataW.weights_mem_each ht hd n hn)
  simpa using this
theorem arg_def {cs : Array Value} {d : DataW H} {p : List MemPlace} (h : DataW.Trod enc Tryz.prog W 0 (fun _ => true) true 35 (.agg cs) d p) (hs : Sm 35 d) :
    ∃ (nm : ByteArray) (v : Value) (l : List StepD), cs = #[.string nm, v] ∧ StepsAt (· < W.heap.size) W v l ∧ nm.size ≤ 140737488355328 ∧ ∀ s ∈ l, s.wf := by
  obtain ⟨fuel, hf⟩ := h
  obtain ⟨nm, v, l, e, h1, h2, h3⟩ := open_def (n := fuel) (x := (d, p)) hf hs
  refine ⟨nm, v, l, ?_, h2, h1, h3⟩
  have e2 : cs.toList = [.string nm, v] := e
  exact Array.toList_inj.1 (by rw [e2])
theorem arg_step {cs : Array Value} {d : DataW H} {p : List MemPlace} (h : DataW.Trod enc Tryz.prog W 0 (fun _ => true) true 79 (.agg cs) d p) (hs : Sm 79 d) : ∃ s : StepD, cs = s.cells.toArray ∧ s.wf := by
  obtain ⟨fuel, hf⟩ := h
  obtain ⟨s, e, wf⟩ := open_step (n := fuel) (x := (d, p)) hf hs
  refine ⟨s, ?_, wf⟩
  have e2 : cs.toList = s.cells := e
  rw [← e2]
end
end Go.Proofs.YtdkiopajilakcaaGreat
/- The document's example. -/
namespace Go.Proofs.YtdkiopajilakcaaGreat
open Go.RowKit
def hold : StepD := ⟨⟨#[104, 111, 108, 100]⟩, 1, 0, 5, true, false⟩
def ship : StepD := ⟨⟨#[115, 104, 105, 112]⟩, 2, 0, 5, false, true⟩
abbrev l2 : List StepD := [hold, ship]
abbrev nmA : ByteArray := ⟨#[97]⟩
theorem l2_ok : (checkF nmA l2).2 = 0 := by decide +kernel
theorem l2_wf : ∀ x ∈ l2, x.wf := by simp [hold, ship, StepD.wf, I64]; decide
theorem rep1 (p : Option Addr) (n c : Nat) : reportF l2 ⟨nmA, p, n, c, 1, 1, 1, upH 0⟩ 1 1 false true = ⟨nmA, p, n, c, 1, 2, 1, upH 1⟩ ∧ isIt l2 ⟨nmA, p, n, c, 1, 1, 1, upH 0⟩ 1 1 false = true := ⟨by kernel_rfl, by kernel_rfl⟩
theorem rep2 (p : Option Addr) (n c : Nat) : reportF l2 ⟨nmA, p, n, c, 1, 2, 1, upH 1⟩ 2 1 false false = ⟨nmA, p, n, c, 2, 1, 1, upH 1⟩ ∧ isIt l2 ⟨nmA, p, n, c, 1, 2, 1, upH 1⟩ 2 1 false = true := ⟨by kernel_rfl, by kernel_rfl⟩
theorem rep3 (p : Option Addr) (n c : Nat) : reportF l2 ⟨nmA, p, n, c, 2, 1, 1, upH 1⟩ 1 1 true true = ⟨nmA, p, n, c, 4, 0, 0, upH 0⟩ ∧ isIt l2 ⟨nmA, p, n, c, 2, 1, 1, upH 1⟩ 1 1 true = true := ⟨by kernel_rfl, by kernel_rfl⟩
theorem two_steps (w : World) (F : Nat → Prop) (hF : F w.heap.size) : StepsAt F (w.alloc (.cells (hold.cells.toArray ++ ship.cells.toArray) 79 (0, 0))) (.slice (some ⟨w.heap.size, 0, none⟩) 2 2) l2 := by
  have hb : (w.alloc (.cells (hold.cells.toArray ++ ship.cells.toArray) 79 (0, 0))).heap[w.heap.size]? = some (.cells (hold.cells.toArray ++ ship.cells.toArray) 79 (0, 0)) := heap_alloc_new _ _
  refine ⟨by rfl, cells_one l2, some ⟨w.heap.size, 0, none⟩, 2, rfl, Nat.le_refl _, by unfold maxLen; omega, (fun h => by cases h), fun _ => ⟨w.heap.size, 0, rfl, hF, lt_of_block hb, fun j u hj => ?_⟩⟩
  rw [cell_of_row _ _ _ _ _ _ hb, Nat.zero_add]
  simpa [hold, ship, StepD.cells] using hj
section
variable {w : World}
end
end Go.Proofs.YtdkiopajilakcaaGreat
/- Definitions that are too long to be looked at. -/
namespace Go.Proofs.YtdkiopajilakcaaGreat
open Go.RowKit

def longF (name : ByteArray) (l : List StepD) : Bool := decide (400 < name.size) || (decide (40 < l.length) || l.any fun s => decide (400 < s.name.size))
section
variable {w : World}
end
end Go.Proofs.YtdkiopajilakcaaGreat
/- The document's sums. -/
namespace Go.Proofs.YtdkiopajilakcaaGreat
open Go.RowKit

/-- What is counted. -/
def cntF (b : Bool) (s : StepD) : Int := if b then ticksF s else triesF s
theorem cnt_range (b : Bool) {s : StepD} (h : stepBad s = false) : 0 ≤ cntF b s ∧ cntF b s ≤ 1000 := by
  cases b with
  | false => exact tries_range h
  | true => exact ticks_range h
theorem cnt_undo (b u : Bool) (s : StepD) (f : Int) (h : cntF b s = f) : (if u then cntF b s * 2 else cntF b s) = if u then f * 2 else f := by rw [h]
section
variable {w : World}
end
end Go.Proofs.YtdkiopajilakcaaGreat
/- SagaEnds. -/
namespace Go.Proofs.YtdkiopajilakcaaGreat
open Go.RowKit
def UsAt (F : Nat → Prop) (w : World) (v : Value) (l : List Int) : Prop := FlatAt F w 1 v l.length (l.map fun x => .int .u64 x)
theorem UsAt.kept {F : Nat → Prop} {w w' : World} {v : Value} {l : List Int} (h : UsAt F w v l) (hk : Kept F w w') : UsAt F w' v l := FlatAt.kept h hk
theorem UsAt.at_ {F : Nat → Prop} {w : World} {v : Value} {l : List Int} (h : UsAt F w v l) {i : Nat} (hi : i < l.length) : ∃ x b off c, l[i]? = some x ∧ v = .slice (some ⟨b, off, none⟩) l.length c ∧ l.length ≤ c ∧ F b ∧ b < w.heap.size ∧ w.cell? ⟨b, off + i, none⟩ = some (.int .u64 x) := by
  obtain ⟨b, off, c, hv, hc, hf, hb, hr⟩ := FlatAt.elem h hi
  have hs : l[i]? = some l[i] := List.getElem?_eq_getElem hi
  refine ⟨l[i], b, off, c, hs, hv, hc, hf, hb, ?_⟩
  have := hr 0 (.int .u64 l[i]) (by simp [List.getElem?_drop, hs])
  simpa using this
/-- A saga that is under way, or at its end. -/
def Way (l : List StepD) (name : ByteArray) (s : SagaD) : Prop := s.name = name ∧ ((∃ q, Runs l s q) ∨ (∃ q, Backs l s q) ∨ s.st = 3 ∨ s.st = 4 ∨ s.st = 5) ∧ 0 ≤ s.step ∧ s.step ≤ 9
/-- What an event that is about what is wanted makes of it. -/
theorem way_next {name : ByteArray} {l : List StepD} {s : SagaD} {ev : EvD} (hc : (checkF name l).2 = 0) (h : Way l name s) (hl : s.st = 1 ∨ s.st = 2) (hk : 3 ≤ ev.kind) : (happenF l s ev).2 = true ∧ happenL l s ev = l ∧ Way l name (happenF l s ev).1 ∧ phi l (happenF l s ev).1 + 1 ≤ phi l s := by
  obtain ⟨rfl, h, _⟩ := h
  have h8 := (check_good hc).1
  have hL : happenL l s ev = l := by unfold happenL; rw [if_neg (by omega)]
  rcases h with ⟨q, h⟩ | ⟨q, h⟩ | h | h | h
  · rw [hap_it (h.wants hc) hk]
    obtain ⟨e1, e2⟩ := run_ev hc h ev.kind
    have hq := h.lt
    have hsp := h.step
    refine ⟨rfl, hL, ⟨e1, ?_, ev_step ev.kind (by omega) (by omega) h8⟩, run_less hc h e2⟩
    rcases e2 with ⟨_, _, e⟩ | ⟨_, e, _⟩ | ⟨_, e, _⟩ | ⟨_, e⟩ | ⟨_, _, e⟩ | ⟨_, j, e, _⟩
    · exact .inr (.inr (.inl e))
    · exact .inl ⟨_, e⟩
    · exact .inl ⟨_, e⟩
    · exact .inr (.inr (.inr (.inr e)))
    · exact .inr (.inr (.inr (.inl e)))
    · exact .inr (.inl ⟨_, e⟩)
  · rw [hap_it (h.wants hc) hk]
    obtain ⟨e1, e2⟩ := back_ev hc h ev.kind
    have hq := h.lt
    have hsp := h.step
    refine ⟨rfl, hL, ⟨e1, ?_, ev_step ev.kind (by omega) (by omega) h8⟩, back_less hc h e2⟩
    rcases e2 with ⟨_, _, e⟩ | ⟨_, j, _, e, _⟩ | ⟨_, e, _⟩ | ⟨_, e⟩
    · exact .inr (.inr (.inr (.inl e)))
    · exact .inr (.inl ⟨_, e⟩)
    · exact .inr (.inl ⟨_, e⟩)
    · exact .inr (.inr (.inr (.inr e)))
  · omega
  · omega
  · omega
theorem way_step {name : ByteArray} {l : List StepD} {s : SagaD} (hc : (checkF name l).2 = 0) (h : Way l name s) (hl : s.st = 1 ∨ s.st = 2) : I64 s.step ∧ 1 ≤ phi l s := by
  obtain ⟨rfl, h, _⟩ := h
  have h8 := (check_good hc).1
  rcases h with ⟨q, h⟩ | ⟨q, h⟩ | h | h | h
  · have := h.lt; have := h.step; have := h.pos hc; have := U_nn hc (Nat.le_refl l.length); exact ⟨by unfold I64; omega, by omega⟩
  · have := h.lt; have := h.step; have := h.pos hc; have := U_nn hc (k := q) (by omega); exact ⟨by unfold I64; omega, by omega⟩
  · omega
  · omega
  · omega
theorem phi_nn {name : ByteArray} {l : List StepD} {s : SagaD} (hc : (checkF name l).2 = 0) (h : Way l name s) : 0 ≤ phi l s := by
  by_cases hl : s.st = 1 ∨ s.st = 2
  · have := (way_step hc h hl).2; omega
  · rw [phi_off (by omega) (by omega)]; omega
theorem phi_withV (l : List StepD) (s : SagaD) (p : Option Addr) (n c : Nat) : phi l (s.withV p n c) = phi l s := rfl
theorem Way.withV {l : List StepD} {name : ByteArray} {s : SagaD} (h : Way l name s) (p : Option Addr) (n c : Nat) : Way l name (s.withV p n c) := by
  obtain ⟨e, h, hstp⟩ := h
  refine ⟨e, ?_, hstp⟩
  rcases h with ⟨q, h⟩ | ⟨q, h⟩ | h
  · exact .inl ⟨q, h.withV p n c⟩
  · exact .inr (.inl ⟨q, h.withV p n c⟩)
  · exact .inr (.inr h)
section
variable {w : World}
end
end Go.Proofs.YtdkiopajilakcaaGreat
/- From what a row says of numbers and events that came in to what the walks are told of them. -/
namespace Go.Proofs.YtdkiopajilakcaaGreat
open Go.RowKit
def EvD.wf (e : EvD) : Prop := I64 e.kind ∧ I64 e.step ∧ I64 e.tr
theorem EvD.len (e : EvD) : e.cells.length = 5 := rfl
theorem EvD.one (e : EvD) : ∀ u ∈ e.cells, u.oneCell' = true := by
  intro u hu
  simp only [EvD.cells, List.mem_cons, List.not_mem_nil, or_false] at hu
  rcases hu with rfl | rfl | rfl | rfl | rfl <;> rfl
instance : Inhabited EvD := ⟨⟨0, 0, 0, false, false⟩⟩
def EvsAt (F : Nat → Prop) (w : World) (v : Value) (l : List EvD) : Prop := FlatAt F w 5 v l.length (l.flatMap EvD.cells)
theorem EvsAt.kept {F : Nat → Prop} {w w' : World} {v : Value} {l : List EvD} (h : EvsAt F w v l) (hk : Kept F w w') : EvsAt F w' v l := FlatAt.kept h hk
section
variable {H : Type} {enc : TypeId × Value → H} {W : World}
theorem flat_small {F : Nat → Prop} {w : World} {k : Nat} {v : Value} {n : Nat} {xs : List Value} (h : FlatAt F w k v n xs) : n ≤ 9223372036854775807 := by
  obtain ⟨A, c, _, h1, h2, _⟩ := FlatAt.shape h
  unfold maxLen at h2
  omega
end
end Go.Proofs.YtdkiopajilakcaaGreat
/- From what a row says of a saga that came in to what the walks are told of it. -/
namespace Go.Proofs.YtdkiopajilakcaaGreat
open Go.RowKit
section
variable {H : Type} {enc : TypeId × Value → H} {W : World}
set_option maxRecDepth 100000
theorem open_hits {n : Nat} {c0 c1 c2 c3 c4 c5 c6 c7 : Value} {x : DataW H × List MemPlace} (h : Rdg enc W n 70 [c0, c1, c2, c3, c4, c5, c6, c7] x) : ∃ y : Hits, [c0, c1, c2, c3, c4, c5, c6, c7] = y.cells := by
  obtain ⟨xs, m, _, _, _, hxs, hf⟩ := DataW.trod_array Tryz.underlying70 h
  have he : Tryz.prog.cellsOf 4 = 1 := by kernel_rfl
  have el : ∀ (i : Nat) (c : Value), i < 8 → ([c0, c1, c2, c3, c4, c5, c6, c7].drop i).take 1 = [c] → ∃ b : Bool, c = .bool b := fun i c hi hc => by
    have h1 := hf i hi
    rw [he, Nat.mul_one, hc, List.getElem?_eq_getElem (by omega)] at h1
    exact open_bool1 Tryz.underlying4 h1
  obtain ⟨b0, rfl⟩ := el 0 c0 (by decide) rfl
  obtain ⟨b1, rfl⟩ := el 1 c1 (by decide) rfl
  obtain ⟨b2, rfl⟩ := el 2 c2 (by decide) rfl
  obtain ⟨b3, rfl⟩ := el 3 c3 (by decide) rfl
  obtain ⟨b4, rfl⟩ := el 4 c4 (by decide) rfl
  obtain ⟨b5, rfl⟩ := el 5 c5 (by decide) rfl
  obtain ⟨b6, rfl⟩ := el 6 c6 (by decide) rfl
  obtain ⟨b7, rfl⟩ := el 7 c7 (by decide) rfl
  exact ⟨⟨b0, b1, b2, b3, b4, b5, b6, b7⟩, rfl⟩
/-- What a saga that came in holds. -/
def SagaIn (W : World) (s : SagaD) (l : List StepD) : Prop := StepsAt (· < W.heap.size) W s.v l ∧ (∀ a ∈ l, a.wf) ∧ I64 s.step
theorem open_saga {n : Nat} {cs : List Value} {x : DataW H × List MemPlace} (h : Rdg enc W n 72 cs x) (hs : Sm 72 x.1) : ∃ (s : SagaD) (l : List StepD), cs = s.cells ∧ SagaIn W s l := by
  obtain ⟨m, hl, hf⟩ := open_fields Tryz.underlying72 h hs
  have hl : cs.length = 13 := hl
  match cs, hl with
  | [c0, c1, c2, c3, c4, c5, c6, c7, c8, c9, c10, c11, c12], _ =>
    obtain ⟨y0, g0, s0⟩ := hf 0 _ rfl
    have g0 : Rdg enc W m 35 [c0, c1] y0 := (congrArg (fun q => DataW.trod enc Tryz.prog W 0 (fun _ => true) true m 35 q) (show ([c0, c1, c2, c3, c4, c5, c6, c7, c8, c9, c10, c11, c12].drop 0).take (Tryz.prog.cellsOf 35) = [c0, c1] from by rw [show Tryz.prog.cellsOf 35 = 2 from by kernel_rfl]; rfl)).symm.trans g0
    obtain ⟨y1, g1, s1⟩ := hf 1 _ rfl
    have g1 : Rdg enc W m 3 [c2] y1 := (congrArg (fun q => DataW.trod enc Tryz.prog W 0 (fun _ => true) true m 3 q) (show ([c0, c1, c2, c3, c4, c5, c6, c7, c8, c9, c10, c11, c12].drop 2).take (Tryz.prog.cellsOf 3) = [c2] from by rw [show Tryz.prog.cellsOf 3 = 1 from by kernel_rfl]; rfl)).symm.trans g1
    obtain ⟨y2, g2, s2⟩ := hf 2 _ rfl
    have g2 : Rdg enc W m 3 [c3] y2 := (congrArg (fun q => DataW.trod enc Tryz.prog W 0 (fun _ => true) true m 3 q) (show ([c0, c1, c2, c3, c4, c5, c6, c7, c8, c9, c10, c11, c12].drop 3).take (Tryz.prog.cellsOf 3) = [c3] from by rw [show Tryz.prog.cellsOf 3 = 1 from by kernel_rfl]; rfl)).symm.trans g2
    obtain ⟨y3, g3, s3⟩ := hf 3 _ rfl
    have g3 : Rdg enc W m 3 [c4] y3 := (congrArg (fun q => DataW.trod enc Tryz.prog W 0 (fun _ => true) true m 3 q) (show ([c0, c1, c2, c3, c4, c5, c6, c7, c8, c9, c10, c11, c12].drop 4).take (Tryz.prog.cellsOf 3) = [c4] from by rw [show Tryz.prog.cellsOf 3 = 1 from by kernel_rfl]; rfl)).symm.trans g3
    obtain ⟨y4, g4, s4⟩ := hf 4 _ rfl
    have g4 : Rdg enc W m 70 [c5, c6, c7, c8, c9, c10, c11, c12] y4 := (congrArg (fun q => DataW.trod enc Tryz.prog W 0 (fun _ => true) true m 70 q) (show ([c0, c1, c2, c3, c4, c5, c6, c7, c8, c9, c10, c11, c12].drop 5).take (Tryz.prog.cellsOf 70) = [c5, c6, c7, c8, c9, c10, c11, c12] from by rw [show Tryz.prog.cellsOf 70 = 8 from by kernel_rfl]; rfl)).symm.trans g4
    obtain ⟨nm, v, l, e0, _, h2, h3⟩ := open_def g0 s0
    obtain ⟨a1, e1, _⟩ := open_int1 Tryz.underlying3 g1
    obtain ⟨a2, e2, w2⟩ := open_int1 Tryz.underlying3 g2
    obtain ⟨a3, e3, _⟩ := open_int1 Tryz.underlying3 g3
    obtain ⟨y, e4⟩ := open_hits g4
    obtain ⟨A, c, rfl, _, _, _⟩ := FlatAt.shape h2
    subst e1 e2 e3
    simp only [List.cons.injEq, and_true] at e0
    obtain ⟨rfl, rfl⟩ := e0
    simp only [Hits.cells, List.cons.injEq, and_true] at e4
    obtain ⟨rfl, rfl, rfl, rfl, rfl, rfl, rfl, rfl⟩ := e4
    exact ⟨⟨nm, A, l.length, c, a1, a2, a3, y⟩, l, rfl, h2, h3, w2⟩
theorem arg_saga {cs : Array Value} {d : DataW H} {p : List MemPlace} (h : DataW.Trod enc Tryz.prog W 0 (fun _ => true) true 72 (.agg cs) d p) (hs : Sm 72 d) : ∃ (s : SagaD) (l : List StepD), cs = s.cells.toArray ∧ SagaIn W s l := by
  obtain ⟨fuel, hf⟩ := h
  obtain ⟨s, l, e, hi⟩ := open_saga (n := fuel) (x := (d, p)) hf hs
  refine ⟨s, l, ?_, hi⟩
  have e2 : cs.toList = s.cells := e
  rw [← e2]
end
end Go.Proofs.YtdkiopajilakcaaGreat
/- From what a row says of operations, and of sagas to be set, that came in to what the walks are told of them. -/
namespace Go.Proofs.YtdkiopajilakcaaGreat
open Go.ChangeShapes Go.WideShapes Go.ChangeAt Go.RowKit
instance : Inhabited (OpD × Value) := ⟨(OpD.zero, .slice none 0 0)⟩
section
variable {H : Type} {enc : TypeId × Value → H} {W : World}
set_option maxRecDepth 100000
theorem open_op {n : Nat} {cs : List Value} {x : DataW H × List MemPlace} (h : Rdg enc W n 37 cs x) (hs : Sm 37 x.1) :
    ∃ p : OpD × Value, cs = p.1.cells p.2 ∧ StepsAt (· < W.heap.size) W p.2 p.1.steps ∧ p.1.wf := by
  obtain ⟨m, hl, hf⟩ := open_fields Tryz.underlying37 h hs
  have hl : cs.length = 10 := hl
  match cs, hl with
  | [c0, c1, c2, c3, c4, c5, c6, c7, c8, c9], _ =>
    obtain ⟨y0, g0, s0⟩ := hf 0 _ rfl
    have g0 : Rdg enc W m 3 [c0] y0 := (congrArg (fun q => DataW.trod enc Tryz.prog W 0 (fun _ => true) true m 3 q) (show ([c0, c1, c2, c3, c4, c5, c6, c7, c8, c9].drop 0).take (Tryz.prog.cellsOf 3) = [c0] from by rw [show Tryz.prog.cellsOf 3 = 1 from by kernel_rfl]; rfl)).symm.trans g0
    obtain ⟨a0, e0, w0⟩ := open_int1 Tryz.underlying3 g0
    obtain ⟨y1, g1, s1⟩ := hf 1 _ rfl
    have g1 : Rdg enc W m 3 [c1] y1 := (congrArg (fun q => DataW.trod enc Tryz.prog W 0 (fun _ => true) true m 3 q) (show ([c0, c1, c2, c3, c4, c5, c6, c7, c8, c9].drop 1).take (Tryz.prog.cellsOf 3) = [c1] from by rw [show Tryz.prog.cellsOf 3 = 1 from by kernel_rfl]; rfl)).symm.trans g1
    obtain ⟨a1, e1, w1⟩ := open_int1 Tryz.underlying3 g1
    obtain ⟨y2, g2, s2⟩ := hf 2 _ rfl
    have g2 : Rdg enc W m 3 [c2] y2 := (congrArg (fun q => DataW.trod enc Tryz.prog W 0 (fun _ => true) true m 3 q) (show ([c0, c1, c2, c3, c4, c5, c6, c7, c8, c9].drop 2).take (Tryz.prog.cellsOf 3) = [c2] from by rw [show Tryz.prog.cellsOf 3 = 1 from by kernel_rfl]; rfl)).symm.trans g2
    obtain ⟨a2, e2, w2⟩ := open_int1 Tryz.underlying3 g2
    obtain ⟨y3, g3, s3⟩ := hf 3 _ rfl
    have g3 : Rdg enc W m 35 [c3, c4] y3 := (congrArg (fun q => DataW.trod enc Tryz.prog W 0 (fun _ => true) true m 35 q) (show ([c0, c1, c2, c3, c4, c5, c6, c7, c8, c9].drop 3).take (Tryz.prog.cellsOf 35) = [c3, c4] from by rw [show Tryz.prog.cellsOf 35 = 2 from by kernel_rfl]; rfl)).symm.trans g3
    obtain ⟨nm, v, l, f3, w3, st, wst⟩ := open_def g3 s3
    obtain ⟨y4, g4, s4⟩ := hf 4 _ rfl
    have g4 : Rdg enc W m 3 [c5] y4 := (congrArg (fun q => DataW.trod enc Tryz.prog W 0 (fun _ => true) true m 3 q) (show ([c0, c1, c2, c3, c4, c5, c6, c7, c8, c9].drop 5).take (Tryz.prog.cellsOf 3) = [c5] from by rw [show Tryz.prog.cellsOf 3 = 1 from by kernel_rfl]; rfl)).symm.trans g4
    obtain ⟨a4, e4, w4⟩ := open_int1 Tryz.underlying3 g4
    obtain ⟨y5, g5, s5⟩ := hf 5 _ rfl
    have g5 : Rdg enc W m 3 [c6] y5 := (congrArg (fun q => DataW.trod enc Tryz.prog W 0 (fun _ => true) true m 3 q) (show ([c0, c1, c2, c3, c4, c5, c6, c7, c8, c9].drop 6).take (Tryz.prog.cellsOf 3) = [c6] from by rw [show Tryz.prog.cellsOf 3 = 1 from by kernel_rfl]; rfl)).symm.trans g5
    obtain ⟨a5, e5, w5⟩ := open_int1 Tryz.underlying3 g5
    obtain ⟨y6, g6, s6⟩ := hf 6 _ rfl
    have g6 : Rdg enc W m 3 [c7] y6 := (congrArg (fun q => DataW.trod enc Tryz.prog W 0 (fun _ => true) true m 3 q) (show ([c0, c1, c2, c3, c4, c5, c6, c7, c8, c9].drop 7).take (Tryz.prog.cellsOf 3) = [c7] from by rw [show Tryz.prog.cellsOf 3 = 1 from by kernel_rfl]; rfl)).symm.trans g6
    obtain ⟨a6, e6, w6⟩ := open_int1 Tryz.underlying3 g6
    obtain ⟨y7, g7, s7⟩ := hf 7 _ rfl
    have g7 : Rdg enc W m 4 [c8] y7 := (congrArg (fun q => DataW.trod enc Tryz.prog W 0 (fun _ => true) true m 4 q) (show ([c0, c1, c2, c3, c4, c5, c6, c7, c8, c9].drop 8).take (Tryz.prog.cellsOf 4) = [c8] from by rw [show Tryz.prog.cellsOf 4 = 1 from by kernel_rfl]; rfl)).symm.trans g7
    obtain ⟨a7, e7⟩ := open_bool1 Tryz.underlying4 g7
    obtain ⟨y8, g8, s8⟩ := hf 8 _ rfl
    have g8 : Rdg enc W m 4 [c9] y8 := (congrArg (fun q => DataW.trod enc Tryz.prog W 0 (fun _ => true) true m 4 q) (show ([c0, c1, c2, c3, c4, c5, c6, c7, c8, c9].drop 9).take (Tryz.prog.cellsOf 4) = [c9] from by rw [show Tryz.prog.cellsOf 4 = 1 from by kernel_rfl]; rfl)).symm.trans g8
    obtain ⟨a8, e8⟩ := open_bool1 Tryz.underlying4 g8
    subst e0 e1 e2 e4 e5 e6 e7 e8
    simp only [List.cons.injEq, and_true] at f3
    obtain ⟨rfl, rfl⟩ := f3
    exact ⟨(⟨a0, a1, a2, nm, l, a4, a5, a6, a7, a8⟩, _), rfl, st, w0, w1, w2, w3, wst, w4, w5, w6⟩

theorem open_ops {n : Nat} {v : Value} {x : DataW H × List MemPlace} (h : Rdg enc W n 43 [v] x) (hs : Sm 43 x.1) : ∃ l, OpsAt (· < W.heap.size) W v l ∧ ∀ o ∈ l, o.wf := by
  obtain ⟨ys, h1, h2⟩ := open_elems (fun p : OpD × Value => p.1.cells p.2) (fun p => StepsAt (· < W.heap.size) W p.2 p.1.steps ∧ p.1.wf) 10 (by decide) (fun p => p.1.len p.2) Tryz.underlying43 (by kernel_rfl) (fun n cs x h hs => open_op h hs) (fun y hy => y.1.one (FlatAt.oneCell hy.1)) h hs
  refine ⟨ys.map (·.1), ⟨ys, rfl, h1, fun p hp => (h2 p hp).1⟩, fun o ho => ?_⟩
  obtain ⟨p, hp, rfl⟩ := List.mem_map.1 ho
  exact (h2 p hp).2
theorem arg_ops {A : Option Addr} {len cap : Nat} {d : DataW H} {p : List MemPlace} (h : DataW.Trod enc Tryz.prog W 0 (fun _ => true) true 43 (.slice A len cap) d p) (hs : Sm 43 d) : ∃ l : List OpD, OpsAt (· < W.heap.size) W (.slice A len cap) l ∧ ∀ o ∈ l, o.wf := by
  obtain ⟨fuel, hf⟩ := h
  exact open_ops (n := fuel) (x := (d, p)) hf hs
/-- What an operation that came in holds. -/
def OpIn (W : World) (o : OpD) (s : Value) : Prop := StepsAt (· < W.heap.size) W s o.steps ∧ o.wf
theorem arg_op {cs : Array Value} {d : DataW H} {p : List MemPlace} (h : DataW.Trod enc Tryz.prog W 0 (fun _ => true) true 37 (.agg cs) d p) (hs : Sm 37 d) : ∃ (x : OpD) (s : Value), cs = (x.cells s).toArray ∧ OpIn W x s := by
  obtain ⟨fuel, hf⟩ := h
  obtain ⟨q, e, hl, wf⟩ := open_op (n := fuel) (x := (d, p)) hf hs
  refine ⟨q.1, q.2, ?_, hl, wf⟩
  have e2 : cs.toList = q.1.cells q.2 := e
  rw [← e2]
end
end Go.Proofs.YtdkiopajilakcaaGreat
