/- Whatever the message: a box that no call made tells nothing, asks nothing and has no places, and none is made of a view below 0; no condition. -/
import Derived.Test.YtdkiopajilakcaaGreatBaseO1
import Derived.Test.YtdkiopajilakcaaGreatBaseO2
import Derived.Test.YtdkiopajilakcaaGreatBaseO3
import Derived.Test.YtdkiopajilakcaaGreatBaseO4
import Derived.Test.YtdkiopajilakcaaGreatBaseO5
import Derived.Test.YtdkiopajilakcaaGreatBaseO6
import Derived.Test.YtdkiopajilakcaaGreatRows
import Derived.ProofKit
import Derived.OpenShut
import Derived.ShutString
import Derived.ChangeOld
/- OutboxNone. -/
namespace Go.Proofs.YtdkiopajilakcaaGreat
open Go.RowKit Go.Maps
section
variable {w : World} {p : Option Addr}
set_option maxHeartbeats 400000 in
theorem oopen_no (h : NoBox w p) : Calls Tryz.prog 28 #[.pointer p] w fun e w' => e = .returned (.slice none 0 0) ∧ w = w' := by
  have C := hide (omade_no h)
  clear h
  go_enter Tryz.func28, Tryz.ntmps28
  go_wp2_with (fail)
  refine C.out.mono ?_
  rintro e w1 ⟨rfl, rfl⟩
  go_wp2
  go_ret
  exact ⟨rfl, rfl⟩
set_option maxHeartbeats 400000 in
theorem oview_no (h : NoBox w p) : Calls Tryz.prog 26 #[.pointer p] w fun e w' => e = .returned (.int .i64 (-1)) ∧ w = w' := by
  have C := hide (omade_no h)
  clear h
  go_enter Tryz.func26, Tryz.ntmps26
  go_wp2_with (fail)
  refine C.out.mono ?_
  rintro e w1 ⟨rfl, rfl⟩
  go_wp2
  go_ret
  exact ⟨rfl, rfl⟩
set_option maxHeartbeats 400000 in
theorem osync_no (h : NoBox w p) (q : Option Addr) : Calls Tryz.prog 17 #[.pointer p, .pointer q] w fun e w' => e = .returned (.slice none 0 0) ∧ w = w' := by
  have C := hide (omade_no h)
  clear h
  go_enter Tryz.func17, Tryz.ntmps17
  go_wp2_with (fail)
  refine C.out.mono ?_
  rintro e w1 ⟨rfl, rfl⟩
  go_wp2
  go_ret
  exact ⟨rfl, rfl⟩
set_option maxHeartbeats 1000000 in
theorem ogrow_no (h : NoBox w p) : Calls Tryz.prog 54 #[.pointer p] w fun e w' => e = .returned (.tuple #[]) ∧ w = w' := by
  have C := hide (oopen_no h)
  clear h
  go_enter Tryz.func54, Tryz.ntmps54
  go_wp2_with (fail)
  refine C.out.mono ?_
  rintro e w1 ⟨rfl, rfl⟩
  go_wp2_with (fail)
  go_loopw [8] (fun s8 wr => s8 = .int .i64 0 ∧ w = wr) (fun _ _ => 0)
  case atStart => exact ⟨rfl, rfl⟩
  case round =>
    obtain ⟨rfl, rfl⟩ := hrel
    go_wp2
    go_end0
    exact ⟨rfl, rfl⟩
set_option maxHeartbeats 1000000 in
theorem otick_no (h : NoBox w p) (q : Option Addr) : Calls Tryz.prog 19 #[.pointer p, .pointer q] w fun e w' => e = .returned (.tuple #[.slice none 0 0, .slice none 0 0]) ∧ w = w' := by
  have C := hide (oopen_no h)
  have CG := hide (ogrow_no h)
  have CS := hide (osync_no h q)
  clear h
  go_enter Tryz.func19, Tryz.ntmps19
  go_wp2_with (fail)
  refine CG.out.mono ?_
  rintro e w1 ⟨rfl, rfl⟩
  go_wp2_with (fail)
  refine CS.out.mono ?_
  rintro e w1 ⟨rfl, rfl⟩
  go_wp2_with (fail)
  refine C.out.mono ?_
  rintro e w1 ⟨rfl, rfl⟩
  go_wp2_with (fail)
  go_loopw [6, 7, 19] (fun s6 s7 s19 wr => s6 = .slice none 0 0 ∧ s7 = .slice none 0 0 ∧ s19 = .int .i64 0 ∧ w = wr) (fun _ _ _ _ => 0)
  case atStart => exact ⟨rfl, rfl, rfl, rfl⟩
  case round =>
    obtain ⟨rfl, rfl, rfl, rfl⟩ := hrel
    go_wp2
    go_ret2
    exact ⟨rfl, rfl⟩
variable {m : MsgD} {s o i : Value}
set_option maxHeartbeats 4000000 in
set_option maxRecDepth 100000 in
theorem oresult_no (h : NoBox w p) : Calls Tryz.prog 23 #[.pointer p, .agg (m.cells s o i).toArray] w fun e w' => e = .returned (.tuple #[.agg (OpD.zero.cells (.slice none 0 0)).toArray, .bool false]) ∧ Later w w' := by
  obtain ⟨W2, hW2⟩ : ∃ W2, W2 = (w.alloc (.cells (m.cells s o i).toArray 46 (0, 0))).alloc (.cells #[.int .i64 0, .int .i64 0, .int .i64 0, .string ⟨#[]⟩, .slice none 0 0, .int .i64 0, .int .i64 0, .int .i64 0, .bool false, .bool false] 37 (0, 0)) := ⟨_, rfl⟩
  obtain ⟨y, hy⟩ : ∃ y, y = w.heap.size := ⟨_, rfl⟩
  have Y2 : Hid (OBox (y + 1) OpD.zero (.slice none 0 0) W2) := by rw [hW2, hy]; exact heap_second _ _ _
  have L2 : Hid (Later w W2) := by rw [hW2]; exact ((Below.refl _ _).alloc (Nat.le_refl _) _).alloc (by simp) _
  have HY : Hid (w.heap.size ≤ y) := Nat.le_of_eq hy.symm
  have CM := hide (omade_no (h.later L2.out))
  have HW2 := hide hW2.symm
  have HG := hide hy.symm
  clear h hW2 hy
  go_enter Tryz.func23, Tryz.ntmps23
  go_wp2_with (fail)
  simp only [HW2.out, HG.out]
  refine CM.out.mono ?_
  rintro e w0 ⟨rfl, rfl⟩
  go_wp2_with (first
    | (refine wpList_build_parts (by rfl) 37 _ (by rfl) [] (by rfl) (OpD.zero.cells (.slice none 0 0)).toArray (by kernel_rfl) ?_)
    | (refine wpList_store_oop (o := OpD.zero) (s := .slice none 0 0) (by rfl) _ _ (by rfl) (by rfl) Y2.out (by rfl) (by rfl) ?_; intro w7 X7 G7))
  have HLF : Hid (Later w w7) := (show Later w W2 from L2.out).grown G7 (Below.size L2.out) (fun k hk => by have := Option.some.inj hk; have := HY.out; omega)
  refine bodyPost_ret (results_box2 Tryz.results23 _ _ (y + 1) 37 _ _ (by rfl) X7 Tryz.underlying37 (by rfl) (by kernel_rfl) (.bool false) (by rfl)) (by rfl) ?_
  exact ⟨rfl, HLF.out⟩
end
theorem exec_load_msg {op : Oper} {a : Act} {W : World} {y : Nat} {m : MsgD} {s o i : Value} (x : Operand) (ho : op.op = .load 46 x) (hx : a.eval x = .pointer (some ⟨y, 0, none⟩)) (hg : MsB y m s o i W) : (execOp a.eval op).run Tryz.prog W = .ok (.value (.agg (m.cells s o i).toArray)) W :=
  exec_load_box 46 x ho y 0 hx _ _ hg 34 _ Tryz.underlying46 (by rfl) (by kernel_rfl) (m.cells s o i) (by rfl) (by rfl)
theorem oindex0 (x y : Option Addr) (w : World) : (Instr.index 85 (.agg #[.pointer x, .pointer y]) (.int .i64 0)).run Tryz.prog w = .ok (.pointer x) w := by kernel_rfl
theorem oindex1 (x y : Option Addr) (w : World) : (Instr.index 85 (.agg #[.pointer x, .pointer y]) (.int .i64 1)).run Tryz.prog w = .ok (.pointer y) w := by kernel_rfl
def LawTrueN (w : World) (e : Ending) (w' : World) : Prop := e = .returned (.bool true) ∧ Later w w'
section
variable {w : World} {m : MsgD} {s o i : Value}
set_option maxHeartbeats 16000000 in
set_option maxRecDepth 100000 in
theorem law_none {F : Nat → Prop} (hm : Lists F w m s o i) (hw : m.wf) : Calls Tryz.prog 6 #[.agg (m.cells s o i).toArray] w (LawTrueN w) := by
  obtain ⟨i0, hi, hz0, hz1, _⟩ := info_parts step_info
  have HI := hide hi
  have HZ0 := hide hz0
  have HZ1 := hide hz1
  obtain ⟨W1, hW1⟩ : ∃ W1, W1 = w.alloc (.cells (m.cells s o i).toArray 46 (0, 0)) := ⟨_, rfl⟩
  obtain ⟨y, hy⟩ : ∃ y, y = w.heap.size := ⟨_, rfl⟩
  have X1 : Hid (MsB y m s o i W1) := by rw [hW1, hy]; exact heap_alloc_new _ _
  have L1 : Hid (Later w W1) := by rw [hW1]; exact (Below.refl _ _).alloc (Nat.le_refl _) _
  have HY : Hid (w.heap.size ≤ y) := Nat.le_of_eq hy.symm
  have CS := hide (stepsn_any 100 (by decide) (by decide) F m s o i W1 hw ⟨hm.1.kept (Kept.of_below L1.out _), hm.2.1.kept (Kept.of_below L1.out _), hm.2.2.kept (Kept.of_below L1.out _)⟩)
  have HWF := hide (sB_wf (st := 2) (wt := 1) (by decide) (by decide) (by decide) (by decide))
  have HST := hide (sB_starts (st := 2) (wt := 1) (most := 2) (by decide) (by decide) (by decide) (by decide) (by decide))
  have HW1 := hide hW1.symm
  have HG := hide hy.symm
  have xe := X1.out
  rw [← HW1.out, ← HG.out] at xe
  have XE := hide xe
  clear hi hz0 hz1 hW1 hy hm hw xe
  go_enter Tryz.func6, Tryz.ntmps6
  go_wp2_with (refine wpList_val rfl (by rfl) (exec_load_msg _ (by rfl) (by rfl) XE.out) ?_; simp only [HW1.out, HG.out])
  refine CS.out.mono ?_
  rintro e w2 ⟨q, rfl, _, hl2⟩
  have X2 := hide (X1.out.below hl2)
  have l1 : Later w W1 := L1.out
  have L2 : Hid (Later w w2) := Later.trans l1 hl2
  clear hl2 CS l1
  by_cases hq : 100 < q
  · have dq : decide (100 < q) = true := by simpa using hq
    clear hq
    go_wp2_with (fail)
    refine (olives_any (w := w2)).mono ?_
    rintro e w9 ⟨rfl, hl⟩
    have La : Later w w2 := L2.out
    have L9 : Hid (Later w w9) := Later.trans La hl
    clear hl La
    go_wp2
    go_ret
    exact ⟨rfl, L9.out⟩
  · have dq : decide (100 < q) = false := by simpa using hq
    clear hq
    obtain ⟨W3, hW3⟩ : ∃ W3, W3 = w2.alloc (.cells #[.int .i64 0, .map none] 84 (0, 0)) := ⟨_, rfl⟩
    obtain ⟨z, hz⟩ : ∃ z, z = w2.heap.size := ⟨_, rfl⟩
    have HW3 := hide hW3.symm
    have HZ := hide hz.symm
    have L23 : Hid (Later w2 W3) := by rw [hW3]; exact (Below.refl _ _).alloc (Nat.le_refl _) _
    have L3 : Hid (Later w W3) := Later.trans (show Later w w2 from L2.out) L23.out
    have N3 : Hid (NoBox W3 (some ⟨z, 0, none⟩)) := .inr ⟨z, rfl, by rw [hW3, hz]; exact heap_alloc_new _ _⟩
    have X3 := hide (X2.out.below L23.out)
    have CN := hide (new_yes 2 W3 (by decide) (by decide))
    clear hW3 hz
    go_wp2_with (fail)
    simp only [HW3.out, HZ.out]
    refine CN.out.mono ?_
    rintro e w4 ⟨kg, kb, rfl, hg, hb, hl4, hbk⟩
    have HBK := hide (hbk (fun i => i ≠ kg ∧ i ≠ kb) (fun h => h.1 rfl) (fun h => h.2 rfl))
    have L34 : Hid (Later W3 w4) := hl4
    have HKG : Hid (W3.heap.size ≤ kg ∧ W3.heap.size ≤ kb) := ⟨hg, hb⟩
    clear hg hb hl4 hbk CN
    obtain ⟨W5, hW5⟩ : ∃ W5, W5 = w4.alloc (.cells (sB 2 1).cells.toArray 79 (0, 0)) := ⟨_, rfl⟩
    obtain ⟨z5, hz5⟩ : ∃ z5, w4.heap.size = z5 := ⟨_, rfl⟩
    have L45 : Hid (Later w4 W5) := by rw [hW5]; exact (Below.refl _ _).alloc (Nat.le_refl _) _
    have S5 : Hid (StepsAt (fun _ => True) W5 (.slice (some ⟨z5, 0, none⟩) 1 1) [sB 2 1]) := by rw [hW5, ← hz5]; exact flat_one w4 _ 6 (sB 2 1).cells.toArray rfl (sB_one 2 1) _ trivial
    have H5 := hide (HBK.out.later L45.out)
    have CA := hide (apply_any (o := opStart nmB [sB 2 1]) H5.out (by decide) (by decide) S5.out HWF.out (by decide) (fun i hi => by have a1 := H5.out.lt; exact ⟨by omega, by omega⟩))
    rw [HST.out.1, HST.out.2] at CA
    unfold OpD.cells opStart at CA
    have HW5 := hide hW5.symm
    have HZ5 := hide hz5
    clear hW5 hz5
    go_wp2_with (refine wpList_buildSlice_one (by rfl) 33 79 _ (by rfl) i0 _ 6 Tryz.underlying33 HI.out HZ0.out HZ1.out (by omega) (by omega) (sB 2 1).cells.toArray (by rfl) (by rfl) ?_; rw [HW5.out, HZ5.out])
    refine CA.out.mono ?_
    rintro e w6 ⟨rfl, _, ht6⟩
    have L36 : Hid (Later W3 w6) := by
      have l5 : Later W3 W5 := Later.trans (show Later W3 w4 from L34.out) L45.out
      exact ((Turned.of_below l5 (fun _ => False)).onto ht6 (fun i hi => .inr (by have := HKG.out; omega))).below (fun i hi => hi.elim) (Nat.le_refl _)
    have X6 := hide (X3.out.below L36.out)
    have N6 := hide (N3.out.later L36.out)
    have L6 : Hid (Later w w6) := Later.trans (show Later w W3 from L3.out) L36.out
    clear ht6 CA
    go_wp2_with (fail)
    go_loopw [23] (fun s23 wr => ∃ q : Nat, q ≤ 2 ∧ s23 = .int .i64 (q : Int) ∧ Hid (Later w6 wr)) (fun i _ => 2 - (Go.RowKit.intOf i).toNat)
    case atStart => exact ⟨0, by omega, rfl, Later.refl _⟩
    case round =>
      obtain ⟨q, hq2, rfl, HL⟩ := hrel
      have XR := hide (X6.out.below HL.out)
      have NR := hide (N6.out.later HL.out)
      rcases (by omega : q = 0 ∨ q = 1 ∨ q = 2) with rfl | rfl | rfl
      · have NB : Hid (NoBox wr none) := .inl rfl
        have CT := hide (otick_no NB.out (some ⟨kg, 0, none⟩))
        have CR := hide (oresult_no (m := m) (s := s) (o := o) (i := i) NB.out)
        have ixA := oindex0
        have ixB := oindex1
        go_wp2_with (fail)
        refine CT.out.mono ?_
        rintro e w1 ⟨rfl, rfl⟩
        clear CT ixA ixB
        go_wp2_with (refine wpList_val rfl (by rfl) (exec_load_msg _ (by rfl) (by rfl) XR.out) ?_)
        refine CR.out.mono ?_
        rintro e w7 ⟨rfl, hl7⟩
        have T7 : Hid (OBox w7.heap.size OpD.zero (.slice none 0 0) (w7.alloc (.cells #[.int .i64 0, .int .i64 0, .int .i64 0, .string ⟨#[]⟩, .slice none 0 0, .int .i64 0, .int .i64 0, .int .i64 0, .bool false, .bool false] 37 (0, 0)))) := heap_alloc_new _ _
        have L7a : Hid (Later w7 (w7.alloc (.cells #[.int .i64 0, .int .i64 0, .int .i64 0, .string ⟨#[]⟩, .slice none 0 0, .int .i64 0, .int .i64 0, .int .i64 0, .bool false, .bool false] 37 (0, 0)))) := (Below.refl _ _).alloc (Nat.le_refl _) _
        have L7 := hide hl7
        clear hl7 CR
        go_wp2_with (refine wpList_store_oop (o := OpD.zero) (s := .slice none 0 0) (by rfl) _ _ (by rfl) (by rfl) T7.out (by rfl) (by rfl) ?_)
        intro w8 X8 G8
        have L78 : Hid (Later w7 w8) := L7a.out.grown G8 (by simp) (fun k hk => by have := Option.some.inj hk; omega)
        have LR8 : Hid (Later wr w8) := Later.trans (show Later wr w7 from L7.out) L78.out
        have NB8 := hide (NB.out.later LR8.out)
        have CS8 := hide (osync_no NB8.out (some ⟨kg, 0, none⟩))
        have CO8 := hide (oopen_no NB8.out)
        have CV8 := hide (oview_no NB8.out)
        clear X8 G8 T7 L7a
        go_wp2_with (fail)
        refine CS8.out.mono ?_
        rintro e w1 ⟨rfl, rfl⟩
        go_wp2_with (fail)
        refine CO8.out.mono ?_
        rintro e w1 ⟨rfl, rfl⟩
        go_wp2_with (fail)
        refine CV8.out.mono ?_
        rintro e w1 ⟨rfl, rfl⟩
        have L68 : Hid (Later w6 w8) := Later.trans (show Later w6 wr from HL.out) LR8.out
        go_wp2_with (fail)
        go_roundw
        case rel => exact ⟨1, by omega, by go_num, L68.out⟩
        case measure => simp [Go.RowKit.intOf]
      · have NB := NR
        have CT := hide (otick_no NB.out (some ⟨kg, 0, none⟩))
        have CR := hide (oresult_no (m := m) (s := s) (o := o) (i := i) NB.out)
        have ixA := oindex0
        have ixB := oindex1
        go_wp2_with (fail)
        refine CT.out.mono ?_
        rintro e w1 ⟨rfl, rfl⟩
        clear CT ixA ixB
        go_wp2_with (refine wpList_val rfl (by rfl) (exec_load_msg _ (by rfl) (by rfl) XR.out) ?_)
        refine CR.out.mono ?_
        rintro e w7 ⟨rfl, hl7⟩
        have T7 : Hid (OBox w7.heap.size OpD.zero (.slice none 0 0) (w7.alloc (.cells #[.int .i64 0, .int .i64 0, .int .i64 0, .string ⟨#[]⟩, .slice none 0 0, .int .i64 0, .int .i64 0, .int .i64 0, .bool false, .bool false] 37 (0, 0)))) := heap_alloc_new _ _
        have L7a : Hid (Later w7 (w7.alloc (.cells #[.int .i64 0, .int .i64 0, .int .i64 0, .string ⟨#[]⟩, .slice none 0 0, .int .i64 0, .int .i64 0, .int .i64 0, .bool false, .bool false] 37 (0, 0)))) := (Below.refl _ _).alloc (Nat.le_refl _) _
        have L7 := hide hl7
        clear hl7 CR
        go_wp2_with (refine wpList_store_oop (o := OpD.zero) (s := .slice none 0 0) (by rfl) _ _ (by rfl) (by rfl) T7.out (by rfl) (by rfl) ?_)
        intro w8 X8 G8
        have L78 : Hid (Later w7 w8) := L7a.out.grown G8 (by simp) (fun k hk => by have := Option.some.inj hk; omega)
        have LR8 : Hid (Later wr w8) := Later.trans (show Later wr w7 from L7.out) L78.out
        have NB8 := hide (NB.out.later LR8.out)
        have CS8 := hide (osync_no NB8.out (some ⟨kg, 0, none⟩))
        have CO8 := hide (oopen_no NB8.out)
        have CV8 := hide (oview_no NB8.out)
        clear X8 G8 T7 L7a
        go_wp2_with (fail)
        refine CS8.out.mono ?_
        rintro e w1 ⟨rfl, rfl⟩
        go_wp2_with (fail)
        refine CO8.out.mono ?_
        rintro e w1 ⟨rfl, rfl⟩
        go_wp2_with (fail)
        refine CV8.out.mono ?_
        rintro e w1 ⟨rfl, rfl⟩
        have L68 : Hid (Later w6 w8) := Later.trans (show Later w6 wr from HL.out) LR8.out
        go_wp2_with (fail)
        go_roundw
        case rel => exact ⟨2, by omega, by go_num, L68.out⟩
        case measure => simp [Go.RowKit.intOf]
      · have LR : Hid (Later w wr) := Later.trans (show Later w w6 from L6.out) HL.out
        have CNo := hide (onew_no (-1) wr (by decide))
        go_wp2_with (fail)
        refine CNo.out.mono ?_
        rintro e w1 ⟨rfl, rfl⟩
        go_wp2_with (fail)
        refine (olives_any (w := wr)).mono ?_
        rintro e w9 ⟨rfl, hl⟩
        have L9 : Hid (Later w w9) := Later.trans (show Later w wr from LR.out) hl
        clear hl
        go_wp2
        go_ret
        exact ⟨rfl, L9.out⟩
end
end Go.Proofs.YtdkiopajilakcaaGreat
/- OutboxNone, as the claim asks it. -/
namespace Go.Proofs.YtdkiopajilakcaaGreat
open Go.RowKit
theorem law_noneW (m : MsgD) (s o i : Value) (w : World) (h1 : Lists (· < w.heap.size) w m s o i) (h2 : m.wf) :
    Calls Tryz.prog 6 #[.agg (m.cells s o i).toArray] w fun e w' => e = .returned (.bool true) ∧ Later w w' := law_none h1 h2
end Go.Proofs.YtdkiopajilakcaaGreat
/- From what a row says of a message that came in to what the walks are told of it. -/
namespace Go.Proofs.YtdkiopajilakcaaGreat
open Go.ChangeShapes Go.WideShapes Go.ChangeAt Go.RowKit
section
variable {H : Type} {enc : TypeId × Value → H} {W : World}
set_option maxRecDepth 100000
theorem open_incs {n : Nat} {v : Value} {x : DataW H × List MemPlace} (h : Rdg enc W n 44 [v] x) (hs : Sm 44 x.1) : ∃ l, IncsAt (· < W.heap.size) W v l ∧ ∀ a ∈ l, I64 a := by
  obtain ⟨ys, h1, h2⟩ := open_elems (fun a : Int => [.int .i64 a]) I64 1 (by decide) (fun _ => rfl) Tryz.underlying44 (by kernel_rfl) (fun n cs x h hs => by
    obtain ⟨a, h0, _, w0⟩ := DataW.trod_int Tryz.underlying3 h
    have b0 := bounds_i64 w0
    exact ⟨a, h0, by unfold I64; omega⟩) (fun y _ u hu => by obtain rfl : u = .int .i64 y := by simpa using hu
                                                             rfl) h hs
  refine ⟨ys, ?_, h2⟩
  unfold IncsAt
  rw [List.map_eq_flatMap]
  exact h1

theorem open_reply {n : Nat} {cs : List Value} {x : DataW H × List MemPlace} (h : Rdg enc W n 40 cs x) (hs : Sm 40 x.1) :
    ∃ a b c d : Int, cs = [.int .i64 a, .int .i64 b, .int .i64 c, .int .i64 d] ∧ I64 a ∧ I64 b ∧ I64 c ∧ I64 d := by
  obtain ⟨m, hl, hf⟩ := open_fields Tryz.underlying40 h hs
  have hl : cs.length = 4 := hl
  match cs, hl with
  | [c0, c1, c2, c3], _ =>
    obtain ⟨y0, g0, s0⟩ := hf 0 _ rfl
    have g0 : Rdg enc W m 38 [c0] y0 := (congrArg (fun q => DataW.trod enc Tryz.prog W 0 (fun _ => true) true m 38 q) (show ([c0, c1, c2, c3].drop 0).take (Tryz.prog.cellsOf 38) = [c0] from by rw [show Tryz.prog.cellsOf 38 = 1 from by kernel_rfl]; rfl)).symm.trans g0
    obtain ⟨a0, e0, w0⟩ := open_int1 Tryz.underlying38 g0
    obtain ⟨y1, g1, s1⟩ := hf 1 _ rfl
    have g1 : Rdg enc W m 3 [c1] y1 := (congrArg (fun q => DataW.trod enc Tryz.prog W 0 (fun _ => true) true m 3 q) (show ([c0, c1, c2, c3].drop 1).take (Tryz.prog.cellsOf 3) = [c1] from by rw [show Tryz.prog.cellsOf 3 = 1 from by kernel_rfl]; rfl)).symm.trans g1
    obtain ⟨a1, e1, w1⟩ := open_int1 Tryz.underlying3 g1
    obtain ⟨y2, g2, s2⟩ := hf 2 _ rfl
    have g2 : Rdg enc W m 3 [c2] y2 := (congrArg (fun q => DataW.trod enc Tryz.prog W 0 (fun _ => true) true m 3 q) (show ([c0, c1, c2, c3].drop 2).take (Tryz.prog.cellsOf 3) = [c2] from by rw [show Tryz.prog.cellsOf 3 = 1 from by kernel_rfl]; rfl)).symm.trans g2
    obtain ⟨a2, e2, w2⟩ := open_int1 Tryz.underlying3 g2
    obtain ⟨y3, g3, s3⟩ := hf 3 _ rfl
    have g3 : Rdg enc W m 3 [c3] y3 := (congrArg (fun q => DataW.trod enc Tryz.prog W 0 (fun _ => true) true m 3 q) (show ([c0, c1, c2, c3].drop 3).take (Tryz.prog.cellsOf 3) = [c3] from by rw [show Tryz.prog.cellsOf 3 = 1 from by kernel_rfl]; rfl)).symm.trans g3
    obtain ⟨a3, e3, w3⟩ := open_int1 Tryz.underlying3 g3
    subst e0 e1 e2 e3
    exact ⟨a0, a1, a2, a3, rfl, w0, w1, w2, w3⟩

theorem open_command {n : Nat} {cs : List Value} {x : DataW H × List MemPlace} (h : Rdg enc W n 42 cs x) (hs : Sm 42 x.1) :
    ∃ (a b c d e : Int) (f : Bool), cs = [.int .i64 a, .int .i64 b, .int .i64 c, .int .i64 d, .int .i64 e, .bool f] ∧ I64 a ∧ I64 b ∧ I64 c ∧ I64 d ∧ I64 e := by
  obtain ⟨m, hl, hf⟩ := open_fields Tryz.underlying42 h hs
  have hl : cs.length = 6 := hl
  match cs, hl with
  | [c0, c1, c2, c3, c4, c5], _ =>
    obtain ⟨y0, g0, s0⟩ := hf 0 _ rfl
    have g0 : Rdg enc W m 3 [c0] y0 := (congrArg (fun q => DataW.trod enc Tryz.prog W 0 (fun _ => true) true m 3 q) (show ([c0, c1, c2, c3, c4, c5].drop 0).take (Tryz.prog.cellsOf 3) = [c0] from by rw [show Tryz.prog.cellsOf 3 = 1 from by kernel_rfl]; rfl)).symm.trans g0
    obtain ⟨a0, e0, w0⟩ := open_int1 Tryz.underlying3 g0
    obtain ⟨y1, g1, s1⟩ := hf 1 _ rfl
    have g1 : Rdg enc W m 3 [c1] y1 := (congrArg (fun q => DataW.trod enc Tryz.prog W 0 (fun _ => true) true m 3 q) (show ([c0, c1, c2, c3, c4, c5].drop 1).take (Tryz.prog.cellsOf 3) = [c1] from by rw [show Tryz.prog.cellsOf 3 = 1 from by kernel_rfl]; rfl)).symm.trans g1
    obtain ⟨a1, e1, w1⟩ := open_int1 Tryz.underlying3 g1
    obtain ⟨y2, g2, s2⟩ := hf 2 _ rfl
    have g2 : Rdg enc W m 3 [c2] y2 := (congrArg (fun q => DataW.trod enc Tryz.prog W 0 (fun _ => true) true m 3 q) (show ([c0, c1, c2, c3, c4, c5].drop 2).take (Tryz.prog.cellsOf 3) = [c2] from by rw [show Tryz.prog.cellsOf 3 = 1 from by kernel_rfl]; rfl)).symm.trans g2
    obtain ⟨a2, e2, w2⟩ := open_int1 Tryz.underlying3 g2
    obtain ⟨y3, g3, s3⟩ := hf 3 _ rfl
    have g3 : Rdg enc W m 3 [c3] y3 := (congrArg (fun q => DataW.trod enc Tryz.prog W 0 (fun _ => true) true m 3 q) (show ([c0, c1, c2, c3, c4, c5].drop 3).take (Tryz.prog.cellsOf 3) = [c3] from by rw [show Tryz.prog.cellsOf 3 = 1 from by kernel_rfl]; rfl)).symm.trans g3
    obtain ⟨a3, e3, w3⟩ := open_int1 Tryz.underlying3 g3
    obtain ⟨y4, g4, s4⟩ := hf 4 _ rfl
    have g4 : Rdg enc W m 3 [c4] y4 := (congrArg (fun q => DataW.trod enc Tryz.prog W 0 (fun _ => true) true m 3 q) (show ([c0, c1, c2, c3, c4, c5].drop 4).take (Tryz.prog.cellsOf 3) = [c4] from by rw [show Tryz.prog.cellsOf 3 = 1 from by kernel_rfl]; rfl)).symm.trans g4
    obtain ⟨a4, e4, w4⟩ := open_int1 Tryz.underlying3 g4
    obtain ⟨y5, g5, s5⟩ := hf 5 _ rfl
    have g5 : Rdg enc W m 4 [c5] y5 := (congrArg (fun q => DataW.trod enc Tryz.prog W 0 (fun _ => true) true m 4 q) (show ([c0, c1, c2, c3, c4, c5].drop 5).take (Tryz.prog.cellsOf 4) = [c5] from by rw [show Tryz.prog.cellsOf 4 = 1 from by kernel_rfl]; rfl)).symm.trans g5
    obtain ⟨a5, e5⟩ := open_bool1 Tryz.underlying4 g5
    subst e0 e1 e2 e3 e4 e5
    exact ⟨a0, a1, a2, a3, a4, a5, rfl, w0, w1, w2, w3, w4⟩

theorem open_msg {n : Nat} {cs : List Value} {x : DataW H × List MemPlace} (h : Rdg enc W n 46 cs x) (hs : Sm 46 x.1) :
    ∃ (m : MsgD) (s o i : Value), cs = m.cells s o i ∧ Lists (· < W.heap.size) W m s o i ∧ m.wf := by
  obtain ⟨m, hl, hf⟩ := open_fields Tryz.underlying46 h hs
  have hl : cs.length = 34 := hl
  rcases cs with _ | ⟨c0, cs⟩
  · simp at hl
  rcases cs with _ | ⟨c1, cs⟩
  · simp at hl
  rcases cs with _ | ⟨c2, cs⟩
  · simp at hl
  rcases cs with _ | ⟨c3, cs⟩
  · simp at hl
  rcases cs with _ | ⟨c4, cs⟩
  · simp at hl
  rcases cs with _ | ⟨c5, cs⟩
  · simp at hl
  rcases cs with _ | ⟨c6, cs⟩
  · simp at hl
  rcases cs with _ | ⟨c7, cs⟩
  · simp at hl
  rcases cs with _ | ⟨c8, cs⟩
  · simp at hl
  rcases cs with _ | ⟨c9, cs⟩
  · simp at hl
  rcases cs with _ | ⟨c10, cs⟩
  · simp at hl
  rcases cs with _ | ⟨c11, cs⟩
  · simp at hl
  rcases cs with _ | ⟨c12, cs⟩
  · simp at hl
  rcases cs with _ | ⟨c13, cs⟩
  · simp at hl
  rcases cs with _ | ⟨c14, cs⟩
  · simp at hl
  rcases cs with _ | ⟨c15, cs⟩
  · simp at hl
  rcases cs with _ | ⟨c16, cs⟩
  · simp at hl
  rcases cs with _ | ⟨c17, cs⟩
  · simp at hl
  rcases cs with _ | ⟨c18, cs⟩
  · simp at hl
  rcases cs with _ | ⟨c19, cs⟩
  · simp at hl
  rcases cs with _ | ⟨c20, cs⟩
  · simp at hl
  rcases cs with _ | ⟨c21, cs⟩
  · simp at hl
  rcases cs with _ | ⟨c22, cs⟩
  · simp at hl
  rcases cs with _ | ⟨c23, cs⟩
  · simp at hl
  rcases cs with _ | ⟨c24, cs⟩
  · simp at hl
  rcases cs with _ | ⟨c25, cs⟩
  · simp at hl
  rcases cs with _ | ⟨c26, cs⟩
  · simp at hl
  rcases cs with _ | ⟨c27, cs⟩
  · simp at hl
  rcases cs with _ | ⟨c28, cs⟩
  · simp at hl
  rcases cs with _ | ⟨c29, cs⟩
  · simp at hl
  rcases cs with _ | ⟨c30, cs⟩
  · simp at hl
  rcases cs with _ | ⟨c31, cs⟩
  · simp at hl
  rcases cs with _ | ⟨c32, cs⟩
  · simp at hl
  rcases cs with _ | ⟨c33, cs⟩
  · simp at hl
  obtain rfl : cs = [] := List.eq_nil_of_length_eq_zero (by simp only [List.length_cons] at hl; omega)
  · skip
    obtain ⟨y0, g0, s0⟩ := hf 0 _ rfl
    have g0 : Rdg enc W m 3 [c0] y0 := (congrArg (fun q => DataW.trod enc Tryz.prog W 0 (fun _ => true) true m 3 q) (show ([c0, c1, c2, c3, c4, c5, c6, c7, c8, c9, c10, c11, c12, c13, c14, c15, c16, c17, c18, c19, c20, c21, c22, c23, c24, c25, c26, c27, c28, c29, c30, c31, c32, c33].drop 0).take (Tryz.prog.cellsOf 3) = [c0] from by rw [show Tryz.prog.cellsOf 3 = 1 from by kernel_rfl]; rfl)).symm.trans g0
    obtain ⟨a0, e0, w0⟩ := open_int1 Tryz.underlying3 g0
    obtain ⟨y1, g1, s1⟩ := hf 1 _ rfl
    have g1 : Rdg enc W m 3 [c1] y1 := (congrArg (fun q => DataW.trod enc Tryz.prog W 0 (fun _ => true) true m 3 q) (show ([c0, c1, c2, c3, c4, c5, c6, c7, c8, c9, c10, c11, c12, c13, c14, c15, c16, c17, c18, c19, c20, c21, c22, c23, c24, c25, c26, c27, c28, c29, c30, c31, c32, c33].drop 1).take (Tryz.prog.cellsOf 3) = [c1] from by rw [show Tryz.prog.cellsOf 3 = 1 from by kernel_rfl]; rfl)).symm.trans g1
    obtain ⟨a1, e1, w1⟩ := open_int1 Tryz.underlying3 g1
    obtain ⟨y2, g2, s2⟩ := hf 2 _ rfl
    have g2 : Rdg enc W m 3 [c2] y2 := (congrArg (fun q => DataW.trod enc Tryz.prog W 0 (fun _ => true) true m 3 q) (show ([c0, c1, c2, c3, c4, c5, c6, c7, c8, c9, c10, c11, c12, c13, c14, c15, c16, c17, c18, c19, c20, c21, c22, c23, c24, c25, c26, c27, c28, c29, c30, c31, c32, c33].drop 2).take (Tryz.prog.cellsOf 3) = [c2] from by rw [show Tryz.prog.cellsOf 3 = 1 from by kernel_rfl]; rfl)).symm.trans g2
    obtain ⟨a2, e2, w2⟩ := open_int1 Tryz.underlying3 g2
    obtain ⟨y3, g3, s3⟩ := hf 3 _ rfl
    have g3 : Rdg enc W m 3 [c3] y3 := (congrArg (fun q => DataW.trod enc Tryz.prog W 0 (fun _ => true) true m 3 q) (show ([c0, c1, c2, c3, c4, c5, c6, c7, c8, c9, c10, c11, c12, c13, c14, c15, c16, c17, c18, c19, c20, c21, c22, c23, c24, c25, c26, c27, c28, c29, c30, c31, c32, c33].drop 3).take (Tryz.prog.cellsOf 3) = [c3] from by rw [show Tryz.prog.cellsOf 3 = 1 from by kernel_rfl]; rfl)).symm.trans g3
    obtain ⟨a3, e3, w3⟩ := open_int1 Tryz.underlying3 g3
    obtain ⟨y4, g4, s4⟩ := hf 4 _ rfl
    have g4 : Rdg enc W m 3 [c4] y4 := (congrArg (fun q => DataW.trod enc Tryz.prog W 0 (fun _ => true) true m 3 q) (show ([c0, c1, c2, c3, c4, c5, c6, c7, c8, c9, c10, c11, c12, c13, c14, c15, c16, c17, c18, c19, c20, c21, c22, c23, c24, c25, c26, c27, c28, c29, c30, c31, c32, c33].drop 4).take (Tryz.prog.cellsOf 3) = [c4] from by rw [show Tryz.prog.cellsOf 3 = 1 from by kernel_rfl]; rfl)).symm.trans g4
    obtain ⟨a4, e4, w4⟩ := open_int1 Tryz.underlying3 g4
    obtain ⟨y5, g5, s5⟩ := hf 5 _ rfl
    have g5 : Rdg enc W m 3 [c5] y5 := (congrArg (fun q => DataW.trod enc Tryz.prog W 0 (fun _ => true) true m 3 q) (show ([c0, c1, c2, c3, c4, c5, c6, c7, c8, c9, c10, c11, c12, c13, c14, c15, c16, c17, c18, c19, c20, c21, c22, c23, c24, c25, c26, c27, c28, c29, c30, c31, c32, c33].drop 5).take (Tryz.prog.cellsOf 3) = [c5] from by rw [show Tryz.prog.cellsOf 3 = 1 from by kernel_rfl]; rfl)).symm.trans g5
    obtain ⟨a5, e5, w5⟩ := open_int1 Tryz.underlying3 g5
    obtain ⟨y6, g6, s6⟩ := hf 6 _ rfl
    have g6 : Rdg enc W m 3 [c6] y6 := (congrArg (fun q => DataW.trod enc Tryz.prog W 0 (fun _ => true) true m 3 q) (show ([c0, c1, c2, c3, c4, c5, c6, c7, c8, c9, c10, c11, c12, c13, c14, c15, c16, c17, c18, c19, c20, c21, c22, c23, c24, c25, c26, c27, c28, c29, c30, c31, c32, c33].drop 6).take (Tryz.prog.cellsOf 3) = [c6] from by rw [show Tryz.prog.cellsOf 3 = 1 from by kernel_rfl]; rfl)).symm.trans g6
    obtain ⟨a6, e6, w6⟩ := open_int1 Tryz.underlying3 g6
    obtain ⟨y7, g7, s7⟩ := hf 7 _ rfl
    have g7 : Rdg enc W m 3 [c7] y7 := (congrArg (fun q => DataW.trod enc Tryz.prog W 0 (fun _ => true) true m 3 q) (show ([c0, c1, c2, c3, c4, c5, c6, c7, c8, c9, c10, c11, c12, c13, c14, c15, c16, c17, c18, c19, c20, c21, c22, c23, c24, c25, c26, c27, c28, c29, c30, c31, c32, c33].drop 7).take (Tryz.prog.cellsOf 3) = [c7] from by rw [show Tryz.prog.cellsOf 3 = 1 from by kernel_rfl]; rfl)).symm.trans g7
    obtain ⟨a7, e7, w7⟩ := open_int1 Tryz.underlying3 g7
    obtain ⟨y8, g8, s8⟩ := hf 8 _ rfl
    have g8 : Rdg enc W m 3 [c8] y8 := (congrArg (fun q => DataW.trod enc Tryz.prog W 0 (fun _ => true) true m 3 q) (show ([c0, c1, c2, c3, c4, c5, c6, c7, c8, c9, c10, c11, c12, c13, c14, c15, c16, c17, c18, c19, c20, c21, c22, c23, c24, c25, c26, c27, c28, c29, c30, c31, c32, c33].drop 8).take (Tryz.prog.cellsOf 3) = [c8] from by rw [show Tryz.prog.cellsOf 3 = 1 from by kernel_rfl]; rfl)).symm.trans g8
    obtain ⟨a8, e8, w8⟩ := open_int1 Tryz.underlying3 g8
    obtain ⟨y9, g9, s9⟩ := hf 9 _ rfl
    have g9 : Rdg enc W m 4 [c9] y9 := (congrArg (fun q => DataW.trod enc Tryz.prog W 0 (fun _ => true) true m 4 q) (show ([c0, c1, c2, c3, c4, c5, c6, c7, c8, c9, c10, c11, c12, c13, c14, c15, c16, c17, c18, c19, c20, c21, c22, c23, c24, c25, c26, c27, c28, c29, c30, c31, c32, c33].drop 9).take (Tryz.prog.cellsOf 4) = [c9] from by rw [show Tryz.prog.cellsOf 4 = 1 from by kernel_rfl]; rfl)).symm.trans g9
    obtain ⟨a9, e9⟩ := open_bool1 Tryz.underlying4 g9
    obtain ⟨y10, g10, s10⟩ := hf 10 _ rfl
    have g10 : Rdg enc W m 4 [c10] y10 := (congrArg (fun q => DataW.trod enc Tryz.prog W 0 (fun _ => true) true m 4 q) (show ([c0, c1, c2, c3, c4, c5, c6, c7, c8, c9, c10, c11, c12, c13, c14, c15, c16, c17, c18, c19, c20, c21, c22, c23, c24, c25, c26, c27, c28, c29, c30, c31, c32, c33].drop 10).take (Tryz.prog.cellsOf 4) = [c10] from by rw [show Tryz.prog.cellsOf 4 = 1 from by kernel_rfl]; rfl)).symm.trans g10
    obtain ⟨a10, e10⟩ := open_bool1 Tryz.underlying4 g10
    obtain ⟨y11, g11, s11⟩ := hf 11 _ rfl
    have g11 : Rdg enc W m 4 [c11] y11 := (congrArg (fun q => DataW.trod enc Tryz.prog W 0 (fun _ => true) true m 4 q) (show ([c0, c1, c2, c3, c4, c5, c6, c7, c8, c9, c10, c11, c12, c13, c14, c15, c16, c17, c18, c19, c20, c21, c22, c23, c24, c25, c26, c27, c28, c29, c30, c31, c32, c33].drop 11).take (Tryz.prog.cellsOf 4) = [c11] from by rw [show Tryz.prog.cellsOf 4 = 1 from by kernel_rfl]; rfl)).symm.trans g11
    obtain ⟨a11, e11⟩ := open_bool1 Tryz.underlying4 g11
    obtain ⟨y12, g12, s12⟩ := hf 12 _ rfl
    have g12 : Rdg enc W m 37 [c12, c13, c14, c15, c16, c17, c18, c19, c20, c21] y12 := (congrArg (fun q => DataW.trod enc Tryz.prog W 0 (fun _ => true) true m 37 q) (show ([c0, c1, c2, c3, c4, c5, c6, c7, c8, c9, c10, c11, c12, c13, c14, c15, c16, c17, c18, c19, c20, c21, c22, c23, c24, c25, c26, c27, c28, c29, c30, c31, c32, c33].drop 12).take (Tryz.prog.cellsOf 37) = [c12, c13, c14, c15, c16, c17, c18, c19, c20, c21] from by rw [show Tryz.prog.cellsOf 37 = 10 from by kernel_rfl]; rfl)).symm.trans g12
    obtain ⟨⟨op, s⟩, f12, st, wop⟩ := open_op g12 s12
    obtain ⟨y13, g13, s13⟩ := hf 13 _ rfl
    have g13 : Rdg enc W m 40 [c22, c23, c24, c25] y13 := (congrArg (fun q => DataW.trod enc Tryz.prog W 0 (fun _ => true) true m 40 q) (show ([c0, c1, c2, c3, c4, c5, c6, c7, c8, c9, c10, c11, c12, c13, c14, c15, c16, c17, c18, c19, c20, c21, c22, c23, c24, c25, c26, c27, c28, c29, c30, c31, c32, c33].drop 22).take (Tryz.prog.cellsOf 40) = [c22, c23, c24, c25] from by rw [show Tryz.prog.cellsOf 40 = 4 from by kernel_rfl]; rfl)).symm.trans g13
    obtain ⟨r0, r1, r2, r3, f13, v0, v1, v2, v3⟩ := open_reply g13 s13
    obtain ⟨y14, g14, s14⟩ := hf 14 _ rfl
    have g14 : Rdg enc W m 42 [c26, c27, c28, c29, c30, c31] y14 := (congrArg (fun q => DataW.trod enc Tryz.prog W 0 (fun _ => true) true m 42 q) (show ([c0, c1, c2, c3, c4, c5, c6, c7, c8, c9, c10, c11, c12, c13, c14, c15, c16, c17, c18, c19, c20, c21, c22, c23, c24, c25, c26, c27, c28, c29, c30, c31, c32, c33].drop 26).take (Tryz.prog.cellsOf 42) = [c26, c27, c28, c29, c30, c31] from by rw [show Tryz.prog.cellsOf 42 = 6 from by kernel_rfl]; rfl)).symm.trans g14
    obtain ⟨k0, k1, k2, k3, k4, k5, f14, u0, u1, u2, u3, u4⟩ := open_command g14 s14
    obtain ⟨y15, g15, s15⟩ := hf 15 _ rfl
    have g15 : Rdg enc W m 43 [c32] y15 := (congrArg (fun q => DataW.trod enc Tryz.prog W 0 (fun _ => true) true m 43 q) (show ([c0, c1, c2, c3, c4, c5, c6, c7, c8, c9, c10, c11, c12, c13, c14, c15, c16, c17, c18, c19, c20, c21, c22, c23, c24, c25, c26, c27, c28, c29, c30, c31, c32, c33].drop 32).take (Tryz.prog.cellsOf 43) = [c32] from by rw [show Tryz.prog.cellsOf 43 = 1 from by kernel_rfl]; rfl)).symm.trans g15
    obtain ⟨ops, hops, wops⟩ := open_ops g15 s15
    obtain ⟨y16, g16, s16⟩ := hf 16 _ rfl
    have g16 : Rdg enc W m 44 [c33] y16 := (congrArg (fun q => DataW.trod enc Tryz.prog W 0 (fun _ => true) true m 44 q) (show ([c0, c1, c2, c3, c4, c5, c6, c7, c8, c9, c10, c11, c12, c13, c14, c15, c16, c17, c18, c19, c20, c21, c22, c23, c24, c25, c26, c27, c28, c29, c30, c31, c32, c33].drop 33).take (Tryz.prog.cellsOf 44) = [c33] from by rw [show Tryz.prog.cellsOf 44 = 1 from by kernel_rfl]; rfl)).symm.trans g16
    obtain ⟨incs, hincs, wincs⟩ := open_incs g16 s16
    subst e0 e1 e2 e3 e4 e5 e6 e7 e8 e9 e10 e11
    unfold OpD.cells at f12
    simp only [List.cons.injEq, and_true] at f12 f13 f14
    obtain ⟨rfl, rfl, rfl, rfl, rfl, rfl, rfl, rfl, rfl, rfl⟩ := f12
    obtain ⟨rfl, rfl, rfl, rfl⟩ := f13
    obtain ⟨rfl, rfl, rfl, rfl, rfl, rfl⟩ := f14
    exact ⟨⟨a0, a1, a2, a3, a4, a5, a6, a7, a8, a9, a10, a11, op, r0, r1, r2, r3, k0, k1, k2, k3, k4, k5, ops, incs⟩, _, c32, c33, rfl, ⟨st, hops, hincs⟩, w0, w1, w2, w3, w4, w5, w6, w7, w8, wop, v0, v1, v2, v3, u0, u1, u2, u3, u4, wops, wincs⟩
theorem arg_msg {cs : Array Value} {d : DataW H} {p : List MemPlace} (h : DataW.Trod enc Tryz.prog W 0 (fun _ => true) true 46 (.agg cs) d p) (hs : Sm 46 d) : ∃ (m : MsgD) (s o i : Value), cs = (m.cells s o i).toArray ∧ Lists (· < W.heap.size) W m s o i ∧ m.wf := by
  obtain ⟨fuel, hf⟩ := h
  obtain ⟨m, s, o, i, e, hl, wf⟩ := open_msg (n := fuel) (x := (d, p)) hf hs
  refine ⟨m, s, o, i, ?_, hl, wf⟩
  have e2 : cs.toList = m.cells s o i := e
  rw [← e2]
end
end Go.Proofs.YtdkiopajilakcaaGreat
namespace Go.Proofs.YtdkiopajilakcaaGreat
open Go.ChangeShapes Go.WideShapes Go.ChangeAt Go.RowKit

theorem outboxNone_lawKnobs : ownKnob Tryz.prog.godebug = none := by kernel_rfl
theorem outboxNone_allLaid : laidOutB Tryz.prog = true := by kernel_rfl

set_option maxRecDepth 100000 in
set_option maxHeartbeats 1000000 in
theorem outboxNone_lifted (os : Os) (started : os.Started) (H : Type) (enc : TypeId × Value → H) :
    ReturnsInHanded {} Tryz.checked os 6 .any (Rows.outboxNoneSpec.pre6 enc Tryz.prog Tryz.f6 Rows.outboxNoneRow.domain false) (Rows.outboxNoneSpec.post enc Tryz.prog Tryz.f6 false true false false) := by
  refine returnsInHanded_of_change_sized (C := Tryz.checked) outboxNone_lawKnobs started (by kernel_rfl) Tryz.func6
    (ChangeSpec.witness6 (enc := enc) (C := Tryz.checked) false ⟨#[], #[.agg (MsgD.zero.cells (.slice none 0 0) (.slice none 0 0) (.slice none 0 0)).toArray], []⟩ 8 (by kernel_rfl) (by kernel_rfl) (by kernel_rfl) (by kernel_rfl)) ?_
  intro W base args ds gs before hval0 hW hcnd hsz _
  have hval : ∀ (j : Nat) t v, Tryz.f6.params[j]? = some t → args[j]? = some v → Value.okWide Tryz.prog W .any base t v := hval0
  have hW' := hW
  obtain ⟨p, q, hA0, hV, rfl, _, _⟩ := hW
  have hA : DataW.TrodAll enc Tryz.prog W 0 (fun _ => true) true Tryz.f6.params.toList args.toList ds p := hA0
  rw [Tryz.params6] at hA hval
  obtain ⟨v0, vs0, d0, ds0, p0, q0, hargs, rfl, rfl, h0, r0⟩ := trodAll_cons hA
  obtain ⟨rfl, rfl, rfl⟩ := trodAll_nil r0
  obtain rfl : args = #[v0] := by cases args; simp_all
  obtain ⟨rfl, rfl⟩ := trodVars_none hV
  have k0 := h0
  have lt0 : ∀ x ∈ p0, x.block < W.heap.size := by obtain ⟨m, hm⟩ := k0; exact DataW.trod_lt m _ _ _ hm
  have s0 : Sm 46 d0 := sm_of hsz (j := 0) rfl rfl
  obtain ⟨cs0, rfl, _⟩ := okWide_struct Tryz.underlying46 (hval 0 46 v0 rfl rfl)
  obtain ⟨m0, s0v, o0, i0, rfl, hl0, wf0⟩ := arg_msg h0 s0
  clear hA0 hval0
  refine (law_noneW m0 s0v o0 i0 W hl0 wf0).mono fun e W' ⟨he, bel⟩ => ?_
  subst he
  exact ⟨_, rfl, _, _, _, [], _, [], hW', trodAll_mk1 (shut_bool Tryz.underlying4 _), (trodAll_cons_mk (Below.trod outboxNone_allLaid (by kernel_rfl) (of_decide_eq_true (by kernel_rfl)) k0 bel lt0) trodAll_mk0), rfl, bel.frame _, fun h => by cases h⟩

theorem outboxNone_over : Rows.outboxNoneRow.holds Tryz.pinned (OpenSpec.ofChange Rows.outboxNoneSpec) :=
  OpenClaim.holds_of_wide 6 Tryz.f6 rfl rfl rfl rfl rfl rfl rfl ⟨rfl, rfl, rfl, rfl, rfl⟩ rfl rfl rfl rfl rfl (by kernel_rfl) Tryz.func6 (by kernel_rfl)
    (of_decide_eq_true (by kernel_rfl)) (by unfold Func.isWrapper; first | (rw [if_pos (by decide +kernel)]; kernel_rfl) | (rw [if_neg (by decide +kernel)]; exact ⟨rfl, rfl⟩))
    (fun os started H enc _ => outboxNone_lifted os started H enc)

theorem outboxNone_holds : Rows.OutboxNoneSaid := outboxNone_over
#print axioms outboxNone_holds
end Go.Proofs.YtdkiopajilakcaaGreat
