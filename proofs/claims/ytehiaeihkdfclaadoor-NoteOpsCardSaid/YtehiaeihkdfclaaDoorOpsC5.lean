/- Whatever operation comes in: NoteOps returns true and changes no argument. Conditions: the package-level table of package envelope starts as the program's text lays it; each argument takes up what the row allows. -/
import Derived.Test.YtehiaeihkdfclaaDoorOpsC1
import Derived.Test.YtehiaeihkdfclaaDoorOpsC2
import Derived.Test.YtehiaeihkdfclaaDoorOpsC3
import Derived.Test.YtehiaeihkdfclaaDoorOpsC4
import Derived.Deep.QuietTactic
import Derived.BigQuiet
import Derived.Test.YtehiaeihkdfclaaDoorRows
import Derived.Deep.Slices
import Derived.ChangeArms
import Derived.SizedLaws
import Derived.ShutString
import Derived.ProofKit
import Derived.OpenShut
import Derived.Lib.LaidTab
import Derived.LaidMore
import Derived.Test.YtehiaeihkdfclaaDoorCards
import Derived.Test.YtehiaeihkdfclaaDoorTie
import Derived.SevenTiedAt
import Derived.ChangeOld
/- slices.Equal at steps, the document's SameDef. -/
namespace Go.Proofs.YtehiaeihkdfclaaDoor
open Go.RowKit

/-- The first k are alike. -/
def Alike {α : Type} (l m : List α) (k : Nat) : Prop := ∀ i, i < k → l[i]? = m[i]?
section
variable {α : Type} {l m : List α} {k : Nat}
theorem Alike.zero (l m : List α) : Alike l m 0 := fun i hi => by omega
theorem Alike.next (h : Alike l m k) (he : l[k]? = m[k]?) : Alike l m (k + 1) := fun i hi => by
  by_cases hk : i = k
  · rw [hk, he]
  · exact h i (by omega)
theorem Alike.all (h : Alike l m k) (h1 : l.length = k) (h2 : m.length = k) : l = m := by
  apply List.ext_getElem?
  intro i
  by_cases hi : i < k
  · exact h i hi
  · rw [List.getElem?_eq_none (by omega), List.getElem?_eq_none (by omega)]
theorem ne_at {x y : α} (hx : l[k]? = some x) (hy : m[k]? = some y) (hne : x ≠ y) : l ≠ m := by
  rintro rfl
  rw [hx] at hy
  exact hne (Option.some.inj hy)
end
theorem neq_step_same (s : StepD) (w : World) : (binOp .neq 72 (.agg (s.cells).toArray) (.agg (s.cells).toArray)).run Tryd.prog w = .ok (.bool false) w := by rw [neq_step]; simp
theorem neq_step_other {s t : StepD} (h : s ≠ t) (w : World) : (binOp .neq 72 (.agg (s.cells).toArray) (.agg (t.cells).toArray)).run Tryd.prog w = .ok (.bool true) w := by rw [neq_step]; simp [h]

set_option maxHeartbeats 1000000 in
theorem same_def (F G : Nat → Prop) (a1 a2 : ByteArray) (v v2 : Value) (l m : List StepD) (w : World) (hl : StepsAt F w v l) (hm : StepsAt G w v2 m) :
    Calls Tryd.prog 18 #[.agg #[.string a1, v], .agg #[.string a2, v2]] w fun e w' => e = .returned (.bool (decide (a1 = a2 ∧ l = m))) ∧ Below w.heap.size w w' := by
  obtain ⟨A, c, rfl, h1, h2, _⟩ := FlatAt.shape hl
  obtain ⟨A2, c2, rfl, h3, h4, _⟩ := FlatAt.shape hm
  unfold maxLen at h2 h4
  obtain ⟨n, hn⟩ : ∃ n, l.length = n := ⟨_, rfl⟩
  obtain ⟨n2, hn2⟩ : ∃ n2, m.length = n2 := ⟨_, rfl⟩
  rw [hn] at h1 hl ⊢
  rw [hn2] at h3 hm ⊢
  have hbw : Below w.heap.size w ((w.alloc (.cells #[.string a1, .slice A n c] 24 (0, 0))).alloc (.cells #[.string a2, .slice A2 n2 c2] 24 (0, 0))) := ((Below.refl _ _).alloc (Nat.le_refl _) _).alloc (by simp) _
  have H1 := hide (hl.kept (Kept.of_below hbw F))
  have H2 := hide (hm.kept (Kept.of_below hbw G))
  have HBW := hide hbw
  have HN := hide hn
  have HN2 := hide hn2
  clear hl hm hbw hn hn2
  by_cases ha : a1 = a2
  · subst ha
    have hs1 : (a1.toList == a1.toList) = true := by simp
    have hs2 : (a1.toList != a1.toList) = false := by simp
    by_cases hnm : n = n2
    · subst hnm
      have ht : ((n : Int) != (n : Int)) = false := by simp
      go_enter Tryd.func18, Tryd.ntmps18
      go_wp2
      have cA : ((w.alloc (.cells #[.string a1, .slice A n c] 24 (0, 0))).alloc (.cells #[.string a1, .slice A2 n c2] 24 (0, 0))).cell? ⟨w.heap.size, 1, none⟩ = some (.slice A n c) := cell_of_row _ _ 1 _ _ _ ((Below.block ((Below.refl _ _).alloc (Nat.le_refl _) _) w.heap.size (by simp)).trans (heap_alloc_new w _))
      have cB : ((w.alloc (.cells #[.string a1, .slice A n c] 24 (0, 0))).alloc (.cells #[.string a1, .slice A2 n c2] 24 (0, 0))).cell? ⟨w.heap.size + 1, 1, none⟩ = some (.slice A2 n c2) := cell_of_row _ _ 1 _ _ _ (heap_alloc2_new w _ _)
      generalize ((w.alloc (.cells #[.string a1, .slice A n c] 24 (0, 0))).alloc (.cells #[.string a1, .slice A2 n c2] 24 (0, 0))) = W at H1 H2 HBW cA cB ⊢
      go_loopw [23] (fun i wr => ∃ k : Nat, k ≤ n ∧ i = .int .i64 (k : Int) ∧ Alike l m k ∧ ∃ q, wr = W.drewN q) (fun i _ => n - (intOf i).toNat)
      case atStart => exact ⟨0, by omega, rfl, Alike.zero _ _, 0, rfl⟩
      case round =>
        obtain ⟨k, hk, rfl, hup, q, rfl⟩ := hrel
        have HU := hide hup
        clear hup
        by_cases hkn : k < n
        · obtain ⟨x, b, off, c', hx, hv, _, _, _, hr⟩ := StepsAt.at_ H1.out (i := k) (by rw [HN.out]; exact hkn)
          rw [HN.out] at hv
          obtain ⟨rfl, rfl⟩ : A = some ⟨b, off, none⟩ ∧ c = c' := by injection hv with e1 _ e3; exact ⟨e1, e3⟩
          obtain ⟨y, b2, off2, c2', hy, hv2, _, _, _, hr2⟩ := StepsAt.at_ H2.out (i := k) (by rw [HN2.out]; exact hkn)
          rw [HN2.out] at hv2
          obtain ⟨rfl, rfl⟩ : A2 = some ⟨b2, off2, none⟩ ∧ c2 = c2' := by injection hv2 with e1 _ e3; exact ⟨e1, e3⟩
          obtain ⟨r0, r1, r2, r3, r4, r5⟩ := range_step hr
          obtain ⟨s0, s1, s2, s3, s4, s5⟩ := range_step hr2
          have HX := hide hx
          have HY := hide hy
          clear hx hy hv hv2 hr hr2
          by_cases he : x = y
          · subst he
            have hq := fun w => neq_step_same x w
            simp only [StepD.cells] at hq
            go_wp2
            go_quiet (fail)
            go_wp2
            go_roundw
            case rel => exact ⟨k + 1, by omega, by go_num, HU.out.next (HX.out.trans HY.out.symm), _, rfl⟩
            case measure => simp [intOf]; omega
          · have hq := fun w => neq_step_other he w
            simp only [StepD.cells] at hq
            have HE := hide (ne_at HX.out HY.out he)
            clear he
            go_wp2
            go_quiet (fail)
            go_wp2
            go_ret
            exact ⟨ret_bool (by simp [HE.out]), HBW.out.trans ((below_drewN _ _ _).trans (below_drewN _ _ _))⟩
        · go_wp2
          go_ret
          exact ⟨ret_bool (by simp [HU.out.all (by have := HN.out; omega) (by have := HN2.out; omega)]), HBW.out.trans (below_drewN _ _ _)⟩
    · have ht : ((n : Int) != (n2 : Int)) = true := by simp; omega
      have HE : Hid (l ≠ m) := by
        rintro rfl
        exact hnm (HN.out.symm.trans HN2.out)
      go_enter Tryd.func18, Tryd.ntmps18
      go_wp2
      go_ret
      exact ⟨ret_bool (by simp [HE.out]), HBW.out⟩
  · have hs0 : (a1.toList == a2.toList) = false := by rw [str_eq]; simpa using ha
    have hs1 : (a1.toList != a2.toList) = true := by unfold bne; rw [hs0]; rfl
    have HE := hide ha
    clear ha
    go_enter Tryd.func18, Tryd.ntmps18
    go_wp2
    go_ret
    exact ⟨ret_bool (by simp [HE.out]), HBW.out⟩
end Go.Proofs.YtehiaeihkdfclaaDoor
/- The document's SameOp. -/
namespace Go.Proofs.YtehiaeihkdfclaaDoor
open Go.RowKit

theorem op_iff (x y : OpD) : x = y ↔ x.kind = y.kind ∧ x.client = y.client ∧ x.request = y.request ∧ (x.name = y.name ∧ x.steps = y.steps) ∧ x.saga = y.saga ∧ x.step = y.step ∧ x.try_ = y.try_ ∧ x.back = y.back ∧ x.good = y.good := by
  cases x
  cases y
  simp [and_assoc]

set_option maxHeartbeats 1000000 in
set_option maxRecDepth 100000 in
theorem same_op (F G : Nat → Prop) (v v2 : Value) (x y : OpD) (w : World) (hl : StepsAt F w v x.steps) (hm : StepsAt G w v2 y.steps) :
    Calls Tryd.prog 13 #[.agg (x.cells v).toArray, .agg (y.cells v2).toArray] w fun e w' => e = .returned (.bool (decide (x = y))) ∧ Below w.heap.size w w' := by
  obtain ⟨q0, h0⟩ : ∃ q, (x.kind == y.kind) = q := ⟨_, rfl⟩
  obtain ⟨q1, h1⟩ : ∃ q, (x.client == y.client) = q := ⟨_, rfl⟩
  obtain ⟨q2, h2⟩ : ∃ q, (x.request == y.request) = q := ⟨_, rfl⟩
  obtain ⟨q3, h3⟩ : ∃ q, decide (x.name = y.name ∧ x.steps = y.steps) = q := ⟨_, rfl⟩
  obtain ⟨q4, h4⟩ : ∃ q, (x.saga == y.saga) = q := ⟨_, rfl⟩
  obtain ⟨q5, h5⟩ : ∃ q, (x.step == y.step) = q := ⟨_, rfl⟩
  obtain ⟨q6, h6⟩ : ∃ q, (x.try_ == y.try_) = q := ⟨_, rfl⟩
  obtain ⟨q7, h7⟩ : ∃ q, (x.back == y.back) = q := ⟨_, rfl⟩
  obtain ⟨q8, h8⟩ : ∃ q, (x.good == y.good) = q := ⟨_, rfl⟩
  have HALL : Hid (decide (x = y) = (q0 && (q1 && (q2 && (q3 && (q4 && (q5 && (q6 && (q7 && q8))))))))) := by
    show _ = _
    rw [← h0, ← h1, ← h2, ← h3, ← h4, ← h5, ← h6, ← h7, ← h8, Bool.eq_iff_iff, decide_eq_true_eq, op_iff]
    simp
  have C := hide (fun w' (hb : Below w.heap.size w w') => same_def F G x.name y.name v v2 x.steps y.steps w' (hl.kept (Kept.of_below hb F)) (hm.kept (Kept.of_below hb G)))
  rw [h3] at C
  clear h3
  have H1 := FlatAt.oneCell hl
  have H2 := FlatAt.oneCell hm
  clear hl hm
  unfold OpD.cells
  have hbw : Below w.heap.size w ((w.alloc (.cells (x.cells v).toArray 26 (0, 0))).alloc (.cells (y.cells v2).toArray 26 (0, 0))) := ((Below.refl _ _).alloc (Nat.le_refl _) _).alloc (by simp) _
  have HBW := hide hbw
  have B1 : Hid (∀ w' : World, Below (w.heap.size + 2) ((w.alloc (.cells (x.cells v).toArray 26 (0, 0))).alloc (.cells (y.cells v2).toArray 26 (0, 0))) w' → w'.heap[w.heap.size]? = some (.cells (x.cells v).toArray 26 (0, 0)) ∧ w'.heap[w.heap.size + 1]? = some (.cells (y.cells v2).toArray 26 (0, 0))) := fun w' hb =>
    ⟨(hb.block _ (by omega)).trans ((Below.block ((Below.refl _ _).alloc (Nat.le_refl _) _) w.heap.size (by simp)).trans (heap_alloc_new w _)), (hb.block _ (by omega)).trans (heap_alloc2_new w _ _)⟩
  clear hbw
  unfold OpD.cells at HBW B1
  go_enter Tryd.func13, Tryd.ntmps13
  go_wp2_with (fail)
  all_goals (try (go_ret; exact ⟨ret_bool (by rw [HALL.out]; simp [*]), HBW.out⟩))
  refine (C.out _ HBW.out).mono ?_
  rintro e w1 ⟨rfl, hb1⟩
  have HB1 := hide (HBW.out.trans (hb1.mono HBW.out.size))
  obtain ⟨hx, hy⟩ := B1.out w1 (hb1.mono (by simp))
  obtain ⟨x0, x1, x2, x3, x4, x5, x6, x7, x8, x9⟩ := box10 hx
  obtain ⟨y0, y1, y2, y3, y4, y5, y6, y7, y8, y9⟩ := box10 hy
  clear hb1 hx hy x0 x1 x2 x3 x4 y0 y1 y2 y3 y4
  go_wp2_with (fail)
  all_goals (try (go_ret; exact ⟨ret_bool (by rw [HALL.out]; simp [*]), HB1.out⟩))
end Go.Proofs.YtehiaeihkdfclaaDoor
/- The walk over droverlaw09.NoteOps: good operations and definitions come back. -/
namespace Go.Proofs.YtehiaeihkdfclaaDoor
open Go.RowKit

set_option maxHeartbeats 3000000 in
set_option maxRecDepth 100000 in
theorem law_ops (x : OpD) (sv : Value) (w : World) (h : StepsAt (· < w.heap.size) w sv x.steps) (hwf : x.wf) (hT : Tab w) :
    Calls Tryd.prog 5 #[.agg (x.cells sv).toArray] w fun e w' => e = .returned (.bool true) ∧ Later w w' := by
  obtain ⟨sA, sc, rfl, _⟩ := FlatAt.shape h
  have hx0 : (w.alloc (.cells #[.int .i64 x.kind, .int .i64 x.client, .int .i64 x.request, .string x.name, .slice sA x.steps.length sc, .int .i64 x.saga, .int .i64 x.step, .int .i64 x.try_, .bool x.back, .bool x.good] 26 (0, 0))).heap[w.heap.size]? = some (.cells #[.int .i64 x.kind, .int .i64 x.client, .int .i64 x.request, .string x.name, .slice sA x.steps.length sc, .int .i64 x.saga, .int .i64 x.step, .int .i64 x.try_, .bool x.back, .bool x.good] 26 (0, 0)) := heap_alloc_new _ _
  have hl0 : Later w (w.alloc (.cells #[.int .i64 x.kind, .int .i64 x.client, .int .i64 x.request, .string x.name, .slice sA x.steps.length sc, .int .i64 x.saga, .int .i64 x.step, .int .i64 x.try_, .bool x.back, .bool x.good] 26 (0, 0))) := Later.alloc _ _
  have HX : Hid (∀ w', Later (w.alloc (.cells #[.int .i64 x.kind, .int .i64 x.client, .int .i64 x.request, .string x.name, .slice sA x.steps.length sc, .int .i64 x.saga, .int .i64 x.step, .int .i64 x.try_, .bool x.back, .bool x.good] 26 (0, 0))) w' → w'.heap[w.heap.size]? = some (.cells #[.int .i64 x.kind, .int .i64 x.client, .int .i64 x.request, .string x.name, .slice sA x.steps.length sc, .int .i64 x.saga, .int .i64 x.step, .int .i64 x.try_, .bool x.back, .bool x.good] 26 (0, 0))) := fun w' hl => (Below.block hl _ (lt_of_block hx0)).trans hx0
  have HS : Hid (∀ w', Later w w' → StepsAt (· < w.heap.size) w' (.slice sA x.steps.length sc) x.steps) := fun w' hl => h.kept (Kept.of_below hl _)
  have HT : Hid (∀ w', Later w w' → Tab w') := fun w' hl => hT.later hl
  have HW := hide hwf
  have hwm : ({ MsgD.zero with op := x } : MsgD).wf := ⟨i64_zero, i64_zero, i64_zero, i64_zero, i64_zero, i64_zero, i64_zero, i64_zero, i64_zero, hwf, i64_zero, i64_zero, i64_zero, i64_zero, i64_zero, i64_zero, i64_zero, i64_zero, i64_zero, (by intro o ho; cases ho), (by intro o ho; cases ho)⟩
  have C := hide (small_law (F := (· < w.heap.size)) (m := { MsgD.zero with op := x }) (sv := .slice sA x.steps.length sc) (ov := .slice none 0 0) (iv := .slice none 0 0) (w := w.alloc (.cells #[.int .i64 x.kind, .int .i64 x.client, .int .i64 x.request, .string x.name, .slice sA x.steps.length sc, .int .i64 x.saga, .int .i64 x.step, .int .i64 x.try_, .bool x.back, .bool x.good] 26 (0, 0))) hwm ⟨HS.out _ hl0, OpsAt.nil_ _ _, IncsAt.nil_ _ _⟩)
  have HL0 := hide hl0
  clear h hwf hT hwm hx0 hl0
  show Calls Tryd.prog 5 #[.agg #[.int .i64 x.kind, .int .i64 x.client, .int .i64 x.request, .string x.name, .slice sA x.steps.length sc, .int .i64 x.saga, .int .i64 x.step, .int .i64 x.try_, .bool x.back, .bool x.good]] w _
  go_enter Tryd.func5, Tryd.ntmps5
  go_wp2_with (fail)
  refine C.out.mono ?_
  rintro e w1 ⟨b, rfl, hb, l1⟩
  have HB := hide hb
  have A1 := hide l1
  have L1 := hide (HL0.out.trans l1)
  clear hb l1 C
  cases b with
  | false =>
    have D := hide (lives_any (HT.out _ L1.out))
    go_wp2_with (fail)
    refine D.out.mono ?_
    rintro e w2 ⟨rfl, l2⟩
    have L2 := hide (L1.out.trans l2)
    clear l2 D
    go_wp2
    go_ret
    exact ⟨rfl, L2.out⟩
  | true =>
    have hlt : x.lightP 200 := (HB.out rfl).1.1
    have HLT := hide hlt
    have HSM := hide (light_sm hlt HW.out)
    have hx1 := HX.out w1 A1.out
    obtain ⟨c0, c1, c2, c3, c4, c5, c6, c7, c8, c9⟩ := box10 hx1
    have D := hide (opbytes_any HSM.out (by omega) (HS.out w1 L1.out))
    clear hlt hx1 HB
    go_wp2_with (fail)
    refine D.out.mono ?_
    rintro e w2 ⟨B1, m1, d1, rfl, _, hh1, hd1, l2⟩
    have A2 := hide (A1.out.trans (show Later w1 w2 from l2))
    have L2 := hide (HL0.out.trans A2.out)
    have hm1 : m1 ≤ 950000 := by have h1 := hh1.1; have h2 := light_opB HLT.out; omega
    have E := hide (readOp_any hh1 hm1 hd1)
    rw [readOp_B HSM.out (by omega)] at E
    clear hh1 l2 hm1 D c0 c1 c2 c3 c4 c5 c6 c7 c8 c9
    go_wp2_with (fail)
    refine E.out.mono ?_
    rintro e w3 ⟨y, er, yA, yc, hy, her, rfl, hys, l3⟩
    have A3 := hide (A2.out.trans l3)
    have L3 := hide (HL0.out.trans A3.out)
    have HY := hide hy
    have HER := hide her
    have HYS := hide hys
    clear hy her hys l3 E
    have hx3 := HX.out w3 A3.out
    obtain ⟨c0, c1, c2, c3, c4, c5, c6, c7, c8, c9⟩ := box10 hx3
    have hlt3 : w.heap.size < w3.heap.size := lt_of_block hx3
    have ha : Later w3 (w3.alloc (.cells #[.int .i64 y.kind, .int .i64 y.client, .int .i64 y.request, .string y.name, .slice yA y.steps.length yc, .int .i64 y.saga, .int .i64 y.step, .int .i64 y.try_, .bool y.back, .bool y.good] 26 (0, 0))) := Later.alloc _ _
    have hy3 : (w3.alloc (.cells #[.int .i64 y.kind, .int .i64 y.client, .int .i64 y.request, .string y.name, .slice yA y.steps.length yc, .int .i64 y.saga, .int .i64 y.step, .int .i64 y.try_, .bool y.back, .bool y.good] 26 (0, 0))).heap[w3.heap.size]? = some (.cells #[.int .i64 y.kind, .int .i64 y.client, .int .i64 y.request, .string y.name, .slice yA y.steps.length yc, .int .i64 y.saga, .int .i64 y.step, .int .i64 y.try_, .bool y.back, .bool y.good] 26 (0, 0)) := heap_alloc_new _ _
    have HY3 : Hid (∀ w', Later (w3.alloc (.cells #[.int .i64 y.kind, .int .i64 y.client, .int .i64 y.request, .string y.name, .slice yA y.steps.length yc, .int .i64 y.saga, .int .i64 y.step, .int .i64 y.try_, .bool y.back, .bool y.good] 26 (0, 0))) w' → w'.heap[w3.heap.size]? = some (.cells #[.int .i64 y.kind, .int .i64 y.client, .int .i64 y.request, .string y.name, .slice yA y.steps.length yc, .int .i64 y.saga, .int .i64 y.step, .int .i64 y.try_, .bool y.back, .bool y.good] 26 (0, 0))) := fun w' hl => (Below.block hl _ (lt_of_block hy3)).trans hy3
    have A4 := hide (A3.out.trans ha)
    have L4 := hide (HL0.out.trans A4.out)
    have M4 := hide ha
    have D := hide (defbytes_any (w := w3.alloc (.cells #[.int .i64 y.kind, .int .i64 y.client, .int .i64 y.request, .string y.name, .slice yA y.steps.length yc, .int .i64 y.saga, .int .i64 y.step, .int .i64 y.try_, .bool y.back, .bool y.good] 26 (0, 0))) HSM.out.2.2.2.1 (by omega) (HS.out _ L4.out))
    clear hx3 ha hy3
    go_wp2_with (fail)
    refine D.out.mono ?_
    rintro e w5 ⟨B2, m2, d2, rfl, _, hh2, hd2, l5⟩
    have N5 := hide (show Later (w3.alloc (.cells #[.int .i64 y.kind, .int .i64 y.client, .int .i64 y.request, .string y.name, .slice yA y.steps.length yc, .int .i64 y.saga, .int .i64 y.step, .int .i64 y.try_, .bool y.back, .bool y.good] 26 (0, 0))) w5 from l5)
    have A5 := hide (A4.out.trans N5.out)
    have L5 := hide (HL0.out.trans A5.out)
    have hm2 : m2 ≤ 950000 := by have h1 := hh2.1; have h2 : (defB ⟨x.name, x.steps⟩).length ≤ 850000 := light_defB HLT.out; omega
    have E := hide (readDef_any hh2 hm2 hd2)
    rw [show readDef (defB ⟨x.name, x.steps⟩) = _ from readDef_B HSM.out.2.2.2.1 (by omega)] at E
    clear hh2 l5 hm2 D c0 c1 c2 c3 c4 c5 c6 c7 c8 c9 hlt3
    go_wp2_with (fail)
    refine E.out.mono ?_
    rintro e w6 ⟨z, dr, zA, zc, hz, hdr, rfl, hzs, l6⟩
    have N6 := hide (N5.out.trans l6)
    have A6 := hide (A5.out.trans l6)
    have L6 := hide (HL0.out.trans A6.out)
    have HZ := hide hz
    have HDR := hide hdr
    have HZS := hide hzs
    clear hz hdr hzs l6 E
    have hx6 := HX.out w6 A6.out
    have hy6 := HY3.out w6 N6.out
    have hltx : w.heap.size < w6.heap.size := lt_of_block hx6
    have hlty : w3.heap.size < w6.heap.size := lt_of_block hy6
    obtain ⟨c0, c1, c2, c3, c4, c5, c6, c7, c8, c9⟩ := box10 hx6
    obtain ⟨y0, y1, y2, y3, y4, y5, y6, y7, y8, y9⟩ := box10 hy6
    have hq : Later w6 (w6.alloc (.cells #[.string z.name, .slice zA z.steps.length zc] 24 (0, 0))) := Later.alloc _ _
    have hz6 : (w6.alloc (.cells #[.string z.name, .slice zA z.steps.length zc] 24 (0, 0))).heap[w6.heap.size]? = some (.cells #[.string z.name, .slice zA z.steps.length zc] 24 (0, 0)) := heap_alloc_new _ _
    have HZ6 : Hid (∀ w', Later (w6.alloc (.cells #[.string z.name, .slice zA z.steps.length zc] 24 (0, 0))) w' → w'.heap[w6.heap.size]? = some (.cells #[.string z.name, .slice zA z.steps.length zc] 24 (0, 0))) := fun w' hl => (Below.block hl _ (lt_of_block hz6)).trans hz6
    have A7 := hide (A6.out.trans hq)
    have N7 := hide (N6.out.trans hq)
    have L7 := hide (HL0.out.trans A7.out)
    have D := hide (goodop_any (· < w.heap.size) x sA x.steps.length sc (w6.alloc (.cells #[.string z.name, .slice zA z.steps.length zc] 24 (0, 0))) rfl (HS.out _ L7.out))
    clear hx6 hy6 hq hz6
    obtain ⟨t, ht⟩ : ∃ t, opG x = t := ⟨_, rfl⟩
    obtain ⟨u, hu⟩ : ∃ u, defG x.defn = u := ⟨_, rfl⟩
    rw [ht] at D
    have HG := hide ht
    have HU := hide hu
    clear ht hu
    have HQQ : Later w6 (w6.alloc (.cells #[.string z.name, .slice zA z.steps.length zc] 24 (0, 0))) := Later.alloc _ _
    cases u with
    | false =>
      have hdz : dr = 4 ∧ z = .zero := by have h1 := HDR.out; have h2 := HZ.out; rw [show ({ name := x.name, steps := x.steps } : DefD) = x.defn from rfl] at h1 h2; rw [HU.out] at h1 h2; exact ⟨h1, h2⟩
      have HZE := hide hdz.2
      obtain rfl := hdz.1
      clear hdz
      have htf : t = false := by cases t; rfl; exact absurd HU.out (by have h := HG.out; unfold opG at h; simp only [Bool.and_eq_true] at h; rw [h.1.2]; decide)
      subst htf
      have hey : er = 4 ∧ y = .zero := by have h1 := HER.out; have h2 := HY.out; rw [HG.out] at h1 h2; exact ⟨h1, h2⟩
      have HYE := hide hey.2
      obtain rfl := hey.1
      clear hey
      go_wp2_with (fail)
      refine D.out.mono ?_
      rintro e w7 ⟨rfl, l7⟩
      have A8 := hide (A7.out.trans l7)
      have N8 := hide (N7.out.trans l7)
      have Q8 := hide l7
      have L8 := hide (HL0.out.trans A8.out)
      clear l7 D c0 c1 c2 c3 c4 c5 c6 c7 c8 c9 y0 y1 y2 y3 y4 y5 y6 y7 y8 y9 hltx hlty
      have hxa := HX.out w7 A8.out
      have hltx := lt_of_block hxa
      have c3 := box_at hxa 3 (.string x.name) rfl
      have c4 := box_at hxa 4 (.slice sA x.steps.length sc) rfl
      have D2 := hide (goodop_any (· < w.heap.size) { OpD.zero with name := x.name, steps := x.steps } sA x.steps.length sc w7 rfl (HS.out _ L8.out))
      rw [defG_op, HU.out] at D2
      clear hxa
      go_wp2_with (fail)
      refine D2.out.mono ?_
      rintro e wa ⟨rfl, la⟩
      have Aa := hide (A8.out.trans la)
      have La := hide (HL0.out.trans Aa.out)
      have Na := hide (N8.out.trans la)
      have Qa := hide (Q8.out.trans la)
      clear la D2 c3 c4 hltx
      have E2 := hide (lives_any (HT.out _ La.out))
      go_wp2_with (fail)
      refine E2.out.mono ?_
      rintro e wc ⟨rfl, lc⟩
      have Lc := hide (La.out.trans lc)
      clear lc E2
      go_wp2
      go_ret
      exact ⟨rfl, Lc.out⟩
    | true =>
      have hdz : dr = 0 ∧ z = x.defn := by have h1 := HDR.out; have h2 := HZ.out; rw [show ({ name := x.name, steps := x.steps } : DefD) = x.defn from rfl] at h1 h2; rw [HU.out] at h1 h2; exact ⟨h1, h2⟩
      have HZE := hide hdz.2
      obtain rfl := hdz.1
      clear hdz
      cases t with
      | false =>
        have hey : er = 4 ∧ y = .zero := by have h1 := HER.out; have h2 := HY.out; rw [HG.out] at h1 h2; exact ⟨h1, h2⟩
        have HYE := hide hey.2
        obtain rfl := hey.1
        clear hey
        go_wp2_with (fail)
        refine D.out.mono ?_
        rintro e w7 ⟨rfl, l7⟩
        have A8 := hide (A7.out.trans l7)
        have N8 := hide (N7.out.trans l7)
        have Q8 := hide l7
        have L8 := hide (HL0.out.trans A8.out)
        clear l7 D c0 c1 c2 c3 c4 c5 c6 c7 c8 c9 y0 y1 y2 y3 y4 y5 y6 y7 y8 y9 hltx hlty
        have hxa := HX.out w7 A8.out
        have hltx := lt_of_block hxa
        have c3 := box_at hxa 3 (.string x.name) rfl
        have c4 := box_at hxa 4 (.slice sA x.steps.length sc) rfl
        have D2 := hide (goodop_any (· < w.heap.size) { OpD.zero with name := x.name, steps := x.steps } sA x.steps.length sc w7 rfl (HS.out _ L8.out))
        rw [defG_op, HU.out] at D2
        clear hxa
        go_wp2_with (fail)
        refine D2.out.mono ?_
        rintro e wa ⟨rfl, la⟩
        have Aa := hide (A8.out.trans la)
        have La := hide (HL0.out.trans Aa.out)
        have Na := hide (N8.out.trans la)
        have Qa := hide (Q8.out.trans la)
        clear la D2 c3 c4 hltx
        have hxb := HX.out wa Aa.out
        have hltx := lt_of_block hxb
        have c3 := box_at hxb 3 (.string x.name) rfl
        have c4 := box_at hxb 4 (.slice sA x.steps.length sc) rfl
        have hzb := HZ6.out wa Qa.out
        have hltz := lt_of_block hzb
        have z0 := box_at hzb 0 (.string z.name) rfl
        have z1 := box_at hzb 1 (.slice zA z.steps.length zc) rfl
        have S2 := hide (same_def (fun _ => True) (· < w.heap.size) z.name x.name (.slice zA z.steps.length zc) (.slice sA x.steps.length sc) z.steps x.steps wa ((HZS.out.mono fun _ _ _ => trivial).kept (Kept.of_below (HQQ.trans Qa.out |> hide).out _)) (HS.out _ La.out))
        have ezx : decide (z.name = x.name ∧ z.steps = x.steps) = true := by rw [HZE.out]; simp [OpD.defn]
        rw [ezx] at S2
        clear hxb hzb
        go_wp2_with (fail)
        refine S2.out.mono ?_
        rintro e wb ⟨rfl, lb⟩
        have Lb := hide (La.out.trans (show Later wa wb from lb))
        clear lb S2 c3 c4 hltx hltz z0 z1
        have E2 := hide (lives_any (HT.out _ Lb.out))
        go_wp2_with (fail)
        refine E2.out.mono ?_
        rintro e wc ⟨rfl, lc⟩
        have Lc := hide (Lb.out.trans lc)
        clear lc E2
        go_wp2
        go_ret
        exact ⟨rfl, Lc.out⟩
      | true =>
        have hey : er = 0 ∧ y = x := by have h1 := HER.out; have h2 := HY.out; rw [HG.out] at h1 h2; exact ⟨h1, h2⟩
        have HYE := hide hey.2
        obtain rfl := hey.1
        clear hey
        go_wp2_with (fail)
        refine D.out.mono ?_
        rintro e w7 ⟨rfl, l7⟩
        have A8 := hide (A7.out.trans l7)
        have N8 := hide (N7.out.trans l7)
        have Q8 := hide l7
        have L8 := hide (HL0.out.trans A8.out)
        clear l7 D c0 c1 c2 c3 c4 c5 c6 c7 c8 c9 y0 y1 y2 y3 y4 y5 y6 y7 y8 y9 hltx hlty
        have hx7 := HX.out w7 A8.out
        have hy7 := HY3.out w7 N8.out
        have hltx : w.heap.size < w7.heap.size := lt_of_block hx7
        have hlty : w3.heap.size < w7.heap.size := lt_of_block hy7
        obtain ⟨c0, c1, c2, c3, c4, c5, c6, c7, c8, c9⟩ := box10 hx7
        obtain ⟨y0, y1, y2, y3, y4, y5, y6, y7, y8, y9⟩ := box10 hy7
        have S1 := hide (same_op (fun _ => True) (· < w.heap.size) (.slice yA y.steps.length yc) (.slice sA x.steps.length sc) y x w7 ((HYS.out.mono fun _ _ _ => trivial).kept (Kept.of_below (M4.out.trans N8.out) _)) (HS.out _ L8.out))
        have exy : decide (y = x) = true := by rw [HYE.out]; simp
        rw [exy] at S1
        clear hx7 hy7
        go_wp2_with (fail)
        refine S1.out.mono ?_
        rintro e w8 ⟨rfl, l8⟩
        have A9 := hide (A8.out.trans (show Later w7 w8 from l8))
        have N9 := hide (N8.out.trans (show Later w7 w8 from l8))
        have Q9 := hide (Q8.out.trans (show Later w7 w8 from l8))
        have L9 := hide (HL0.out.trans A9.out)
        clear l8 S1 c0 c1 c2 c3 c4 c5 c6 c7 c8 c9 y0 y1 y2 y3 y4 y5 y6 y7 y8 y9 hltx hlty
        have hxa := HX.out w8 A9.out
        have hltx := lt_of_block hxa
        have c3 := box_at hxa 3 (.string x.name) rfl
        have c4 := box_at hxa 4 (.slice sA x.steps.length sc) rfl
        have D2 := hide (goodop_any (· < w.heap.size) { OpD.zero with name := x.name, steps := x.steps } sA x.steps.length sc w8 rfl (HS.out _ L9.out))
        rw [defG_op, HU.out] at D2
        clear hxa
        go_wp2_with (fail)
        refine D2.out.mono ?_
        rintro e wa ⟨rfl, la⟩
        have Aa := hide (A9.out.trans la)
        have La := hide (HL0.out.trans Aa.out)
        have Na := hide (N9.out.trans la)
        have Qa := hide (Q9.out.trans la)
        clear la D2 c3 c4 hltx
        have hxb := HX.out wa Aa.out
        have hltx := lt_of_block hxb
        have c3 := box_at hxb 3 (.string x.name) rfl
        have c4 := box_at hxb 4 (.slice sA x.steps.length sc) rfl
        have hzb := HZ6.out wa Qa.out
        have hltz := lt_of_block hzb
        have z0 := box_at hzb 0 (.string z.name) rfl
        have z1 := box_at hzb 1 (.slice zA z.steps.length zc) rfl
        have S2 := hide (same_def (fun _ => True) (· < w.heap.size) z.name x.name (.slice zA z.steps.length zc) (.slice sA x.steps.length sc) z.steps x.steps wa ((HZS.out.mono fun _ _ _ => trivial).kept (Kept.of_below (HQQ.trans Qa.out |> hide).out _)) (HS.out _ La.out))
        have ezx : decide (z.name = x.name ∧ z.steps = x.steps) = true := by rw [HZE.out]; simp [OpD.defn]
        rw [ezx] at S2
        clear hxb hzb
        go_wp2_with (fail)
        refine S2.out.mono ?_
        rintro e wb ⟨rfl, lb⟩
        have Lb := hide (La.out.trans (show Later wa wb from lb))
        clear lb S2 c3 c4 hltx hltz z0 z1
        have E2 := hide (lives_any (HT.out _ Lb.out))
        go_wp2_with (fail)
        refine E2.out.mono ?_
        rintro e wc ⟨rfl, lc⟩
        have Lc := hide (Lb.out.trans lc)
        clear lc E2
        go_wp2
        go_ret
        exact ⟨rfl, Lc.out⟩
end Go.Proofs.YtehiaeihkdfclaaDoor
/- From what a row says of steps, operations and messages that came in to what the walks are told of them. -/
namespace Go.Proofs.YtehiaeihkdfclaaDoor
open Go.RowKit

/-- No string and no slice in the datum is too long. -/
def Sm {H : Type} (t : TypeId) (d : DataW H) : Prop := ∀ n ∈ d.weights Tryd.prog t, n ≤ reachBytes
theorem weights_mem_all {H : Type} {P : Program} {e : TypeId} {d : DataW H} : ∀ {l : List (DataW H)}, d ∈ l → ∀ n ∈ d.weights P e, n ∈ DataW.weightsAll P e l
  | [], h, _, _ => by cases h
  | y :: r, h, n, hn => by
    simp only [DataW.weightsAll, List.mem_append]
    rcases List.mem_cons.1 h with rfl | h
    · exact .inl hn
    · exact .inr (weights_mem_all h n hn)

section
variable {H : Type} {enc : TypeId × Value → H} {W : World}
/-- The reading of an argument. -/
abbrev Rd (enc : TypeId × Value → H) (W : World) (n : Nat) (t : TypeId) (cs : List Value) (x : DataW H × List MemPlace) : Prop := DataW.trod enc Tryd.prog W 0 (fun _ => true) true n t cs = some x

/-- A struct's fields. -/
theorem open_fields {t : TypeId} {fs : Array Field} {n : Nat} {cs : List Value} {x : DataW H × List MemPlace} (ht : Tryd.prog.underlying t = some (.struct fs)) (h : Rd enc W n t cs x) (hs : Sm t x.1) :
    ∃ m, cs.length = Tryd.prog.cellsOf t ∧ ∀ (i : Nat) (f : Field), fs[i]? = some f → ∃ y, Rd enc W m f.type ((cs.drop f.offset).take (Tryd.prog.cellsOf f.type)) y ∧ Sm f.type y.1 := by
  obtain ⟨xs, m, _, hx, hl, hxl, hf⟩ := DataW.trod_struct ht h
  refine ⟨m, hl, fun i f hi => ?_⟩
  have hil : i < xs.length := by rw [hxl]; exact (Array.getElem?_eq_some_iff.1 hi).1
  refine ⟨xs[i], (hf i f hi).trans (List.getElem?_eq_getElem hil), fun k hk => hs k ?_⟩
  rw [hx]
  simp only [DataW.weights, ht]
  exact DataW.weights_mem_each (j := i) (t := f.type) (d := xs[i].1) (by simp [hi]) (by simp [hil]) k hk
theorem open_int1 {t : TypeId} {n : Nat} {c : Value} {x : DataW H × List MemPlace} (ht : Tryd.prog.underlying t = some (.int .i64)) (h : Rd enc W n t [c] x) : ∃ a : Int, c = .int .i64 a ∧ I64 a := by
  obtain ⟨a, h0, _, w0⟩ := DataW.trod_int ht h
  have b0 := bounds_i64 w0
  simp only [List.cons.injEq, and_true] at h0
  exact ⟨a, h0, by unfold I64; omega⟩
theorem open_bool1 {t : TypeId} {n : Nat} {c : Value} {x : DataW H × List MemPlace} (ht : Tryd.prog.underlying t = some .bool) (h : Rd enc W n t [c] x) : ∃ a : Bool, c = .bool a := by
  obtain ⟨a, h0, _⟩ := DataW.trod_bool ht h
  simp only [List.cons.injEq, and_true] at h0
  exact ⟨a, h0⟩
theorem open_str1 {t : TypeId} {n : Nat} {c : Value} {x : DataW H × List MemPlace} (ht : Tryd.prog.underlying t = some .string) (h : Rd enc W n t [c] x) (hs : Sm t x.1) : ∃ s : ByteArray, c = .string s ∧ s.size ≤ 140737488355328 := by
  obtain ⟨s, h0, h1, _⟩ := DataW.trod_string ht h
  simp only [List.cons.injEq, and_true] at h0
  refine ⟨s, h0, ?_⟩
  have := hs s.data.toList.length (by rw [h1]; simp [DataW.weights])
  unfold reachBytes at this
  rw [Array.length_toList] at this
  show s.data.size ≤ _
  omega

/-- The elements of a slice. -/
theorem open_elems {α : Type} [Inhabited α] (cells : α → List Value) (good : α → Prop) {t e : TypeId} (k : Nat) (hk : 0 < k) (hck : ∀ y, (cells y).length = k) (ht : Tryd.prog.underlying t = some (.slice e)) (hc : Tryd.prog.cellsOf e = k)
    (hel : ∀ (n : Nat) (cs : List Value) (x : DataW H × List MemPlace), Rd enc W n e cs x → Sm e x.1 → ∃ y : α, cs = cells y ∧ good y) (hone : ∀ y, good y → ∀ u ∈ cells y, u.oneCell' = true)
    {n : Nat} {v : Value} {x : DataW H × List MemPlace} (h : Rd enc W n t [v] x) (hs : Sm t x.1) :
    ∃ ys : List α, FlatAt (· < W.heap.size) W k v ys.length (ys.flatMap cells) ∧ ∀ y ∈ ys, good y := by
  rcases Go.Deep.open_slice ht h with ⟨hcs, _⟩ | ⟨a, l, c, m, n', D, Pl, hcs, _, hl, hm, hmm, hx, hi⟩
  · obtain rfl : v = .slice none 0 0 := by simpa using hcs
    exact ⟨[], FlatAt.nil_ _ _ _, by simp⟩
  · obtain rfl : v = .slice (some a) l c := by simpa using hcs
    simp only [if_true] at hmm
    rw [hc] at hi
    obtain ⟨F, hF⟩ := Go.Deep.choose_lt (p := fun i (y : α) => (∀ j u, (cells y)[j]? = some u → W.cell? (a.add (i * k + j)) = some u) ∧ good y) fun i (hil : i < l) => by
      obtain ⟨cs', h1, h2⟩ := hi i (by omega)
      have hsm : Sm e (D i) := fun q hq => hs q (by
        rw [hx]
        simp only [DataW.weights, ht]
        exact List.mem_cons_of_mem _ (List.mem_append_left _ (weights_mem_all (List.mem_map.2 ⟨i, List.mem_range.2 hil, rfl⟩) q hq)))
      obtain ⟨y, hy, hg⟩ := hel n' cs' (D i, Pl i) h2 hsm
      obtain ⟨_, hlen, hat⟩ := World.cells?_some h1
      refine ⟨y, fun j u hu => ?_, hg⟩
      have hj : j < k := by rw [← hck y]; exact (List.getElem?_eq_some_iff.1 hu).1
      rw [← Go.Deep.add_add, hat j hj, hy, hu]
    refine ⟨(List.range l).map F, ⟨?_, ?_, some a, c, by simp, by simpa using hl, hm, (fun e => by cases e), fun hn => ?_⟩, fun y hy => ?_⟩
    · exact flat_len cells k _ (fun y _ => hck y)
    · intro u hu
      obtain ⟨y, hy, hu⟩ := List.mem_flatMap.1 hu
      obtain ⟨i, hi, rfl⟩ := List.mem_map.1 hy
      exact hone _ (hF i (List.mem_range.1 hi)).2 u hu
    · have hn' : 0 < l := by simpa using hn
      obtain ⟨b, off, spot⟩ := a
      have hk0 : (cells (F 0))[0]? = some ((cells (F 0))[0]'(by rw [hck]; exact hk)) := List.getElem?_eq_getElem (by rw [hck]; exact hk)
      have h0 := (hF 0 hn').1 0 _ hk0
      have hspot : spot = none := by simpa [Addr.add] using World.cell?_spot h0
      subst hspot
      have hblt : b < W.heap.size := World.block_lt_of_cell? W _ (by simpa [Addr.add] using h0)
      refine ⟨b, off, rfl, hblt, hblt, fun j u hj => ?_⟩
      have hjl : j < l * k := by
        have := (List.getElem?_eq_some_iff.1 hj).1
        rw [flat_len cells k _ (fun y _ => hck y)] at this
        simpa using this
      have hq : j / k < l := Nat.div_lt_of_lt_mul (by rwa [Nat.mul_comm])
      have hr : j % k < k := Nat.mod_lt _ hk
      have hj2 : j = j / k * k + j % k := by rw [Nat.mul_comm]; exact (Nat.div_add_mod j k).symm
      have hge := flat_get cells k ((List.range l).map F) (j / k) (F (j / k)) (fun y _ => hck y) (by simp [hq])
      have hu : (cells (F (j / k)))[j % k]? = some u := by
        rw [← hge, List.getElem?_take_of_lt hr, List.getElem?_drop, ← hj2, hj]
      have := (hF (j / k) hq).1 (j % k) u hu
      rwa [Addr.add_lit, ← hj2] at this
    · obtain ⟨i, hi, rfl⟩ := List.mem_map.1 hy
      exact (hF i (List.mem_range.1 hi)).2
end

instance : Inhabited StepD := ⟨⟨⟨#[]⟩, 0, 0, 0, false, false⟩⟩
instance : Inhabited (OpD × Value) := ⟨⟨.zero, .slice none 0 0⟩⟩
section
variable {H : Type} {enc : TypeId × Value → H} {W : World}
set_option maxRecDepth 100000

theorem open_step {n : Nat} {cs : List Value} {x : DataW H × List MemPlace} (h : Rd enc W n 72 cs x) (hs : Sm 72 x.1) :
    ∃ s : StepD, cs = s.cells ∧ s.wf := by
  obtain ⟨m, hl, hf⟩ := open_fields Tryd.underlying72 h hs
  have hl : cs.length = 6 := hl
  match cs, hl with
  | [c0, c1, c2, c3, c4, c5], _ =>
    obtain ⟨y0, g0, s0⟩ := hf 0 _ rfl
    have g0 : Rd enc W m 9 [c0] y0 := (congrArg (fun q => DataW.trod enc Tryd.prog W 0 (fun _ => true) true m 9 q) (show ([c0, c1, c2, c3, c4, c5].drop 0).take (Tryd.prog.cellsOf 9) = [c0] from by rw [show Tryd.prog.cellsOf 9 = 1 from by kernel_rfl]; rfl)).symm.trans g0
    obtain ⟨a0, e0, w0⟩ := open_str1 Tryd.underlying9 g0 s0
    obtain ⟨y1, g1, s1⟩ := hf 1 _ rfl
    have g1 : Rd enc W m 3 [c1] y1 := (congrArg (fun q => DataW.trod enc Tryd.prog W 0 (fun _ => true) true m 3 q) (show ([c0, c1, c2, c3, c4, c5].drop 1).take (Tryd.prog.cellsOf 3) = [c1] from by rw [show Tryd.prog.cellsOf 3 = 1 from by kernel_rfl]; rfl)).symm.trans g1
    obtain ⟨a1, e1, w1⟩ := open_int1 Tryd.underlying3 g1
    obtain ⟨y2, g2, s2⟩ := hf 2 _ rfl
    have g2 : Rd enc W m 3 [c2] y2 := (congrArg (fun q => DataW.trod enc Tryd.prog W 0 (fun _ => true) true m 3 q) (show ([c0, c1, c2, c3, c4, c5].drop 2).take (Tryd.prog.cellsOf 3) = [c2] from by rw [show Tryd.prog.cellsOf 3 = 1 from by kernel_rfl]; rfl)).symm.trans g2
    obtain ⟨a2, e2, w2⟩ := open_int1 Tryd.underlying3 g2
    obtain ⟨y3, g3, s3⟩ := hf 3 _ rfl
    have g3 : Rd enc W m 3 [c3] y3 := (congrArg (fun q => DataW.trod enc Tryd.prog W 0 (fun _ => true) true m 3 q) (show ([c0, c1, c2, c3, c4, c5].drop 3).take (Tryd.prog.cellsOf 3) = [c3] from by rw [show Tryd.prog.cellsOf 3 = 1 from by kernel_rfl]; rfl)).symm.trans g3
    obtain ⟨a3, e3, w3⟩ := open_int1 Tryd.underlying3 g3
    obtain ⟨y4, g4, s4⟩ := hf 4 _ rfl
    have g4 : Rd enc W m 4 [c4] y4 := (congrArg (fun q => DataW.trod enc Tryd.prog W 0 (fun _ => true) true m 4 q) (show ([c0, c1, c2, c3, c4, c5].drop 4).take (Tryd.prog.cellsOf 4) = [c4] from by rw [show Tryd.prog.cellsOf 4 = 1 from by kernel_rfl]; rfl)).symm.trans g4
    obtain ⟨a4, e4⟩ := open_bool1 Tryd.underlying4 g4
    obtain ⟨y5, g5, s5⟩ := hf 5 _ rfl
    have g5 : Rd enc W m 4 [c5] y5 := (congrArg (fun q => DataW.trod enc Tryd.prog W 0 (fun _ => true) true m 4 q) (show ([c0, c1, c2, c3, c4, c5].drop 5).take (Tryd.prog.cellsOf 4) = [c5] from by rw [show Tryd.prog.cellsOf 4 = 1 from by kernel_rfl]; rfl)).symm.trans g5
    obtain ⟨a5, e5⟩ := open_bool1 Tryd.underlying4 g5
    subst e0 e1 e2 e3 e4 e5
    exact ⟨⟨a0, a1, a2, a3, a4, a5⟩, rfl, w0, w1, w2, w3⟩

theorem open_steps {n : Nat} {v : Value} {x : DataW H × List MemPlace} (h : Rd enc W n 22 [v] x) (hs : Sm 22 x.1) : ∃ l, StepsAt (· < W.heap.size) W v l ∧ ∀ s ∈ l, s.wf := by
  obtain ⟨ys, h1, h2⟩ := open_elems StepD.cells StepD.wf 6 (by decide) StepD.len Tryd.underlying22 (by kernel_rfl) (fun n cs x h hs => open_step h hs) (fun y _ => y.one) h hs
  exact ⟨ys, h1, h2⟩

theorem open_def {n : Nat} {cs : List Value} {x : DataW H × List MemPlace} (h : Rd enc W n 24 cs x) (hs : Sm 24 x.1) :
    ∃ (nm : ByteArray) (v : Value) (l : List StepD), cs = [.string nm, v] ∧ nm.size ≤ 140737488355328 ∧ StepsAt (· < W.heap.size) W v l ∧ ∀ s ∈ l, s.wf := by
  obtain ⟨m, hl, hf⟩ := open_fields Tryd.underlying24 h hs
  have hl : cs.length = 2 := hl
  match cs, hl with
  | [c0, c1], _ =>
    obtain ⟨y0, g0, s0⟩ := hf 0 _ rfl
    have g0 : Rd enc W m 9 [c0] y0 := (congrArg (fun q => DataW.trod enc Tryd.prog W 0 (fun _ => true) true m 9 q) (show ([c0, c1].drop 0).take (Tryd.prog.cellsOf 9) = [c0] from by rw [show Tryd.prog.cellsOf 9 = 1 from by kernel_rfl]; rfl)).symm.trans g0
    obtain ⟨a0, e0, w0⟩ := open_str1 Tryd.underlying9 g0 s0
    obtain ⟨y1, g1, s1⟩ := hf 1 _ rfl
    have g1 : Rd enc W m 22 [c1] y1 := (congrArg (fun q => DataW.trod enc Tryd.prog W 0 (fun _ => true) true m 22 q) (show ([c0, c1].drop 1).take (Tryd.prog.cellsOf 22) = [c1] from by rw [show Tryd.prog.cellsOf 22 = 1 from by kernel_rfl]; rfl)).symm.trans g1
    obtain ⟨l, hl1, hl2⟩ := open_steps g1 s1
    subst e0
    exact ⟨a0, _, l, rfl, w0, hl1, hl2⟩

theorem open_op {n : Nat} {cs : List Value} {x : DataW H × List MemPlace} (h : Rd enc W n 26 cs x) (hs : Sm 26 x.1) :
    ∃ p : OpD × Value, cs = p.1.cells p.2 ∧ StepsAt (· < W.heap.size) W p.2 p.1.steps ∧ p.1.wf := by
  obtain ⟨m, hl, hf⟩ := open_fields Tryd.underlying26 h hs
  have hl : cs.length = 10 := hl
  match cs, hl with
  | [c0, c1, c2, c3, c4, c5, c6, c7, c8, c9], _ =>
    obtain ⟨y0, g0, s0⟩ := hf 0 _ rfl
    have g0 : Rd enc W m 3 [c0] y0 := (congrArg (fun q => DataW.trod enc Tryd.prog W 0 (fun _ => true) true m 3 q) (show ([c0, c1, c2, c3, c4, c5, c6, c7, c8, c9].drop 0).take (Tryd.prog.cellsOf 3) = [c0] from by rw [show Tryd.prog.cellsOf 3 = 1 from by kernel_rfl]; rfl)).symm.trans g0
    obtain ⟨a0, e0, w0⟩ := open_int1 Tryd.underlying3 g0
    obtain ⟨y1, g1, s1⟩ := hf 1 _ rfl
    have g1 : Rd enc W m 3 [c1] y1 := (congrArg (fun q => DataW.trod enc Tryd.prog W 0 (fun _ => true) true m 3 q) (show ([c0, c1, c2, c3, c4, c5, c6, c7, c8, c9].drop 1).take (Tryd.prog.cellsOf 3) = [c1] from by rw [show Tryd.prog.cellsOf 3 = 1 from by kernel_rfl]; rfl)).symm.trans g1
    obtain ⟨a1, e1, w1⟩ := open_int1 Tryd.underlying3 g1
    obtain ⟨y2, g2, s2⟩ := hf 2 _ rfl
    have g2 : Rd enc W m 3 [c2] y2 := (congrArg (fun q => DataW.trod enc Tryd.prog W 0 (fun _ => true) true m 3 q) (show ([c0, c1, c2, c3, c4, c5, c6, c7, c8, c9].drop 2).take (Tryd.prog.cellsOf 3) = [c2] from by rw [show Tryd.prog.cellsOf 3 = 1 from by kernel_rfl]; rfl)).symm.trans g2
    obtain ⟨a2, e2, w2⟩ := open_int1 Tryd.underlying3 g2
    obtain ⟨y3, g3, s3⟩ := hf 3 _ rfl
    have g3 : Rd enc W m 24 [c3, c4] y3 := (congrArg (fun q => DataW.trod enc Tryd.prog W 0 (fun _ => true) true m 24 q) (show ([c0, c1, c2, c3, c4, c5, c6, c7, c8, c9].drop 3).take (Tryd.prog.cellsOf 24) = [c3, c4] from by rw [show Tryd.prog.cellsOf 24 = 2 from by kernel_rfl]; rfl)).symm.trans g3
    obtain ⟨nm, v, l, f3, w3, st, wst⟩ := open_def g3 s3
    obtain ⟨y4, g4, s4⟩ := hf 4 _ rfl
    have g4 : Rd enc W m 3 [c5] y4 := (congrArg (fun q => DataW.trod enc Tryd.prog W 0 (fun _ => true) true m 3 q) (show ([c0, c1, c2, c3, c4, c5, c6, c7, c8, c9].drop 5).take (Tryd.prog.cellsOf 3) = [c5] from by rw [show Tryd.prog.cellsOf 3 = 1 from by kernel_rfl]; rfl)).symm.trans g4
    obtain ⟨a4, e4, w4⟩ := open_int1 Tryd.underlying3 g4
    obtain ⟨y5, g5, s5⟩ := hf 5 _ rfl
    have g5 : Rd enc W m 3 [c6] y5 := (congrArg (fun q => DataW.trod enc Tryd.prog W 0 (fun _ => true) true m 3 q) (show ([c0, c1, c2, c3, c4, c5, c6, c7, c8, c9].drop 6).take (Tryd.prog.cellsOf 3) = [c6] from by rw [show Tryd.prog.cellsOf 3 = 1 from by kernel_rfl]; rfl)).symm.trans g5
    obtain ⟨a5, e5, w5⟩ := open_int1 Tryd.underlying3 g5
    obtain ⟨y6, g6, s6⟩ := hf 6 _ rfl
    have g6 : Rd enc W m 3 [c7] y6 := (congrArg (fun q => DataW.trod enc Tryd.prog W 0 (fun _ => true) true m 3 q) (show ([c0, c1, c2, c3, c4, c5, c6, c7, c8, c9].drop 7).take (Tryd.prog.cellsOf 3) = [c7] from by rw [show Tryd.prog.cellsOf 3 = 1 from by kernel_rfl]; rfl)).symm.trans g6
    obtain ⟨a6, e6, w6⟩ := open_int1 Tryd.underlying3 g6
    obtain ⟨y7, g7, s7⟩ := hf 7 _ rfl
    have g7 : Rd enc W m 4 [c8] y7 := (congrArg (fun q => DataW.trod enc Tryd.prog W 0 (fun _ => true) true m 4 q) (show ([c0, c1, c2, c3, c4, c5, c6, c7, c8, c9].drop 8).take (Tryd.prog.cellsOf 4) = [c8] from by rw [show Tryd.prog.cellsOf 4 = 1 from by kernel_rfl]; rfl)).symm.trans g7
    obtain ⟨a7, e7⟩ := open_bool1 Tryd.underlying4 g7
    obtain ⟨y8, g8, s8⟩ := hf 8 _ rfl
    have g8 : Rd enc W m 4 [c9] y8 := (congrArg (fun q => DataW.trod enc Tryd.prog W 0 (fun _ => true) true m 4 q) (show ([c0, c1, c2, c3, c4, c5, c6, c7, c8, c9].drop 9).take (Tryd.prog.cellsOf 4) = [c9] from by rw [show Tryd.prog.cellsOf 4 = 1 from by kernel_rfl]; rfl)).symm.trans g8
    obtain ⟨a8, e8⟩ := open_bool1 Tryd.underlying4 g8
    subst e0 e1 e2 e4 e5 e6 e7 e8
    simp only [List.cons.injEq, and_true] at f3
    obtain ⟨rfl, rfl⟩ := f3
    exact ⟨(⟨a0, a1, a2, nm, l, a4, a5, a6, a7, a8⟩, _), rfl, st, w0, w1, w2, w3, wst, w4, w5, w6⟩

theorem open_ops {n : Nat} {v : Value} {x : DataW H × List MemPlace} (h : Rd enc W n 32 [v] x) (hs : Sm 32 x.1) : ∃ l, OpsAt (· < W.heap.size) W v l ∧ ∀ o ∈ l, o.wf := by
  obtain ⟨ys, h1, h2⟩ := open_elems (fun p : OpD × Value => p.1.cells p.2) (fun p => StepsAt (· < W.heap.size) W p.2 p.1.steps ∧ p.1.wf) 10 (by decide) (fun p => p.1.len p.2) Tryd.underlying32 (by kernel_rfl) (fun n cs x h hs => open_op h hs) (fun y hy => y.1.one (FlatAt.oneCell hy.1)) h hs
  refine ⟨ys.map (·.1), ⟨ys, rfl, h1, fun p hp => (h2 p hp).1⟩, fun o ho => ?_⟩
  obtain ⟨p, hp, rfl⟩ := List.mem_map.1 ho
  exact (h2 p hp).2
theorem open_incs {n : Nat} {v : Value} {x : DataW H × List MemPlace} (h : Rd enc W n 33 [v] x) (hs : Sm 33 x.1) : ∃ l, IncsAt (· < W.heap.size) W v l ∧ ∀ a ∈ l, I64 a := by
  obtain ⟨ys, h1, h2⟩ := open_elems (fun a : Int => [.int .i64 a]) I64 1 (by decide) (fun _ => rfl) Tryd.underlying33 (by kernel_rfl) (fun n cs x h hs => by
    obtain ⟨a, h0, _, w0⟩ := DataW.trod_int Tryd.underlying3 h
    have b0 := bounds_i64 w0
    exact ⟨a, h0, by unfold I64; omega⟩) (fun y _ u hu => by obtain rfl : u = .int .i64 y := by simpa using hu
                                                             rfl) h hs
  refine ⟨ys, ?_, h2⟩
  unfold IncsAt
  rw [List.map_eq_flatMap]
  exact h1

theorem open_reply {n : Nat} {cs : List Value} {x : DataW H × List MemPlace} (h : Rd enc W n 29 cs x) (hs : Sm 29 x.1) :
    ∃ a b c d : Int, cs = [.int .i64 a, .int .i64 b, .int .i64 c, .int .i64 d] ∧ I64 a ∧ I64 b ∧ I64 c ∧ I64 d := by
  obtain ⟨m, hl, hf⟩ := open_fields Tryd.underlying29 h hs
  have hl : cs.length = 4 := hl
  match cs, hl with
  | [c0, c1, c2, c3], _ =>
    obtain ⟨y0, g0, s0⟩ := hf 0 _ rfl
    have g0 : Rd enc W m 27 [c0] y0 := (congrArg (fun q => DataW.trod enc Tryd.prog W 0 (fun _ => true) true m 27 q) (show ([c0, c1, c2, c3].drop 0).take (Tryd.prog.cellsOf 27) = [c0] from by rw [show Tryd.prog.cellsOf 27 = 1 from by kernel_rfl]; rfl)).symm.trans g0
    obtain ⟨a0, e0, w0⟩ := open_int1 Tryd.underlying27 g0
    obtain ⟨y1, g1, s1⟩ := hf 1 _ rfl
    have g1 : Rd enc W m 3 [c1] y1 := (congrArg (fun q => DataW.trod enc Tryd.prog W 0 (fun _ => true) true m 3 q) (show ([c0, c1, c2, c3].drop 1).take (Tryd.prog.cellsOf 3) = [c1] from by rw [show Tryd.prog.cellsOf 3 = 1 from by kernel_rfl]; rfl)).symm.trans g1
    obtain ⟨a1, e1, w1⟩ := open_int1 Tryd.underlying3 g1
    obtain ⟨y2, g2, s2⟩ := hf 2 _ rfl
    have g2 : Rd enc W m 3 [c2] y2 := (congrArg (fun q => DataW.trod enc Tryd.prog W 0 (fun _ => true) true m 3 q) (show ([c0, c1, c2, c3].drop 2).take (Tryd.prog.cellsOf 3) = [c2] from by rw [show Tryd.prog.cellsOf 3 = 1 from by kernel_rfl]; rfl)).symm.trans g2
    obtain ⟨a2, e2, w2⟩ := open_int1 Tryd.underlying3 g2
    obtain ⟨y3, g3, s3⟩ := hf 3 _ rfl
    have g3 : Rd enc W m 3 [c3] y3 := (congrArg (fun q => DataW.trod enc Tryd.prog W 0 (fun _ => true) true m 3 q) (show ([c0, c1, c2, c3].drop 3).take (Tryd.prog.cellsOf 3) = [c3] from by rw [show Tryd.prog.cellsOf 3 = 1 from by kernel_rfl]; rfl)).symm.trans g3
    obtain ⟨a3, e3, w3⟩ := open_int1 Tryd.underlying3 g3
    subst e0 e1 e2 e3
    exact ⟨a0, a1, a2, a3, rfl, w0, w1, w2, w3⟩

theorem open_command {n : Nat} {cs : List Value} {x : DataW H × List MemPlace} (h : Rd enc W n 31 cs x) (hs : Sm 31 x.1) :
    ∃ (a b c d e : Int) (f : Bool), cs = [.int .i64 a, .int .i64 b, .int .i64 c, .int .i64 d, .int .i64 e, .bool f] ∧ I64 a ∧ I64 b ∧ I64 c ∧ I64 d ∧ I64 e := by
  obtain ⟨m, hl, hf⟩ := open_fields Tryd.underlying31 h hs
  have hl : cs.length = 6 := hl
  match cs, hl with
  | [c0, c1, c2, c3, c4, c5], _ =>
    obtain ⟨y0, g0, s0⟩ := hf 0 _ rfl
    have g0 : Rd enc W m 3 [c0] y0 := (congrArg (fun q => DataW.trod enc Tryd.prog W 0 (fun _ => true) true m 3 q) (show ([c0, c1, c2, c3, c4, c5].drop 0).take (Tryd.prog.cellsOf 3) = [c0] from by rw [show Tryd.prog.cellsOf 3 = 1 from by kernel_rfl]; rfl)).symm.trans g0
    obtain ⟨a0, e0, w0⟩ := open_int1 Tryd.underlying3 g0
    obtain ⟨y1, g1, s1⟩ := hf 1 _ rfl
    have g1 : Rd enc W m 3 [c1] y1 := (congrArg (fun q => DataW.trod enc Tryd.prog W 0 (fun _ => true) true m 3 q) (show ([c0, c1, c2, c3, c4, c5].drop 1).take (Tryd.prog.cellsOf 3) = [c1] from by rw [show Tryd.prog.cellsOf 3 = 1 from by kernel_rfl]; rfl)).symm.trans g1
    obtain ⟨a1, e1, w1⟩ := open_int1 Tryd.underlying3 g1
    obtain ⟨y2, g2, s2⟩ := hf 2 _ rfl
    have g2 : Rd enc W m 3 [c2] y2 := (congrArg (fun q => DataW.trod enc Tryd.prog W 0 (fun _ => true) true m 3 q) (show ([c0, c1, c2, c3, c4, c5].drop 2).take (Tryd.prog.cellsOf 3) = [c2] from by rw [show Tryd.prog.cellsOf 3 = 1 from by kernel_rfl]; rfl)).symm.trans g2
    obtain ⟨a2, e2, w2⟩ := open_int1 Tryd.underlying3 g2
    obtain ⟨y3, g3, s3⟩ := hf 3 _ rfl
    have g3 : Rd enc W m 3 [c3] y3 := (congrArg (fun q => DataW.trod enc Tryd.prog W 0 (fun _ => true) true m 3 q) (show ([c0, c1, c2, c3, c4, c5].drop 3).take (Tryd.prog.cellsOf 3) = [c3] from by rw [show Tryd.prog.cellsOf 3 = 1 from by kernel_rfl]; rfl)).symm.trans g3
    obtain ⟨a3, e3, w3⟩ := open_int1 Tryd.underlying3 g3
    obtain ⟨y4, g4, s4⟩ := hf 4 _ rfl
    have g4 : Rd enc W m 3 [c4] y4 := (congrArg (fun q => DataW.trod enc Tryd.prog W 0 (fun _ => true) true m 3 q) (show ([c0, c1, c2, c3, c4, c5].drop 4).take (Tryd.prog.cellsOf 3) = [c4] from by rw [show Tryd.prog.cellsOf 3 = 1 from by kernel_rfl]; rfl)).symm.trans g4
    obtain ⟨a4, e4, w4⟩ := open_int1 Tryd.underlying3 g4
    obtain ⟨y5, g5, s5⟩ := hf 5 _ rfl
    have g5 : Rd enc W m 4 [c5] y5 := (congrArg (fun q => DataW.trod enc Tryd.prog W 0 (fun _ => true) true m 4 q) (show ([c0, c1, c2, c3, c4, c5].drop 5).take (Tryd.prog.cellsOf 4) = [c5] from by rw [show Tryd.prog.cellsOf 4 = 1 from by kernel_rfl]; rfl)).symm.trans g5
    obtain ⟨a5, e5⟩ := open_bool1 Tryd.underlying4 g5
    subst e0 e1 e2 e3 e4 e5
    exact ⟨a0, a1, a2, a3, a4, a5, rfl, w0, w1, w2, w3, w4⟩

theorem open_msg {n : Nat} {cs : List Value} {x : DataW H × List MemPlace} (h : Rd enc W n 35 cs x) (hs : Sm 35 x.1) :
    ∃ (m : MsgD) (s o i : Value), cs = m.cells s o i ∧ Lists (· < W.heap.size) W m s o i ∧ m.wf := by
  obtain ⟨m, hl, hf⟩ := open_fields Tryd.underlying35 h hs
  have hl : cs.length = 34 := hl
  rcases cs with _ | ⟨c0, cs⟩
  · simp at hl
  rcases cs with _ | ⟨c1, cs⟩
  · simp at hl
  rcases cs with _ | ⟨c2, cs⟩
  · simp at hl
  rcases cs with _ | ⟨c3, cs⟩
  · simp at hl
  rcases cs with _ | ⟨c4, cs⟩
  · simp at hl
  rcases cs with _ | ⟨c5, cs⟩
  · simp at hl
  rcases cs with _ | ⟨c6, cs⟩
  · simp at hl
  rcases cs with _ | ⟨c7, cs⟩
  · simp at hl
  rcases cs with _ | ⟨c8, cs⟩
  · simp at hl
  rcases cs with _ | ⟨c9, cs⟩
  · simp at hl
  rcases cs with _ | ⟨c10, cs⟩
  · simp at hl
  rcases cs with _ | ⟨c11, cs⟩
  · simp at hl
  rcases cs with _ | ⟨c12, cs⟩
  · simp at hl
  rcases cs with _ | ⟨c13, cs⟩
  · simp at hl
  rcases cs with _ | ⟨c14, cs⟩
  · simp at hl
  rcases cs with _ | ⟨c15, cs⟩
  · simp at hl
  rcases cs with _ | ⟨c16, cs⟩
  · simp at hl
  rcases cs with _ | ⟨c17, cs⟩
  · simp at hl
  rcases cs with _ | ⟨c18, cs⟩
  · simp at hl
  rcases cs with _ | ⟨c19, cs⟩
  · simp at hl
  rcases cs with _ | ⟨c20, cs⟩
  · simp at hl
  rcases cs with _ | ⟨c21, cs⟩
  · simp at hl
  rcases cs with _ | ⟨c22, cs⟩
  · simp at hl
  rcases cs with _ | ⟨c23, cs⟩
  · simp at hl
  rcases cs with _ | ⟨c24, cs⟩
  · simp at hl
  rcases cs with _ | ⟨c25, cs⟩
  · simp at hl
  rcases cs with _ | ⟨c26, cs⟩
  · simp at hl
  rcases cs with _ | ⟨c27, cs⟩
  · simp at hl
  rcases cs with _ | ⟨c28, cs⟩
  · simp at hl
  rcases cs with _ | ⟨c29, cs⟩
  · simp at hl
  rcases cs with _ | ⟨c30, cs⟩
  · simp at hl
  rcases cs with _ | ⟨c31, cs⟩
  · simp at hl
  rcases cs with _ | ⟨c32, cs⟩
  · simp at hl
  rcases cs with _ | ⟨c33, cs⟩
  · simp at hl
  obtain rfl : cs = [] := List.eq_nil_of_length_eq_zero (by simp only [List.length_cons] at hl; omega)
  · skip
    obtain ⟨y0, g0, s0⟩ := hf 0 _ rfl
    have g0 : Rd enc W m 3 [c0] y0 := (congrArg (fun q => DataW.trod enc Tryd.prog W 0 (fun _ => true) true m 3 q) (show ([c0, c1, c2, c3, c4, c5, c6, c7, c8, c9, c10, c11, c12, c13, c14, c15, c16, c17, c18, c19, c20, c21, c22, c23, c24, c25, c26, c27, c28, c29, c30, c31, c32, c33].drop 0).take (Tryd.prog.cellsOf 3) = [c0] from by rw [show Tryd.prog.cellsOf 3 = 1 from by kernel_rfl]; rfl)).symm.trans g0
    obtain ⟨a0, e0, w0⟩ := open_int1 Tryd.underlying3 g0
    obtain ⟨y1, g1, s1⟩ := hf 1 _ rfl
    have g1 : Rd enc W m 3 [c1] y1 := (congrArg (fun q => DataW.trod enc Tryd.prog W 0 (fun _ => true) true m 3 q) (show ([c0, c1, c2, c3, c4, c5, c6, c7, c8, c9, c10, c11, c12, c13, c14, c15, c16, c17, c18, c19, c20, c21, c22, c23, c24, c25, c26, c27, c28, c29, c30, c31, c32, c33].drop 1).take (Tryd.prog.cellsOf 3) = [c1] from by rw [show Tryd.prog.cellsOf 3 = 1 from by kernel_rfl]; rfl)).symm.trans g1
    obtain ⟨a1, e1, w1⟩ := open_int1 Tryd.underlying3 g1
    obtain ⟨y2, g2, s2⟩ := hf 2 _ rfl
    have g2 : Rd enc W m 3 [c2] y2 := (congrArg (fun q => DataW.trod enc Tryd.prog W 0 (fun _ => true) true m 3 q) (show ([c0, c1, c2, c3, c4, c5, c6, c7, c8, c9, c10, c11, c12, c13, c14, c15, c16, c17, c18, c19, c20, c21, c22, c23, c24, c25, c26, c27, c28, c29, c30, c31, c32, c33].drop 2).take (Tryd.prog.cellsOf 3) = [c2] from by rw [show Tryd.prog.cellsOf 3 = 1 from by kernel_rfl]; rfl)).symm.trans g2
    obtain ⟨a2, e2, w2⟩ := open_int1 Tryd.underlying3 g2
    obtain ⟨y3, g3, s3⟩ := hf 3 _ rfl
    have g3 : Rd enc W m 3 [c3] y3 := (congrArg (fun q => DataW.trod enc Tryd.prog W 0 (fun _ => true) true m 3 q) (show ([c0, c1, c2, c3, c4, c5, c6, c7, c8, c9, c10, c11, c12, c13, c14, c15, c16, c17, c18, c19, c20, c21, c22, c23, c24, c25, c26, c27, c28, c29, c30, c31, c32, c33].drop 3).take (Tryd.prog.cellsOf 3) = [c3] from by rw [show Tryd.prog.cellsOf 3 = 1 from by kernel_rfl]; rfl)).symm.trans g3
    obtain ⟨a3, e3, w3⟩ := open_int1 Tryd.underlying3 g3
    obtain ⟨y4, g4, s4⟩ := hf 4 _ rfl
    have g4 : Rd enc W m 3 [c4] y4 := (congrArg (fun q => DataW.trod enc Tryd.prog W 0 (fun _ => true) true m 3 q) (show ([c0, c1, c2, c3, c4, c5, c6, c7, c8, c9, c10, c11, c12, c13, c14, c15, c16, c17, c18, c19, c20, c21, c22, c23, c24, c25, c26, c27, c28, c29, c30, c31, c32, c33].drop 4).take (Tryd.prog.cellsOf 3) = [c4] from by rw [show Tryd.prog.cellsOf 3 = 1 from by kernel_rfl]; rfl)).symm.trans g4
    obtain ⟨a4, e4, w4⟩ := open_int1 Tryd.underlying3 g4
    obtain ⟨y5, g5, s5⟩ := hf 5 _ rfl
    have g5 : Rd enc W m 3 [c5] y5 := (congrArg (fun q => DataW.trod enc Tryd.prog W 0 (fun _ => true) true m 3 q) (show ([c0, c1, c2, c3, c4, c5, c6, c7, c8, c9, c10, c11, c12, c13, c14, c15, c16, c17, c18, c19, c20, c21, c22, c23, c24, c25, c26, c27, c28, c29, c30, c31, c32, c33].drop 5).take (Tryd.prog.cellsOf 3) = [c5] from by rw [show Tryd.prog.cellsOf 3 = 1 from by kernel_rfl]; rfl)).symm.trans g5
    obtain ⟨a5, e5, w5⟩ := open_int1 Tryd.underlying3 g5
    obtain ⟨y6, g6, s6⟩ := hf 6 _ rfl
    have g6 : Rd enc W m 3 [c6] y6 := (congrArg (fun q => DataW.trod enc Tryd.prog W 0 (fun _ => true) true m 3 q) (show ([c0, c1, c2, c3, c4, c5, c6, c7, c8, c9, c10, c11, c12, c13, c14, c15, c16, c17, c18, c19, c20, c21, c22, c23, c24, c25, c26, c27, c28, c29, c30, c31, c32, c33].drop 6).take (Tryd.prog.cellsOf 3) = [c6] from by rw [show Tryd.prog.cellsOf 3 = 1 from by kernel_rfl]; rfl)).symm.trans g6
    obtain ⟨a6, e6, w6⟩ := open_int1 Tryd.underlying3 g6
    obtain ⟨y7, g7, s7⟩ := hf 7 _ rfl
    have g7 : Rd enc W m 3 [c7] y7 := (congrArg (fun q => DataW.trod enc Tryd.prog W 0 (fun _ => true) true m 3 q) (show ([c0, c1, c2, c3, c4, c5, c6, c7, c8, c9, c10, c11, c12, c13, c14, c15, c16, c17, c18, c19, c20, c21, c22, c23, c24, c25, c26, c27, c28, c29, c30, c31, c32, c33].drop 7).take (Tryd.prog.cellsOf 3) = [c7] from by rw [show Tryd.prog.cellsOf 3 = 1 from by kernel_rfl]; rfl)).symm.trans g7
    obtain ⟨a7, e7, w7⟩ := open_int1 Tryd.underlying3 g7
    obtain ⟨y8, g8, s8⟩ := hf 8 _ rfl
    have g8 : Rd enc W m 3 [c8] y8 := (congrArg (fun q => DataW.trod enc Tryd.prog W 0 (fun _ => true) true m 3 q) (show ([c0, c1, c2, c3, c4, c5, c6, c7, c8, c9, c10, c11, c12, c13, c14, c15, c16, c17, c18, c19, c20, c21, c22, c23, c24, c25, c26, c27, c28, c29, c30, c31, c32, c33].drop 8).take (Tryd.prog.cellsOf 3) = [c8] from by rw [show Tryd.prog.cellsOf 3 = 1 from by kernel_rfl]; rfl)).symm.trans g8
    obtain ⟨a8, e8, w8⟩ := open_int1 Tryd.underlying3 g8
    obtain ⟨y9, g9, s9⟩ := hf 9 _ rfl
    have g9 : Rd enc W m 4 [c9] y9 := (congrArg (fun q => DataW.trod enc Tryd.prog W 0 (fun _ => true) true m 4 q) (show ([c0, c1, c2, c3, c4, c5, c6, c7, c8, c9, c10, c11, c12, c13, c14, c15, c16, c17, c18, c19, c20, c21, c22, c23, c24, c25, c26, c27, c28, c29, c30, c31, c32, c33].drop 9).take (Tryd.prog.cellsOf 4) = [c9] from by rw [show Tryd.prog.cellsOf 4 = 1 from by kernel_rfl]; rfl)).symm.trans g9
    obtain ⟨a9, e9⟩ := open_bool1 Tryd.underlying4 g9
    obtain ⟨y10, g10, s10⟩ := hf 10 _ rfl
    have g10 : Rd enc W m 4 [c10] y10 := (congrArg (fun q => DataW.trod enc Tryd.prog W 0 (fun _ => true) true m 4 q) (show ([c0, c1, c2, c3, c4, c5, c6, c7, c8, c9, c10, c11, c12, c13, c14, c15, c16, c17, c18, c19, c20, c21, c22, c23, c24, c25, c26, c27, c28, c29, c30, c31, c32, c33].drop 10).take (Tryd.prog.cellsOf 4) = [c10] from by rw [show Tryd.prog.cellsOf 4 = 1 from by kernel_rfl]; rfl)).symm.trans g10
    obtain ⟨a10, e10⟩ := open_bool1 Tryd.underlying4 g10
    obtain ⟨y11, g11, s11⟩ := hf 11 _ rfl
    have g11 : Rd enc W m 4 [c11] y11 := (congrArg (fun q => DataW.trod enc Tryd.prog W 0 (fun _ => true) true m 4 q) (show ([c0, c1, c2, c3, c4, c5, c6, c7, c8, c9, c10, c11, c12, c13, c14, c15, c16, c17, c18, c19, c20, c21, c22, c23, c24, c25, c26, c27, c28, c29, c30, c31, c32, c33].drop 11).take (Tryd.prog.cellsOf 4) = [c11] from by rw [show Tryd.prog.cellsOf 4 = 1 from by kernel_rfl]; rfl)).symm.trans g11
    obtain ⟨a11, e11⟩ := open_bool1 Tryd.underlying4 g11
    obtain ⟨y12, g12, s12⟩ := hf 12 _ rfl
    have g12 : Rd enc W m 26 [c12, c13, c14, c15, c16, c17, c18, c19, c20, c21] y12 := (congrArg (fun q => DataW.trod enc Tryd.prog W 0 (fun _ => true) true m 26 q) (show ([c0, c1, c2, c3, c4, c5, c6, c7, c8, c9, c10, c11, c12, c13, c14, c15, c16, c17, c18, c19, c20, c21, c22, c23, c24, c25, c26, c27, c28, c29, c30, c31, c32, c33].drop 12).take (Tryd.prog.cellsOf 26) = [c12, c13, c14, c15, c16, c17, c18, c19, c20, c21] from by rw [show Tryd.prog.cellsOf 26 = 10 from by kernel_rfl]; rfl)).symm.trans g12
    obtain ⟨⟨op, s⟩, f12, st, wop⟩ := open_op g12 s12
    obtain ⟨y13, g13, s13⟩ := hf 13 _ rfl
    have g13 : Rd enc W m 29 [c22, c23, c24, c25] y13 := (congrArg (fun q => DataW.trod enc Tryd.prog W 0 (fun _ => true) true m 29 q) (show ([c0, c1, c2, c3, c4, c5, c6, c7, c8, c9, c10, c11, c12, c13, c14, c15, c16, c17, c18, c19, c20, c21, c22, c23, c24, c25, c26, c27, c28, c29, c30, c31, c32, c33].drop 22).take (Tryd.prog.cellsOf 29) = [c22, c23, c24, c25] from by rw [show Tryd.prog.cellsOf 29 = 4 from by kernel_rfl]; rfl)).symm.trans g13
    obtain ⟨r0, r1, r2, r3, f13, v0, v1, v2, v3⟩ := open_reply g13 s13
    obtain ⟨y14, g14, s14⟩ := hf 14 _ rfl
    have g14 : Rd enc W m 31 [c26, c27, c28, c29, c30, c31] y14 := (congrArg (fun q => DataW.trod enc Tryd.prog W 0 (fun _ => true) true m 31 q) (show ([c0, c1, c2, c3, c4, c5, c6, c7, c8, c9, c10, c11, c12, c13, c14, c15, c16, c17, c18, c19, c20, c21, c22, c23, c24, c25, c26, c27, c28, c29, c30, c31, c32, c33].drop 26).take (Tryd.prog.cellsOf 31) = [c26, c27, c28, c29, c30, c31] from by rw [show Tryd.prog.cellsOf 31 = 6 from by kernel_rfl]; rfl)).symm.trans g14
    obtain ⟨k0, k1, k2, k3, k4, k5, f14, u0, u1, u2, u3, u4⟩ := open_command g14 s14
    obtain ⟨y15, g15, s15⟩ := hf 15 _ rfl
    have g15 : Rd enc W m 32 [c32] y15 := (congrArg (fun q => DataW.trod enc Tryd.prog W 0 (fun _ => true) true m 32 q) (show ([c0, c1, c2, c3, c4, c5, c6, c7, c8, c9, c10, c11, c12, c13, c14, c15, c16, c17, c18, c19, c20, c21, c22, c23, c24, c25, c26, c27, c28, c29, c30, c31, c32, c33].drop 32).take (Tryd.prog.cellsOf 32) = [c32] from by rw [show Tryd.prog.cellsOf 32 = 1 from by kernel_rfl]; rfl)).symm.trans g15
    obtain ⟨ops, hops, wops⟩ := open_ops g15 s15
    obtain ⟨y16, g16, s16⟩ := hf 16 _ rfl
    have g16 : Rd enc W m 33 [c33] y16 := (congrArg (fun q => DataW.trod enc Tryd.prog W 0 (fun _ => true) true m 33 q) (show ([c0, c1, c2, c3, c4, c5, c6, c7, c8, c9, c10, c11, c12, c13, c14, c15, c16, c17, c18, c19, c20, c21, c22, c23, c24, c25, c26, c27, c28, c29, c30, c31, c32, c33].drop 33).take (Tryd.prog.cellsOf 33) = [c33] from by rw [show Tryd.prog.cellsOf 33 = 1 from by kernel_rfl]; rfl)).symm.trans g16
    obtain ⟨incs, hincs, wincs⟩ := open_incs g16 s16
    subst e0 e1 e2 e3 e4 e5 e6 e7 e8 e9 e10 e11
    unfold OpD.cells at f12
    simp only [List.cons.injEq, and_true] at f12 f13 f14
    obtain ⟨rfl, rfl, rfl, rfl, rfl, rfl, rfl, rfl, rfl, rfl⟩ := f12
    obtain ⟨rfl, rfl, rfl, rfl⟩ := f13
    obtain ⟨rfl, rfl, rfl, rfl, rfl, rfl⟩ := f14
    exact ⟨⟨a0, a1, a2, a3, a4, a5, a6, a7, a8, a9, a10, a11, op, r0, r1, r2, r3, k0, k1, k2, k3, k4, k5, ops, incs⟩, _, c32, c33, rfl, ⟨st, hops, hincs⟩, w0, w1, w2, w3, w4, w5, w6, w7, w8, wop, v0, v1, v2, v3, u0, u1, u2, u3, u4, wops, wincs⟩

end
end Go.Proofs.YtehiaeihkdfclaaDoor
/- From what a row says of operations and messages that came in to what the walks are told of them. -/
namespace Go.Proofs.YtehiaeihkdfclaaDoor
open Go.RowKit
section
variable {H : Type} {enc : TypeId × Value → H} {W : World}
/-- Arguments: a struct by value, a slice. -/
theorem sm_of {ts : List TypeId} {ds : List (DataW H)} (hsz : (DataW.weightsEach Tryd.prog ts ds).all (· ≤ reachBytes) = true) {j : Nat} {t : TypeId} {d : DataW H} (ht : ts[j]? = some t) (hd : ds[j]? = some d) : Sm t d := fun n hn => by
  have := List.all_eq_true.1 hsz n (DataW.weights_mem_each ht hd n hn)
  simpa using this
theorem arg_msg {cs : Array Value} {d : DataW H} {p : List MemPlace} (h : DataW.Trod enc Tryd.prog W 0 (fun _ => true) true 35 (.agg cs) d p) (hs : Sm 35 d) : ∃ (m : MsgD) (s o i : Value), cs = (m.cells s o i).toArray ∧ Lists (· < W.heap.size) W m s o i ∧ m.wf := by
  obtain ⟨fuel, hf⟩ := h
  obtain ⟨m, s, o, i, e, hl, wf⟩ := open_msg (n := fuel) (x := (d, p)) hf hs
  refine ⟨m, s, o, i, ?_, hl, wf⟩
  have e2 : cs.toList = m.cells s o i := e
  rw [← e2]
theorem arg_op {cs : Array Value} {d : DataW H} {p : List MemPlace} (h : DataW.Trod enc Tryd.prog W 0 (fun _ => true) true 26 (.agg cs) d p) (hs : Sm 26 d) : ∃ (x : OpD) (s : Value), cs = (x.cells s).toArray ∧ StepsAt (· < W.heap.size) W s x.steps ∧ x.wf := by
  obtain ⟨fuel, hf⟩ := h
  obtain ⟨q, e, hl, wf⟩ := open_op (n := fuel) (x := (d, p)) hf hs
  refine ⟨q.1, q.2, ?_, hl, wf⟩
  have e2 : cs.toList = q.1.cells q.2 := e
  rw [← e2]
end
end Go.Proofs.YtehiaeihkdfclaaDoor
/- From what a row says of a slice of bytes that came in to what the walks are told of it. -/
namespace Go.Proofs.YtehiaeihkdfclaaDoor
open Go.RowKit

theorem holds_of_row {w : World} {x : Addr} {len cap : Nat} {zs : List Int} (hl : len ≤ cap) (hz : zs.length = cap)
    (hcell : ∀ i, i < zs.length → w.cell? (x.add i) = some (.int .u8 (zs.getD i 0))) (hwz : ∀ n ∈ zs, (Lit.int .u8 n).wf = true) :
    ∃ l, Holds w w.heap.size (some x) len l := by
  have hb : ∀ n ∈ zs, 0 ≤ n ∧ n < 256 := fun n hn => by
    have := bounds_u8 (hwz n hn)
    omega
  refine ⟨(zs.take len).map Int.toNat, by simp; omega, ?_, fun h0 => ?_⟩
  · intro y hy
    obtain ⟨z, hz', rfl⟩ := List.mem_map.1 hy
    have := hb z (List.mem_of_mem_take hz')
    omega
  · obtain ⟨b, off, spot⟩ := x
    have h1 := hcell 0 (by omega)
    have hspot : spot = none := by simpa [Addr.add] using World.cell?_spot h1
    subst hspot
    refine ⟨b, off, rfl, ?_, fun i hi => ?_⟩
    · exact World.block_lt_of_cell? w _ (by simpa [Addr.add] using h1)
    · have h2 := hcell i (by omega)
      rw [Addr.add_lit] at h2
      rw [h2]
      have hiz : i < zs.length := by omega
      have h3 := hb zs[i] (List.getElem_mem hiz)
      have h4 : (((zs.take len).map Int.toNat).getD i 0 : Nat) = zs[i].toNat := by
        simp [List.getD, hi, hiz]
      have h5 : zs.getD i 0 = zs[i] := by simp [List.getD, hiz]
      rw [h4, h5]
      congr 2
      omega

/-- An argument that is a slice of bytes. -/
theorem bytes_of_arg {H : Type} {enc : TypeId × Value → H} {W : World} {a : Option Addr} {len cap : Nat} {d : DataW H} {p : List MemPlace}
    (h : DataW.Trod enc Tryd.prog W 0 (fun _ => true) true 36 (.slice a len cap) d p) : ∃ l, Holds W W.heap.size a len l ∧ len ≤ maxLen := by
  obtain ⟨fuel, hf⟩ := h
  rcases ChangeShapes.open_ints Tryd.underlying36 Tryd.underlying5 (by kernel_rfl) hf with ⟨hcs, _⟩ | ⟨x, l, c, zs, hcs, _, hl, hm, hz, _, hcell, hwz⟩
  · simp [Value.cells] at hcs
    obtain ⟨rfl, rfl, rfl⟩ := hcs
    exact ⟨[], Holds.nil_ _ _, by simp [maxLen]⟩
  · simp [Value.cells] at hcs
    obtain ⟨rfl, rfl, rfl⟩ := hcs
    obtain ⟨l', h'⟩ := holds_of_row hl (by simpa using hz) hcell hwz
    exact ⟨l', h', by omega⟩

theorem cap_of_arg {H : Type} {enc : TypeId × Value → H} {W : World} {t e : TypeId} {a : Option Addr} {len cap : Nat} {d : DataW H} {p : List MemPlace} (ht : Tryd.prog.underlying t = some (.slice e))
    (h : DataW.Trod enc Tryd.prog W 0 (fun _ => true) true t (.slice a len cap) d p) : len ≤ cap ∧ cap ≤ maxLen := by
  obtain ⟨fuel, hf⟩ := h
  rcases Go.Deep.open_slice ht hf with ⟨hcs, _⟩ | ⟨_, l, c, _, _, _, _, hcs, _, hl, hm, _⟩
  · simp [Value.cells] at hcs
    obtain ⟨rfl, rfl, rfl⟩ := hcs
    simp [maxLen]
  · simp [Value.cells] at hcs
    obtain ⟨rfl, rfl, rfl⟩ := hcs
    exact ⟨hl, hm⟩

/-- The form's own reach: no slice that came in takes more than 2^47 bytes. -/
theorem reach_of_arg {H : Type} {enc : TypeId × Value → H} {W : World} {ts : List TypeId} {ds : List (DataW H)} {j : Nat} {t e : TypeId} {a : Option Addr} {len cap : Nat} {d : DataW H} {p : List MemPlace}
    (hsz : (DataW.weightsEach Tryd.prog ts ds).all (· ≤ reachBytes) = true) (ht : Tryd.prog.underlying t = some (.slice e)) (hb : 1 ≤ Tryd.prog.bytesOf e)
    (h : DataW.Trod enc Tryd.prog W 0 (fun _ => true) true t (.slice a len cap) d p) (hts : ts[j]? = some t) (hds : ds[j]? = some d) : len ≤ 140737488355328 := by
  obtain ⟨fuel, hf⟩ := h
  rcases Go.Deep.open_slice ht hf with ⟨hcs, _⟩ | ⟨_, l, c, m, _, D, Pl, hcs, _, hl, hm, hmm, hx, _⟩
  · simp [Value.cells] at hcs
    obtain ⟨rfl, rfl, rfl⟩ := hcs
    omega
  · simp [Value.cells] at hcs
    obtain ⟨rfl, rfl, rfl⟩ := hcs
    have hd := (Prod.mk.inj hx).1
    rw [hd] at hds
    have h1 := sized_slice hsz hts hds ht
    simp only [List.length_map, List.length_range] at h1
    have h2 : (len + (m - len)) * 1 ≤ (len + (m - len)) * Tryd.prog.bytesOf e := Nat.mul_le_mul_left _ hb
    have h3 := reachBytes_lt
    omega
end Go.Proofs.YtehiaeihkdfclaaDoor
/- From the row's condition to the table's sixteen cells; the start in which the table lies. -/
namespace Go.Proofs.YtehiaeihkdfclaaDoor
open Go.RowKit

def halvesLaid : List (String × DataW Unit) := [("drover/envelope.halves", Rows.laid_drover_envelope_halves)]
theorem tab_start (os : Os) (args : Array Value) : laidMetH Tryd.prog halvesLaid ((World.doorLaid Tryd.prog 400 os).forCall (fun _ _ => 0) ⟨#[], args, []⟩).memory :=
  laidMetH_of_parts3 (fuel := 8) (laidMet_of_run' 8 (by kernel_rfl) (by kernel_rfl)) (by kernel_rfl) (by kernel_rfl)
theorem tab_of_laid {W : World} (h : laidMetH Tryd.prog halvesLaid W) : Tab W := by
  rw [MakeChecks.laidMetH_plain _ _ _ (by kernel_rfl)] at h
  have hN : Tryd.prog.globalNamed "drover/envelope.halves" = some 0 := by kernel_rfl
  have hT : (Tryd.prog.globals[0]?).map (·.type) = some 131 := by kernel_rfl
  have hI : Lib.TabIs Tryd.prog W "drover/envelope.halves" .u32 (tab.map fun x : Nat => (x : Int)) :=
    Lib.tabIs_of_head (rest := []) hN hT Tryd.underlying131 Tryd.underlying77 (by kernel_rfl) (by kernel_rfl) h
  have hc : ∀ i, i < 16 → W.cell? ⟨0, i, none⟩ = some (.int .u32 ((tab.getD i 0 : Nat) : Int)) := fun i hi => by
    have := hI.cell hN i (by simpa [tab] using hi)
    rw [this]
    have hl : i < tab.length := by simpa [tab] using hi
    simp [List.getD, hl]
  refine ⟨?_, hc⟩
  rcases Nat.eq_zero_or_pos W.heap.size with h0 | h0
  · have h1 := hc 0 (by omega)
    have h2 : W.heap[0]? = none := Array.getElem?_eq_none (by omega)
    simp [World.cell?, h2] at h1
  · exact h0
end Go.Proofs.YtehiaeihkdfclaaDoor
namespace Go.Proofs.YtehiaeihkdfclaaDoor
open Go.ChangeShapes Go.WideShapes Go.ChangeAt Go.RowKit

theorem noteOps_lawKnobs : ownKnob Tryd.prog.godebug = none := by kernel_rfl
theorem noteOps_allLaid : laidOutB Tryd.prog = true := by kernel_rfl

set_option maxRecDepth 100000 in
set_option maxHeartbeats 1000000 in
theorem noteOps_lifted (os : Os) (started : os.Started) (H : Type) (enc : TypeId × Value → H) :
    ReturnsInHanded {} Tryd.checked os 5 .any (fun w args => (Rows.noteOpsSpec.pre enc Tryd.prog Tryd.f5 Rows.noteOpsRow.domain false w args ∧ laidMetH Tryd.prog Rows.noteOpsRow.laid w) ∧ sizedMet enc Tryd.prog Tryd.f5 (OpenSpec.ofChange Rows.noteOpsSpec) false w args)
      (Rows.noteOpsSpec.post enc Tryd.prog Tryd.f5 false true false false) := by
  refine returnsInHanded_of_change_and (C := Tryd.checked) (X := fun w _ => laidMetH Tryd.prog Rows.noteOpsRow.laid w) (fun _ _ _ hh h => h.of_heap hh) noteOps_lawKnobs started (by kernel_rfl) Tryd.func5
    (ChangeSpec.witness_shaped (enc := enc) (C := Tryd.checked) (os := os) (X := fun w _ => laidMetH Tryd.prog Rows.noteOpsRow.laid w) false (World.doorLaid Tryd.prog 400 os) #[.agg #[.int .i64 0, .int .i64 0, .int .i64 0, .string ⟨#[]⟩, .slice none 0 0, .int .i64 0, .int .i64 0, .int .i64 0, .bool false, .bool false]] 8 rfl (World.shaped_of_RefB (by kernel_rfl) (by kernel_rfl)) (by kernel_rfl) (by kernel_rfl) (by kernel_rfl) (tab_start os _)) ?_
  intro W base args ds gs before hval0 hW hcnd hsz0 hL _
  have hTab := tab_of_laid hL
  have hval : ∀ (j : Nat) t v, Tryd.f5.params[j]? = some t → args[j]? = some v → Value.okWide Tryd.prog W .any base t v := hval0
  have hW' := hW
  obtain ⟨p, q, hA0, hV, rfl, _, _⟩ := hW
  have hA : DataW.TrodAll enc Tryd.prog W 0 (fun _ => true) true Tryd.f5.params.toList args.toList ds p := hA0
  have hsz : (DataW.weightsEach Tryd.prog (Tryd.f5.params.toList ++ Rows.noteOpsSpec.plain.varTypes Tryd.prog) (ds ++ gs)).all (· ≤ reachBytes) = true := hsz0
  rw [Tryd.params5] at hA hval hsz
  obtain ⟨v0, vs0, d0, ds0, p0, q0, hargs, rfl, rfl, h0, r0⟩ := trodAll_cons hA
  obtain ⟨rfl, rfl, rfl⟩ := trodAll_nil r0
  obtain rfl : args = #[v0] := by cases args; simp_all
  obtain ⟨rfl, rfl⟩ := trodVars_none hV
  have k0 := h0
  have lt0 : ∀ x ∈ p0, x.block < W.heap.size := by obtain ⟨m, hm⟩ := k0; exact DataW.trod_lt m _ _ _ hm
  have s0 : Sm 26 d0 := sm_of hsz (j := 0) rfl rfl
  obtain ⟨cs0, rfl, _⟩ := okWide_struct Tryd.underlying26 (hval 0 26 v0 rfl rfl)
  obtain ⟨x0, sv0, rfl, hs0, wf0⟩ := arg_op h0 s0
  clear hA0 hval0 hL
  refine (law_ops x0 sv0 W hs0 wf0 hTab).mono fun e W' ⟨he, bel0⟩ => ?_
  have bel : Below W.heap.size W W' := bel0
  subst he
  exact ⟨_, rfl, _, _, _, [], _, [], hW', trodAll_mk1 (shut_bool Tryd.underlying4 _), (trodAll_cons_mk (Below.trod noteOps_allLaid (by kernel_rfl) (of_decide_eq_true (by kernel_rfl)) k0 bel lt0) trodAll_mk0), rfl, bel.frame _, fun h => by cases h⟩

theorem noteOps_over : Rows.noteOpsRow.holds Tryd.pinned (OpenSpec.ofChange Rows.noteOpsSpec) :=
  OpenClaim.holds_of_wide 5 Tryd.f5 rfl rfl rfl rfl rfl rfl rfl ⟨rfl, rfl, rfl, rfl, rfl⟩ rfl rfl rfl rfl rfl (by kernel_rfl) Tryd.func5 (by kernel_rfl)
    (of_decide_eq_true (by kernel_rfl)) (by unfold Func.isWrapper; first | (rw [if_pos (by decide +kernel)]; kernel_rfl) | (rw [if_neg (by decide +kernel)]; exact ⟨rfl, rfl⟩))
    (fun os started H enc _ => noteOps_lifted os started H enc)

theorem noteOps_card : Rows.NoteOpsCardSaid :=
  Claim7.holds_tied_plain_at .later [] _ true _ false noteOps_over (fun _ h => by cases h) (by kernel_rfl) (fun _ h => by cases h) noteOps_row_tie rfl ⟨rfl, rfl⟩ (by kernel_rfl) rfl
    (fun f fn hf hfn => by
      obtain rfl : f = 5 := Option.some.inj ((show Tryd.prog.funcNamed "drover/droverlaw09.NoteOps" = some 5 by kernel_rfl).symm.trans hf) |>.symm
      obtain rfl : fn = Tryd.f5 := (Option.some.inj (Tryd.func5.symm.trans hfn)).symm
      exact ⟨by kernel_rfl, fun j t ht => by
        rw [Tryd.params5] at ht
        have hm : t ∈ [26] := by simpa using Array.mem_of_getElem? ht
        have hall : ([26].all fun u => !Tryd.prog.wantsStandIn u) = true := by kernel_rfl
        exact (show Tryd.prog.wantsStandIn t = false by simpa using List.all_eq_true.1 hall t hm)⟩)
    (by kernel_rfl)
#print axioms noteOps_card
end Go.Proofs.YtehiaeihkdfclaaDoor
