/- The document's SameOp. -/
import Derived.Test.YtaimnhlpdkpobaaSameDef
namespace Go.Proofs.Ytaimnhlpdkpobaa
open Go.RowKit

theorem op_iff (x y : OpD) : x = y ↔ x.kind = y.kind ∧ x.client = y.client ∧ x.request = y.request ∧ (x.name = y.name ∧ x.steps = y.steps) ∧ x.saga = y.saga ∧ x.step = y.step ∧ x.try_ = y.try_ ∧ x.back = y.back ∧ x.good = y.good := by
  cases x
  cases y
  simp [and_assoc]

set_option maxHeartbeats 1000000 in
set_option maxRecDepth 100000 in
theorem same_op (F G : Nat → Prop) (v v2 : Value) (x y : OpD) (w : World) (hl : StepsAt F w v x.steps) (hm : StepsAt G w v2 y.steps) :
    Calls Try.prog 37 #[.agg (x.cells v).toArray, .agg (y.cells v2).toArray] w fun e w' => e = .returned (.bool (decide (x = y))) ∧ Below w.heap.size w w' := by
  obtain ⟨q0, h0⟩ : ∃ q, (x.kind == y.kind) = q := ⟨_, rfl⟩
  obtain ⟨q1, h1⟩ : ∃ q, (x.client == y.client) = q := ⟨_, rfl⟩
  obtain ⟨q2, h2⟩ : ∃ q, (x.request == y.request) = q := ⟨_, rfl⟩
  obtain ⟨q3, h3⟩ : ∃ q, decide (x.name = y.name ∧ x.steps = y.steps) = q := ⟨_, rfl⟩
  obtain ⟨q4, h4⟩ : ∃ q, (x.saga == y.saga) = q := ⟨_, rfl⟩
  obtain ⟨q5, h5⟩ : ∃ q, (x.step == y.step) = q := ⟨_, rfl⟩
  obtain ⟨q6, h6⟩ : ∃ q, (x.try_ == y.try_) = q := ⟨_, rfl⟩
  obtain ⟨q7, h7⟩ : ∃ q, (x.back == y.back) = q := ⟨_, rfl⟩
  obtain ⟨q8, h8⟩ : ∃ q, (x.good == y.good) = q := ⟨_, rfl⟩
  have HALL : Hid (decide (x = y) = (q0 && (q1 && (q2 && (q3 && (q4 && (q5 && (q6 && (q7 && q8))))))))) := by
    show _ = _
    rw [← h0, ← h1, ← h2, ← h3, ← h4, ← h5, ← h6, ← h7, ← h8, Bool.eq_iff_iff, decide_eq_true_eq, op_iff]
    simp
  have C := hide (fun w' (hb : Below w.heap.size w w') => same_def F G x.name y.name v v2 x.steps y.steps w' (hl.kept (Kept.of_below hb F)) (hm.kept (Kept.of_below hb G)))
  rw [h3] at C
  clear h3
  have H1 := FlatAt.oneCell hl
  have H2 := FlatAt.oneCell hm
  clear hl hm
  unfold OpD.cells
  have hbw : Below w.heap.size w ((w.alloc (.cells (x.cells v).toArray 33 (0, 0))).alloc (.cells (y.cells v2).toArray 33 (0, 0))) := ((Below.refl _ _).alloc (Nat.le_refl _) _).alloc (by simp) _
  have HBW := hide hbw
  have B1 : Hid (∀ w' : World, Below (w.heap.size + 2) ((w.alloc (.cells (x.cells v).toArray 33 (0, 0))).alloc (.cells (y.cells v2).toArray 33 (0, 0))) w' → w'.heap[w.heap.size]? = some (.cells (x.cells v).toArray 33 (0, 0)) ∧ w'.heap[w.heap.size + 1]? = some (.cells (y.cells v2).toArray 33 (0, 0))) := fun w' hb =>
    ⟨(hb.block _ (by omega)).trans ((Below.block ((Below.refl _ _).alloc (Nat.le_refl _) _) w.heap.size (by simp)).trans (heap_alloc_new w _)), (hb.block _ (by omega)).trans (heap_alloc2_new w _ _)⟩
  clear hbw
  unfold OpD.cells at HBW B1
  go_enter Try.func37, Try.ntmps37
  go_wp2_with (fail)
  all_goals (try (go_ret; exact ⟨ret_bool (by rw [HALL.out]; simp [*]), HBW.out⟩))
  refine (C.out _ HBW.out).mono ?_
  rintro e w1 ⟨rfl, hb1⟩
  have HB1 := hide (HBW.out.trans (hb1.mono HBW.out.size))
  obtain ⟨hx, hy⟩ := B1.out w1 (hb1.mono (by simp))
  obtain ⟨x0, x1, x2, x3, x4, x5, x6, x7, x8, x9⟩ := box10 hx
  obtain ⟨y0, y1, y2, y3, y4, y5, y6, y7, y8, y9⟩ := box10 hy
  clear hb1 hx hy x0 x1 x2 x3 x4 y0 y1 y2 y3 y4
  go_wp2_with (fail)
  all_goals (try (go_ret; exact ⟨ret_bool (by rw [HALL.out]; simp [*]), HB1.out⟩))
end Go.Proofs.Ytaimnhlpdkpobaa
