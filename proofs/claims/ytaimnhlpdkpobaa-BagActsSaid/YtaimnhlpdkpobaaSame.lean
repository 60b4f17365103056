/- The document's Same. -/
import Derived.Test.YtaimnhlpdkpobaaSameIncs
import Derived.Test.YtaimnhlpdkpobaaEqR
namespace Go.Proofs.Ytaimnhlpdkpobaa
open Go.RowKit

theorem msg_iff (x y : MsgD) : x = y ↔ (x.kind = y.kind ∧ x.src = y.src ∧ x.dst = y.dst ∧ x.view = y.view ∧ x.last = y.last ∧ x.num = y.num ∧ x.commit = y.commit ∧ x.nonce = y.nonce ∧ x.request = y.request) ∧ x.lead = y.lead ∧ x.good = y.good ∧ x.fenced = y.fenced ∧ x.op = y.op ∧
    (x.rerr = y.rerr ∧ x.rsaga = y.rsaga ∧ x.rstate = y.rstate ∧ x.rstep = y.rstep) ∧ (x.cview = y.cview ∧ x.cstub = y.cstub ∧ x.csaga = y.csaga ∧ x.cstep = y.cstep ∧ x.ctry = y.ctry ∧ x.cback = y.cback) ∧ x.ops = y.ops ∧ x.incs = y.incs := by
  cases x
  cases y
  simp [and_assoc]

set_option maxHeartbeats 4000000 in
set_option maxRecDepth 100000 in
theorem same_any (F G : Nat → Prop) (s o i s2 o2 i2 : Value) (x y : MsgD) (w : World) (hl : Lists F w x s o i) (hm : Lists G w y s2 o2 i2) :
    Calls Try.prog 17 #[.agg (x.cells s o i).toArray, .agg (y.cells s2 o2 i2).toArray] w fun e w' => e = .returned (.bool (decide (x = y))) ∧ Below w.heap.size w w' := by
  obtain ⟨q0, h0⟩ : ∃ q, (x.kind != y.kind) = q := ⟨_, rfl⟩
  obtain ⟨q1, h1⟩ : ∃ q, (x.src != y.src) = q := ⟨_, rfl⟩
  obtain ⟨q2, h2⟩ : ∃ q, (x.dst != y.dst) = q := ⟨_, rfl⟩
  obtain ⟨q3, h3⟩ : ∃ q, (x.view != y.view) = q := ⟨_, rfl⟩
  obtain ⟨q4, h4⟩ : ∃ q, (x.last != y.last) = q := ⟨_, rfl⟩
  obtain ⟨q5, h5⟩ : ∃ q, (x.num != y.num) = q := ⟨_, rfl⟩
  obtain ⟨q6, h6⟩ : ∃ q, (x.commit != y.commit) = q := ⟨_, rfl⟩
  obtain ⟨q7, h7⟩ : ∃ q, (x.nonce != y.nonce) = q := ⟨_, rfl⟩
  obtain ⟨q8, h8⟩ : ∃ q, (x.request != y.request) = q := ⟨_, rfl⟩
  obtain ⟨q9, h9⟩ : ∃ q, (x.lead == y.lead) = q := ⟨_, rfl⟩
  obtain ⟨q10, h10⟩ : ∃ q, (x.good == y.good) = q := ⟨_, rfl⟩
  obtain ⟨q11, h11⟩ : ∃ q, (x.fenced == y.fenced) = q := ⟨_, rfl⟩
  obtain ⟨q12, h12⟩ : ∃ q, decide (x.op = y.op) = q := ⟨_, rfl⟩
  obtain ⟨q13, h13⟩ : ∃ q, decide (x.rerr = y.rerr ∧ x.rsaga = y.rsaga ∧ x.rstate = y.rstate ∧ x.rstep = y.rstep) = q := ⟨_, rfl⟩
  obtain ⟨q14, h14⟩ : ∃ q, decide (x.cview = y.cview ∧ x.cstub = y.cstub ∧ x.csaga = y.csaga ∧ x.cstep = y.cstep ∧ x.ctry = y.ctry ∧ x.cback = y.cback) = q := ⟨_, rfl⟩
  obtain ⟨q15, h15⟩ : ∃ q, decide (x.ops = y.ops) = q := ⟨_, rfl⟩
  obtain ⟨q16, h16⟩ : ∃ q, decide (x.incs = y.incs) = q := ⟨_, rfl⟩
  have HALL : Hid (decide (x = y) = ((!q0 && (!q1 && (!q2 && (!q3 && (!q4 && (!q5 && (!q6 && (!q7 && (!q8))))))))) && (q9 && (q10 && (q11 && (q12 && (q13 && (q14 && (q15 && (q16)))))))))) := by
    show _ = _
    rw [← h0, ← h1, ← h2, ← h3, ← h4, ← h5, ← h6, ← h7, ← h8, ← h9, ← h10, ← h11, ← h12, ← h13, ← h14, ← h15, ← h16, Bool.eq_iff_iff, decide_eq_true_eq, msg_iff]
    simp [bne]
  have C1 := hide (fun w' (hb : Later w w') => same_op F G s s2 x.op y.op w' (hl.1.kept (Kept.of_below hb F)) (hm.1.kept (Kept.of_below hb G)))
  have C2 := hide (fun w' (hb : Later w w') => same_ops F G o o2 x.ops y.ops w' (hl.2.1.kept (Kept.of_below hb F)) (hm.2.1.kept (Kept.of_below hb G)))
  have C3 := hide (fun w' (hb : Later w w') => same_incs F G i i2 x.incs y.incs w' (hl.2.2.kept (Kept.of_below hb F)) (hm.2.2.kept (Kept.of_below hb G)))
  rw [h12] at C1
  rw [h15] at C2
  rw [h16] at C3
  have hr := fun w => eql_reply x.rerr x.rsaga x.rstate x.rstep y.rerr y.rsaga y.rstate y.rstep w
  have hc := fun w => eql_command x.cview x.cstub x.csaga x.cstep x.ctry y.cview y.cstub y.csaga y.cstep y.ctry x.cback y.cback w
  rw [h13] at hr
  rw [h14] at hc
  clear h12 h13 h14 h15 h16
  obtain ⟨k1, k2, k3⟩ := hl.cell
  obtain ⟨j1, j2, j3⟩ := hm.cell
  clear hl hm
  have hbw : Below w.heap.size w ((w.alloc (.cells (x.cells s o i).toArray 42 (0, 0))).alloc (.cells (y.cells s2 o2 i2).toArray 42 (0, 0))) := ((Below.refl _ _).alloc (Nat.le_refl _) _).alloc (by simp) _
  have HBW := hide hbw
  have B1 : Hid (∀ w' : World, Below (w.heap.size + 2) ((w.alloc (.cells (x.cells s o i).toArray 42 (0, 0))).alloc (.cells (y.cells s2 o2 i2).toArray 42 (0, 0))) w' → w'.heap[w.heap.size]? = some (.cells (x.cells s o i).toArray 42 (0, 0)) ∧ w'.heap[w.heap.size + 1]? = some (.cells (y.cells s2 o2 i2).toArray 42 (0, 0))) := fun w' hb =>
    ⟨(hb.block _ (by omega)).trans ((Below.block ((Below.refl _ _).alloc (Nat.le_refl _) _) w.heap.size (by simp)).trans (heap_alloc_new w _)), (hb.block _ (by omega)).trans (heap_alloc2_new w _ _)⟩
  clear hbw
  unfold MsgD.cells at HBW B1
  unfold MsgD.cells
  unfold OpD.cells at C1
  go_enter Try.func17, Try.ntmps17
  go_wp2_with (fail)
  all_goals (try (go_ret; exact ⟨ret_bool (by rw [HALL.out]; simp [*]), HBW.out⟩))
  refine (C1.out _ HBW.out).mono ?_
  rintro e w1 ⟨rfl, hb1⟩
  have HB1 := hide (HBW.out.trans (hb1.mono HBW.out.size))
  have hb1' : Below (w.heap.size + 2) _ w1 := hb1.mono (by simp)
  have HC1 := hide hb1'
  obtain ⟨hx, hy⟩ := B1.out w1 hb1'
  obtain ⟨x0, x1, x2, x3, x4, x5, x6, x7, x8, x9, x10, x11, x12, x13, x14, x15, x16, x17, x18, x19, x20, x21, x22, x23, x24, x25, x26, x27, x28, x29, x30, x31, x32, x33⟩ := box34 hx
  obtain ⟨y0, y1, y2, y3, y4, y5, y6, y7, y8, y9, y10, y11, y12, y13, y14, y15, y16, y17, y18, y19, y20, y21, y22, y23, y24, y25, y26, y27, y28, y29, y30, y31, y32, y33⟩ := box34 hy
  clear hb1 hb1' hx hy x0 y0 x1 y1 x2 y2 x3 y3 x4 y4 x5 y5 x6 y6 x7 y7 x8 y8 x9 y9 x10 y10 x11 y11 x12 y12 x13 y13 x14 y14 x15 y15 x16 y16 x17 y17 x18 y18 x19 y19 x20 y20 x21 y21
  go_wp2_with (fail)
  all_goals (try (go_ret; exact ⟨ret_bool (by rw [HALL.out]; simp [*]), HB1.out⟩))
  clear x22 y22 x23 y23 x24 y24 x25 y25 x26 y26 x27 y27 x28 y28 x29 y29 x30 y30 x31 y31 x32 y32 x33 y33
  refine (C2.out _ HB1.out).mono ?_
  rintro e w2 ⟨rfl, hb2⟩
  have HB2 := hide (HB1.out.trans (hb2.mono HB1.out.size))
  have hs1 : w.heap.size + 2 ≤ w1.heap.size := by
    have := HC1.out.size
    simpa using this
  obtain ⟨hx, hy⟩ := B1.out w2 (HC1.out.trans (hb2.mono hs1))
  obtain ⟨x0, x1, x2, x3, x4, x5, x6, x7, x8, x9, x10, x11, x12, x13, x14, x15, x16, x17, x18, x19, x20, x21, x22, x23, x24, x25, x26, x27, x28, x29, x30, x31, x32, x33⟩ := box34 hx
  obtain ⟨y0, y1, y2, y3, y4, y5, y6, y7, y8, y9, y10, y11, y12, y13, y14, y15, y16, y17, y18, y19, y20, y21, y22, y23, y24, y25, y26, y27, y28, y29, y30, y31, y32, y33⟩ := box34 hy
  clear hb2 hs1 hx hy x0 y0 x1 y1 x2 y2 x3 y3 x4 y4 x5 y5 x6 y6 x7 y7 x8 y8 x9 y9 x10 y10 x11 y11 x12 y12 x13 y13 x14 y14 x15 y15 x16 y16 x17 y17 x18 y18 x19 y19 x20 y20 x21 y21 x22 y22 x23 y23 x24 y24 x25 y25 x26 y26 x27 y27 x28 y28 x29 y29 x30 y30 x31 y31 x32 y32
  go_wp2_with (fail)
  all_goals (try (go_ret; exact ⟨ret_bool (by rw [HALL.out]; simp [*]), HB2.out⟩))
  refine (C3.out _ HB2.out).mono ?_
  rintro e w3 ⟨rfl, q, rfl⟩
  go_wp2_with (fail)
  go_ret
  exact ⟨ret_bool (by rw [HALL.out]; simp [*]), HB2.out.trans (below_drewN _ _ _)⟩
end Go.Proofs.Ytaimnhlpdkpobaa
