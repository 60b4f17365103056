/- op.Same. -/
import Derived.Test.YtaimnhlpdkpobaaSameOp
import Derived.Test.YtaimnhlpdkpobaaEqual
import Derived.Test.YtaimnhlpdkpobaaChain
namespace Go.Proofs.Ytaimnhlpdkpobaa
open Go.RowKit

set_option maxHeartbeats 4000000 in
set_option maxRecDepth 100000 in
theorem sameop_any (F G : Nat → Prop) (v v2 : Value) (x y : OpD) (w : World) (hl : StepsAt F w v x.steps) (hm : StepsAt G w v2 y.steps) :
    Calls Try.prog 43 #[.agg (x.cells v).toArray, .agg (y.cells v2).toArray] w fun e w' => e = .returned (.bool (decide (x = y))) ∧ Below w.heap.size w w' := by
  obtain ⟨q0, h0⟩ : ∃ q, (x.kind == y.kind) = q := ⟨_, rfl⟩
  obtain ⟨q1, h1⟩ : ∃ q, (x.client == y.client) = q := ⟨_, rfl⟩
  obtain ⟨q2, h2⟩ : ∃ q, (x.request == y.request) = q := ⟨_, rfl⟩
  obtain ⟨q3, h3⟩ : ∃ q, (x.name.toList == y.name.toList) = q := ⟨_, rfl⟩
  obtain ⟨q4, h4⟩ : ∃ q, decide (x.steps = y.steps) = q := ⟨_, rfl⟩
  obtain ⟨q5, h5⟩ : ∃ q, (x.saga == y.saga) = q := ⟨_, rfl⟩
  obtain ⟨q6, h6⟩ : ∃ q, (x.step == y.step) = q := ⟨_, rfl⟩
  obtain ⟨q7, h7⟩ : ∃ q, (x.try_ == y.try_) = q := ⟨_, rfl⟩
  obtain ⟨q8, h8⟩ : ∃ q, (x.back == y.back) = q := ⟨_, rfl⟩
  obtain ⟨q9, h9⟩ : ∃ q, (x.good == y.good) = q := ⟨_, rfl⟩
  have HALL : Hid (decide (x = y) = (((((((((q0 && q1) && q2) && q3) && q4) && q5) && q6) && q7) && q8) && q9)) := by
    show _ = _
    rw [← h0, ← h1, ← h2, ← h3, ← h4, ← h5, ← h6, ← h7, ← h8, ← h9, str_eq, Bool.eq_iff_iff, decide_eq_true_eq, op_iff]
    simp [and_assoc]
  have C := hide (fun w' (hb : Below w.heap.size w w') => equal_steps F G v v2 x.steps y.steps w' (hl.kept (Kept.of_below hb F)) (hm.kept (Kept.of_below hb G)))
  rw [h4] at C
  have k1 := FlatAt.oneCell hl
  have j1 := FlatAt.oneCell hm
  clear hl hm h4
  obtain ⟨w0, hw0⟩ : ∃ w0, w0 = ((w.alloc (.cells (x.cells v).toArray 33 (0, 0))).alloc (.cells (y.cells v2).toArray 33 (0, 0))) := ⟨_, rfl⟩
  have L0 : Hid (Below w.heap.size w w0) := by rw [hw0]; exact ((Below.refl _ _).alloc (Nat.le_refl _) _).alloc (by simp) _
  have X0 : Hid (w0.heap[w.heap.size]? = some (.cells (x.cells v).toArray 33 (0, 0))) := by rw [hw0]; exact (heap_alloc_old _ _ (by simp)).trans (heap_alloc_new _ _)
  have Y0 : Hid (w0.heap[w.heap.size + 1]? = some (.cells (y.cells v2).toArray 33 (0, 0))) := by rw [hw0]; exact heap_alloc2_new w _ _
  go_enter Try.func43, Try.ntmps43
  go_step
  go_step
  go_step
  go_step
  go_step
  go_step
  go_step
  go_step
  go_step
  go_step
  go_step
  rename_i KA hKA KB hKB
  refine hKB _ _ ?_
  refine wpList_nil ?_
  refine hKA _ _ ?_
  clear hKA hKB KA KB
  rw [← hw0]
  clear hw0
  go_step
  rename_i K2 hK2
  refine wp_region_lit ?_
  simp only [List.append_eq, List.cons_append, List.nil_append]
  have x0 := cell_of_row w0 w.heap.size 0 _ _ _ (X0.out)
  have y0 := cell_of_row w0 (w.heap.size + 1) 0 _ _ _ (Y0.out)
  simp only [List.getElem?_toArray, OpD.cells, List.getElem?_cons_zero] at x0 y0
  refine conj_first (X := (.pointer (some ⟨w.heap.size, 0, none⟩))) (Y := (.pointer (some ⟨w.heap.size + 1, 0, none⟩))) (n := 77) (s := 5) (px := (.pointer (some ⟨w.heap.size, 0, none⟩))) (py := (.pointer (some ⟨w.heap.size + 1, 0, none⟩))) (vx := .int .i64 x.kind) (vy := .int .i64 y.kind) (q := q0) (by rfl) (by rfl) (by rfl) (by rfl) (by omega) (by omega) ⟨rfl, rfl⟩ ⟨rfl, rfl⟩ ⟨rfl, rfl⟩ ⟨rfl, rfl⟩ ⟨rfl, rfl⟩ ⟨rfl, rfl, rfl⟩ (fun a' h => by go_simp) (fun a' h => by go_simp) (fun a' h => by go_simp) (fun a' h => by go_simp) (fun a' ha hb => by go_simp) fun a0 h0' => ?_
  clear x0 y0
  have x1 := cell_of_row w0 w.heap.size 1 _ _ _ (X0.out)
  have y1 := cell_of_row w0 (w.heap.size + 1) 1 _ _ _ (Y0.out)
  simp only [List.getElem?_toArray, OpD.cells, List.getElem?_cons_zero, List.getElem?_cons_succ] at x1 y1
  refine conj (W := fun w' => w0 = w') 5 17 h0' (by rfl) (by omega) (by omega) (by omega) (by omega) (by omega) rfl (px := (.pointer (some ⟨w.heap.size, 1, none⟩))) (py := (.pointer (some ⟨w.heap.size + 1, 1, none⟩))) (vx := .int .i64 x.client) (vy := .int .i64 y.client) (q := q1) ⟨rfl, rfl⟩ ⟨rfl, rfl⟩ ⟨rfl, rfl⟩ ⟨rfl, rfl⟩ ⟨rfl, rfl⟩ ⟨rfl, rfl, rfl⟩ ⟨.inl rfl, rfl, rfl⟩ (fun a' h => by go_simp) (fun a' h => by go_simp) (fun a' h => by go_simp) (fun a' h => by go_simp) (fun a' r ha hb hw hn => by refine wpList_val rfl hw (w' := w0) (v := .bool q1) ?_ (hn _ rfl); go_simp) fun a1 wq h1' hq => ?_
  subst hq
  clear x1 y1
  have x2 := cell_of_row w0 w.heap.size 2 _ _ _ (X0.out)
  have y2 := cell_of_row w0 (w.heap.size + 1) 2 _ _ _ (Y0.out)
  simp only [List.getElem?_toArray, OpD.cells, List.getElem?_cons_zero, List.getElem?_cons_succ] at x2 y2
  refine conj (W := fun w' => w0 = w') 12 24 h1' (by rfl) (by omega) (by omega) (by omega) (by omega) (by omega) rfl (px := (.pointer (some ⟨w.heap.size, 2, none⟩))) (py := (.pointer (some ⟨w.heap.size + 1, 2, none⟩))) (vx := .int .i64 x.request) (vy := .int .i64 y.request) (q := q2) ⟨rfl, rfl⟩ ⟨rfl, rfl⟩ ⟨rfl, rfl⟩ ⟨rfl, rfl⟩ ⟨rfl, rfl⟩ ⟨rfl, rfl, rfl⟩ ⟨.inl rfl, rfl, rfl⟩ (fun a' h => by go_simp) (fun a' h => by go_simp) (fun a' h => by go_simp) (fun a' h => by go_simp) (fun a' r ha hb hw hn => by refine wpList_val rfl hw (w' := w0) (v := .bool q2) ?_ (hn _ rfl); go_simp) fun a2 wq h2' hq => ?_
  subst hq
  clear x2 y2
  have x3 := cell_of_row w0 w.heap.size 3 _ _ _ (X0.out)
  have y3 := cell_of_row w0 (w.heap.size + 1) 3 _ _ _ (Y0.out)
  simp only [List.getElem?_toArray, OpD.cells, List.getElem?_cons_zero, List.getElem?_cons_succ] at x3 y3
  refine conj2 (W := fun w' => w0 = w') 19 33 h2' (by rfl) (by omega) (by omega) (by omega) (by omega) (by omega) rfl (px := (.pointer (some ⟨w.heap.size, 3, none⟩))) (px' := (.pointer (some ⟨w.heap.size, 3, none⟩))) (py := (.pointer (some ⟨w.heap.size + 1, 3, none⟩))) (py' := (.pointer (some ⟨w.heap.size + 1, 3, none⟩))) (vx := .string x.name) (vy := .string y.name) (q := q3) ⟨rfl, rfl⟩ ⟨rfl, rfl⟩ ⟨rfl, rfl⟩ ⟨rfl, rfl⟩ ⟨rfl, rfl⟩ ⟨rfl, rfl⟩ ⟨rfl, rfl⟩ ⟨rfl, rfl, rfl⟩ ⟨.inl rfl, rfl, rfl⟩ (fun a' h => by go_simp) (fun a' h => by go_simp) (fun a' h => by go_simp) (fun a' h => by go_simp) (fun a' h => by go_simp) (fun a' h => by go_simp) (fun a' r ha hb hw hn => by refine wpList_val rfl hw (w' := w0) (v := .bool q3) ?_ (hn _ rfl); go_simp) fun a3 wq h3' hq => ?_
  subst hq
  clear x3 y3
  have x4 := cell_of_row w0 w.heap.size 4 _ _ _ (X0.out)
  have y4 := cell_of_row w0 (w.heap.size + 1) 4 _ _ _ (Y0.out)
  simp only [List.getElem?_toArray, OpD.cells, List.getElem?_cons_zero, List.getElem?_cons_succ] at x4 y4
  refine conj2 (W := fun w' => Below w0.heap.size w0 w') 28 42 h3' (by rfl) (by omega) (by omega) (by omega) (by omega) (by omega) (Below.refl _ _) (px := (.pointer (some ⟨w.heap.size, 3, none⟩))) (px' := (.pointer (some ⟨w.heap.size, 4, none⟩))) (py := (.pointer (some ⟨w.heap.size + 1, 3, none⟩))) (py' := (.pointer (some ⟨w.heap.size + 1, 4, none⟩))) (vx := v) (vy := v2) (q := q4) ⟨rfl, rfl⟩ ⟨rfl, rfl⟩ ⟨rfl, rfl⟩ ⟨rfl, rfl⟩ ⟨rfl, rfl⟩ ⟨rfl, rfl⟩ ⟨rfl, rfl⟩ ⟨rfl, rfl, rfl⟩ ⟨.inl rfl, rfl, rfl⟩ (fun a' h => by go_simp) (fun a' h => by go_simp) (fun a' h => by go_simp) (fun a' h => by go_simp) (fun a' h => by go_simp) (fun a' h => by go_simp) (fun a' r ha hb hw hn => ?c4) fun a4 wA h4' bA => ?r4
  case c4 =>
    refine wpList_step fun K hK => ?_
    rw [if_pos hw]
    go_simp
    refine (C.out w0 L0.out).mono ?_
    rintro e w1 ⟨rfl, q, rfl⟩
    exact hK _ _ (hn _ (below_drewN _ _ _))
  have LA := hide (L0.out.trans (bA.mono L0.out.size))
  have hsz0 : w.heap.size + 1 < w0.heap.size := lt_of_block Y0.out
  have XA : Hid (wA.heap[w.heap.size]? = some (.cells (x.cells v).toArray 33 (0, 0))) := (bA.block _ (by omega)).trans X0.out
  have YA : Hid (wA.heap[w.heap.size + 1]? = some (.cells (y.cells v2).toArray 33 (0, 0))) := (bA.block _ hsz0).trans Y0.out
  clear bA x4 y4
  have x5 := cell_of_row wA w.heap.size 5 _ _ _ (XA.out)
  have y5 := cell_of_row wA (w.heap.size + 1) 5 _ _ _ (YA.out)
  simp only [List.getElem?_toArray, OpD.cells, List.getElem?_cons_zero, List.getElem?_cons_succ] at x5 y5
  refine conj (W := fun w' => wA = w') 37 49 h4' (by rfl) (by omega) (by omega) (by omega) (by omega) (by omega) rfl (px := (.pointer (some ⟨w.heap.size, 5, none⟩))) (py := (.pointer (some ⟨w.heap.size + 1, 5, none⟩))) (vx := .int .i64 x.saga) (vy := .int .i64 y.saga) (q := q5) ⟨rfl, rfl⟩ ⟨rfl, rfl⟩ ⟨rfl, rfl⟩ ⟨rfl, rfl⟩ ⟨rfl, rfl⟩ ⟨rfl, rfl, rfl⟩ ⟨.inl rfl, rfl, rfl⟩ (fun a' h => by go_simp) (fun a' h => by go_simp) (fun a' h => by go_simp) (fun a' h => by go_simp) (fun a' r ha hb hw hn => by refine wpList_val rfl hw (w' := wA) (v := .bool q5) ?_ (hn _ rfl); go_simp) fun a5 wq h5' hq => ?_
  subst hq
  clear x5 y5
  have x6 := cell_of_row wA w.heap.size 6 _ _ _ (XA.out)
  have y6 := cell_of_row wA (w.heap.size + 1) 6 _ _ _ (YA.out)
  simp only [List.getElem?_toArray, OpD.cells, List.getElem?_cons_zero, List.getElem?_cons_succ] at x6 y6
  refine conj (W := fun w' => wA = w') 44 56 h5' (by rfl) (by omega) (by omega) (by omega) (by omega) (by omega) rfl (px := (.pointer (some ⟨w.heap.size, 6, none⟩))) (py := (.pointer (some ⟨w.heap.size + 1, 6, none⟩))) (vx := .int .i64 x.step) (vy := .int .i64 y.step) (q := q6) ⟨rfl, rfl⟩ ⟨rfl, rfl⟩ ⟨rfl, rfl⟩ ⟨rfl, rfl⟩ ⟨rfl, rfl⟩ ⟨rfl, rfl, rfl⟩ ⟨.inl rfl, rfl, rfl⟩ (fun a' h => by go_simp) (fun a' h => by go_simp) (fun a' h => by go_simp) (fun a' h => by go_simp) (fun a' r ha hb hw hn => by refine wpList_val rfl hw (w' := wA) (v := .bool q6) ?_ (hn _ rfl); go_simp) fun a6 wq h6' hq => ?_
  subst hq
  clear x6 y6
  have x7 := cell_of_row wA w.heap.size 7 _ _ _ (XA.out)
  have y7 := cell_of_row wA (w.heap.size + 1) 7 _ _ _ (YA.out)
  simp only [List.getElem?_toArray, OpD.cells, List.getElem?_cons_zero, List.getElem?_cons_succ] at x7 y7
  refine conj (W := fun w' => wA = w') 51 63 h6' (by rfl) (by omega) (by omega) (by omega) (by omega) (by omega) rfl (px := (.pointer (some ⟨w.heap.size, 7, none⟩))) (py := (.pointer (some ⟨w.heap.size + 1, 7, none⟩))) (vx := .int .i64 x.try_) (vy := .int .i64 y.try_) (q := q7) ⟨rfl, rfl⟩ ⟨rfl, rfl⟩ ⟨rfl, rfl⟩ ⟨rfl, rfl⟩ ⟨rfl, rfl⟩ ⟨rfl, rfl, rfl⟩ ⟨.inl rfl, rfl, rfl⟩ (fun a' h => by go_simp) (fun a' h => by go_simp) (fun a' h => by go_simp) (fun a' h => by go_simp) (fun a' r ha hb hw hn => by refine wpList_val rfl hw (w' := wA) (v := .bool q7) ?_ (hn _ rfl); go_simp) fun a7 wq h7' hq => ?_
  subst hq
  clear x7 y7
  have x8 := cell_of_row wA w.heap.size 8 _ _ _ (XA.out)
  have y8 := cell_of_row wA (w.heap.size + 1) 8 _ _ _ (YA.out)
  simp only [List.getElem?_toArray, OpD.cells, List.getElem?_cons_zero, List.getElem?_cons_succ] at x8 y8
  refine conj (W := fun w' => wA = w') 58 70 h7' (by rfl) (by omega) (by omega) (by omega) (by omega) (by omega) rfl (px := (.pointer (some ⟨w.heap.size, 8, none⟩))) (py := (.pointer (some ⟨w.heap.size + 1, 8, none⟩))) (vx := .bool x.back) (vy := .bool y.back) (q := q8) ⟨rfl, rfl⟩ ⟨rfl, rfl⟩ ⟨rfl, rfl⟩ ⟨rfl, rfl⟩ ⟨rfl, rfl⟩ ⟨rfl, rfl, rfl⟩ ⟨.inl rfl, rfl, rfl⟩ (fun a' h => by go_simp) (fun a' h => by go_simp) (fun a' h => by go_simp) (fun a' h => by go_simp) (fun a' r ha hb hw hn => by refine wpList_val rfl hw (w' := wA) (v := .bool q8) ?_ (hn _ rfl); go_simp) fun a8 wq h8' hq => ?_
  subst hq
  clear x8 y8
  have x9 := cell_of_row wA w.heap.size 9 _ _ _ (XA.out)
  have y9 := cell_of_row wA (w.heap.size + 1) 9 _ _ _ (YA.out)
  simp only [List.getElem?_toArray, OpD.cells, List.getElem?_cons_zero, List.getElem?_cons_succ] at x9 y9
  refine conj (W := fun w' => wA = w') 65 4 h8' (by rfl) (by omega) (by omega) (by omega) (by omega) (by omega) rfl (px := (.pointer (some ⟨w.heap.size, 9, none⟩))) (py := (.pointer (some ⟨w.heap.size + 1, 9, none⟩))) (vx := .bool x.good) (vy := .bool y.good) (q := q9) ⟨rfl, rfl⟩ ⟨rfl, rfl⟩ ⟨rfl, rfl⟩ ⟨rfl, rfl⟩ ⟨rfl, rfl⟩ ⟨rfl, rfl, rfl⟩ ⟨.inr rfl, rfl, rfl⟩ (fun a' h => by go_simp) (fun a' h => by go_simp) (fun a' h => by go_simp) (fun a' h => by go_simp) (fun a' r ha hb hw hn => by refine wpList_val rfl hw (w' := wA) (v := .bool q9) ?_ (hn _ rfl); go_simp) fun a9 wq h9' hq => ?_
  subst hq
  clear x9 y9
  refine wpList_nil ?_
  simp only [Exit.then]
  refine hK2 _ _ ?_
  go_step
  refine bodyPost_ret (results_tmp rfl _ _ _) h9'.d ?_
  refine ⟨?_, LA.out⟩
  rw [Array.getD_eq_getD_getElem?, h9'.c, HALL.out]
  rfl
end Go.Proofs.Ytaimnhlpdkpobaa
