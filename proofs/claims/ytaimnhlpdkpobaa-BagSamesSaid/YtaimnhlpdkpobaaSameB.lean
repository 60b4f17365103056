/- bag.Same. -/
import Derived.Test.YtaimnhlpdkpobaaEqualF
import Derived.Test.YtaimnhlpdkpobaaEqualI
import Derived.Test.YtaimnhlpdkpobaaSame
import Derived.Test.YtaimnhlpdkpobaaChain
namespace Go.Proofs.Ytaimnhlpdkpobaa
open Go.RowKit

set_option maxHeartbeats 4000000 in
set_option maxRecDepth 100000 in
theorem sameb_any (F G : Nat → Prop) (s o i s2 o2 i2 : Value) (x y : MsgD) (w : World) (hl : Lists F w x s o i) (hm : Lists G w y s2 o2 i2) :
    Calls Try.prog 29 #[.agg (x.cells s o i).toArray, .agg (y.cells s2 o2 i2).toArray] w fun e w' => e = .returned (.bool (decide (x = y))) ∧ Below w.heap.size w w' := by
  obtain ⟨q0, h0⟩ : ∃ q, (x.kind == y.kind) = q := ⟨_, rfl⟩
  obtain ⟨q1, h1⟩ : ∃ q, (x.src == y.src) = q := ⟨_, rfl⟩
  obtain ⟨q2, h2⟩ : ∃ q, (x.dst == y.dst) = q := ⟨_, rfl⟩
  obtain ⟨q3, h3⟩ : ∃ q, (x.view == y.view) = q := ⟨_, rfl⟩
  obtain ⟨q4, h4⟩ : ∃ q, (x.last == y.last) = q := ⟨_, rfl⟩
  obtain ⟨q5, h5⟩ : ∃ q, (x.num == y.num) = q := ⟨_, rfl⟩
  obtain ⟨q6, h6⟩ : ∃ q, (x.commit == y.commit) = q := ⟨_, rfl⟩
  obtain ⟨q7, h7⟩ : ∃ q, (x.nonce == y.nonce) = q := ⟨_, rfl⟩
  obtain ⟨q8, h8⟩ : ∃ q, (x.request == y.request) = q := ⟨_, rfl⟩
  obtain ⟨q9, h9⟩ : ∃ q, (x.lead == y.lead) = q := ⟨_, rfl⟩
  obtain ⟨q10, h10⟩ : ∃ q, (x.good == y.good) = q := ⟨_, rfl⟩
  obtain ⟨q11, h11⟩ : ∃ q, (x.fenced == y.fenced) = q := ⟨_, rfl⟩
  obtain ⟨q12, h12⟩ : ∃ q, decide (x.op = y.op) = q := ⟨_, rfl⟩
  obtain ⟨q13, h13⟩ : ∃ q, decide (x.rerr = y.rerr ∧ x.rsaga = y.rsaga ∧ x.rstate = y.rstate ∧ x.rstep = y.rstep) = q := ⟨_, rfl⟩
  obtain ⟨q14, h14⟩ : ∃ q, decide (x.cview = y.cview ∧ x.cstub = y.cstub ∧ x.csaga = y.csaga ∧ x.cstep = y.cstep ∧ x.ctry = y.ctry ∧ x.cback = y.cback) = q := ⟨_, rfl⟩
  obtain ⟨q15, h15⟩ : ∃ q, decide (x.ops = y.ops) = q := ⟨_, rfl⟩
  obtain ⟨q16, h16⟩ : ∃ q, decide (x.incs = y.incs) = q := ⟨_, rfl⟩
  have HALL : Hid (decide (x = y) = ((((((((((((((((q0 && q1) && q2) && q3) && q4) && q5) && q6) && q7) && q8) && q9) && q10) && q11) && q12) && q13) && q14) && q15) && q16)) := by
    show _ = _
    rw [← h0, ← h1, ← h2, ← h3, ← h4, ← h5, ← h6, ← h7, ← h8, ← h9, ← h10, ← h11, ← h12, ← h13, ← h14, ← h15, ← h16, Bool.eq_iff_iff, decide_eq_true_eq, msg_iff]
    simp [and_assoc]
  have C1 := hide (fun w' (hb : Below w.heap.size w w') => sameop_any F G s s2 x.op y.op w' (hl.1.kept (Kept.of_below hb F)) (hm.1.kept (Kept.of_below hb G)))
  have C2 := hide (fun w' (hb : Below w.heap.size w w') => equal_ops F G o o2 x.ops y.ops w' (hl.2.1.kept (Kept.of_below hb F)) (hm.2.1.kept (Kept.of_below hb G)))
  have C3 := hide (fun w' (hb : Below w.heap.size w w') => equal_incs F G i i2 x.incs y.incs w' (hl.2.2.kept (Kept.of_below hb F)) (hm.2.2.kept (Kept.of_below hb G)))
  rw [h12] at C1
  rw [h15] at C2
  rw [h16] at C3
  have hr := fun w => eql_reply x.rerr x.rsaga x.rstate x.rstep y.rerr y.rsaga y.rstate y.rstep w
  have hc := fun w => eql_command x.cview x.cstub x.csaga x.cstep x.ctry y.cview y.cstub y.csaga y.cstep y.ctry x.cback y.cback w
  rw [h13] at hr
  rw [h14] at hc
  have HR := hide hr
  have HC := hide hc
  obtain ⟨k1, k2, k3⟩ := hl.cell
  obtain ⟨j1, j2, j3⟩ := hm.cell
  clear hl hm h12 h13 h14 h15 h16 hr hc
  obtain ⟨w0, hw0⟩ : ∃ w0, w0 = ((w.alloc (.cells (x.cells s o i).toArray 42 (0, 0))).alloc (.cells (y.cells s2 o2 i2).toArray 42 (0, 0))) := ⟨_, rfl⟩
  have L0 : Hid (Below w.heap.size w w0) := by rw [hw0]; exact ((Below.refl _ _).alloc (Nat.le_refl _) _).alloc (by simp) _
  have X0 : Hid (w0.heap[w.heap.size]? = some (.cells (x.cells s o i).toArray 42 (0, 0))) := by rw [hw0]; exact (heap_alloc_old _ _ (by simp)).trans (heap_alloc_new _ _)
  have Y0 : Hid (w0.heap[w.heap.size + 1]? = some (.cells (y.cells s2 o2 i2).toArray 42 (0, 0))) := by rw [hw0]; exact heap_alloc2_new w _ _
  go_enter Try.func29, Try.ntmps29
  go_step
  go_step
  go_step
  go_step
  go_step
  go_step
  go_step
  go_step
  go_step
  go_step
  go_step
  rename_i KA hKA KB hKB
  refine hKB _ _ ?_
  refine wpList_nil ?_
  refine hKA _ _ ?_
  clear hKA hKB KA KB
  rw [← hw0]
  clear hw0
  go_step
  rename_i K2 hK2
  refine wp_region_lit ?_
  simp only [List.append_eq, List.cons_append, List.nil_append]
  have x0 := cell_of_row w0 w.heap.size 0 _ _ _ (X0.out)
  have y0 := cell_of_row w0 (w.heap.size + 1) 0 _ _ _ (Y0.out)
  simp only [List.getElem?_toArray, MsgD.cells, List.getElem?_cons_zero] at x0 y0
  refine conj_first (X := (.pointer (some ⟨w.heap.size, 0, none⟩))) (Y := (.pointer (some ⟨w.heap.size + 1, 0, none⟩))) (n := 122) (s := 5) (px := (.pointer (some ⟨w.heap.size, 0, none⟩))) (py := (.pointer (some ⟨w.heap.size + 1, 0, none⟩))) (vx := .int .i64 x.kind) (vy := .int .i64 y.kind) (q := q0) (by rfl) (by rfl) (by rfl) (by rfl) (by omega) (by omega) ⟨rfl, rfl⟩ ⟨rfl, rfl⟩ ⟨rfl, rfl⟩ ⟨rfl, rfl⟩ ⟨rfl, rfl⟩ ⟨rfl, rfl, rfl⟩ (fun a' h => by go_simp) (fun a' h => by go_simp) (fun a' h => by go_simp) (fun a' h => by go_simp) (fun a' ha hb => by go_simp) fun a0 h0' => ?_
  clear x0 y0
  have x1 := cell_of_row w0 w.heap.size 1 _ _ _ (X0.out)
  have y1 := cell_of_row w0 (w.heap.size + 1) 1 _ _ _ (Y0.out)
  simp only [List.getElem?_toArray, MsgD.cells, List.getElem?_cons_zero, List.getElem?_cons_succ] at x1 y1
  refine conj (W := fun w' => w0 = w') 5 17 h0' (by rfl) (by omega) (by omega) (by omega) (by omega) (by omega) rfl (px := (.pointer (some ⟨w.heap.size, 1, none⟩))) (py := (.pointer (some ⟨w.heap.size + 1, 1, none⟩))) (vx := .int .i64 x.src) (vy := .int .i64 y.src) (q := q1) ⟨rfl, rfl⟩ ⟨rfl, rfl⟩ ⟨rfl, rfl⟩ ⟨rfl, rfl⟩ ⟨rfl, rfl⟩ ⟨rfl, rfl, rfl⟩ ⟨.inl rfl, rfl, rfl⟩ (fun a' h => by go_simp) (fun a' h => by go_simp) (fun a' h => by go_simp) (fun a' h => by go_simp) (fun a' r ha hb hw hn => by refine wpList_val rfl hw (w' := w0) (v := .bool q1) ?_ (hn _ rfl); go_simp) fun a1 wq h1' hq => ?_
  subst hq
  clear x1 y1
  have x2 := cell_of_row w0 w.heap.size 2 _ _ _ (X0.out)
  have y2 := cell_of_row w0 (w.heap.size + 1) 2 _ _ _ (Y0.out)
  simp only [List.getElem?_toArray, MsgD.cells, List.getElem?_cons_zero, List.getElem?_cons_succ] at x2 y2
  refine conj (W := fun w' => w0 = w') 12 24 h1' (by rfl) (by omega) (by omega) (by omega) (by omega) (by omega) rfl (px := (.pointer (some ⟨w.heap.size, 2, none⟩))) (py := (.pointer (some ⟨w.heap.size + 1, 2, none⟩))) (vx := .int .i64 x.dst) (vy := .int .i64 y.dst) (q := q2) ⟨rfl, rfl⟩ ⟨rfl, rfl⟩ ⟨rfl, rfl⟩ ⟨rfl, rfl⟩ ⟨rfl, rfl⟩ ⟨rfl, rfl, rfl⟩ ⟨.inl rfl, rfl, rfl⟩ (fun a' h => by go_simp) (fun a' h => by go_simp) (fun a' h => by go_simp) (fun a' h => by go_simp) (fun a' r ha hb hw hn => by refine wpList_val rfl hw (w' := w0) (v := .bool q2) ?_ (hn _ rfl); go_simp) fun a2 wq h2' hq => ?_
  subst hq
  clear x2 y2
  have x3 := cell_of_row w0 w.heap.size 3 _ _ _ (X0.out)
  have y3 := cell_of_row w0 (w.heap.size + 1) 3 _ _ _ (Y0.out)
  simp only [List.getElem?_toArray, MsgD.cells, List.getElem?_cons_zero, List.getElem?_cons_succ] at x3 y3
  refine conj (W := fun w' => w0 = w') 19 31 h2' (by rfl) (by omega) (by omega) (by omega) (by omega) (by omega) rfl (px := (.pointer (some ⟨w.heap.size, 3, none⟩))) (py := (.pointer (some ⟨w.heap.size + 1, 3, none⟩))) (vx := .int .i64 x.view) (vy := .int .i64 y.view) (q := q3) ⟨rfl, rfl⟩ ⟨rfl, rfl⟩ ⟨rfl, rfl⟩ ⟨rfl, rfl⟩ ⟨rfl, rfl⟩ ⟨rfl, rfl, rfl⟩ ⟨.inl rfl, rfl, rfl⟩ (fun a' h => by go_simp) (fun a' h => by go_simp) (fun a' h => by go_simp) (fun a' h => by go_simp) (fun a' r ha hb hw hn => by refine wpList_val rfl hw (w' := w0) (v := .bool q3) ?_ (hn _ rfl); go_simp) fun a3 wq h3' hq => ?_
  subst hq
  clear x3 y3
  have x4 := cell_of_row w0 w.heap.size 4 _ _ _ (X0.out)
  have y4 := cell_of_row w0 (w.heap.size + 1) 4 _ _ _ (Y0.out)
  simp only [List.getElem?_toArray, MsgD.cells, List.getElem?_cons_zero, List.getElem?_cons_succ] at x4 y4
  refine conj (W := fun w' => w0 = w') 26 38 h3' (by rfl) (by omega) (by omega) (by omega) (by omega) (by omega) rfl (px := (.pointer (some ⟨w.heap.size, 4, none⟩))) (py := (.pointer (some ⟨w.heap.size + 1, 4, none⟩))) (vx := .int .i64 x.last) (vy := .int .i64 y.last) (q := q4) ⟨rfl, rfl⟩ ⟨rfl, rfl⟩ ⟨rfl, rfl⟩ ⟨rfl, rfl⟩ ⟨rfl, rfl⟩ ⟨rfl, rfl, rfl⟩ ⟨.inl rfl, rfl, rfl⟩ (fun a' h => by go_simp) (fun a' h => by go_simp) (fun a' h => by go_simp) (fun a' h => by go_simp) (fun a' r ha hb hw hn => by refine wpList_val rfl hw (w' := w0) (v := .bool q4) ?_ (hn _ rfl); go_simp) fun a4 wq h4' hq => ?_
  subst hq
  clear x4 y4
  have x5 := cell_of_row w0 w.heap.size 5 _ _ _ (X0.out)
  have y5 := cell_of_row w0 (w.heap.size + 1) 5 _ _ _ (Y0.out)
  simp only [List.getElem?_toArray, MsgD.cells, List.getElem?_cons_zero, List.getElem?_cons_succ] at x5 y5
  refine conj (W := fun w' => w0 = w') 33 45 h4' (by rfl) (by omega) (by omega) (by omega) (by omega) (by omega) rfl (px := (.pointer (some ⟨w.heap.size, 5, none⟩))) (py := (.pointer (some ⟨w.heap.size + 1, 5, none⟩))) (vx := .int .i64 x.num) (vy := .int .i64 y.num) (q := q5) ⟨rfl, rfl⟩ ⟨rfl, rfl⟩ ⟨rfl, rfl⟩ ⟨rfl, rfl⟩ ⟨rfl, rfl⟩ ⟨rfl, rfl, rfl⟩ ⟨.inl rfl, rfl, rfl⟩ (fun a' h => by go_simp) (fun a' h => by go_simp) (fun a' h => by go_simp) (fun a' h => by go_simp) (fun a' r ha hb hw hn => by refine wpList_val rfl hw (w' := w0) (v := .bool q5) ?_ (hn _ rfl); go_simp) fun a5 wq h5' hq => ?_
  subst hq
  clear x5 y5
  have x6 := cell_of_row w0 w.heap.size 6 _ _ _ (X0.out)
  have y6 := cell_of_row w0 (w.heap.size + 1) 6 _ _ _ (Y0.out)
  simp only [List.getElem?_toArray, MsgD.cells, List.getElem?_cons_zero, List.getElem?_cons_succ] at x6 y6
  refine conj (W := fun w' => w0 = w') 40 52 h5' (by rfl) (by omega) (by omega) (by omega) (by omega) (by omega) rfl (px := (.pointer (some ⟨w.heap.size, 6, none⟩))) (py := (.pointer (some ⟨w.heap.size + 1, 6, none⟩))) (vx := .int .i64 x.commit) (vy := .int .i64 y.commit) (q := q6) ⟨rfl, rfl⟩ ⟨rfl, rfl⟩ ⟨rfl, rfl⟩ ⟨rfl, rfl⟩ ⟨rfl, rfl⟩ ⟨rfl, rfl, rfl⟩ ⟨.inl rfl, rfl, rfl⟩ (fun a' h => by go_simp) (fun a' h => by go_simp) (fun a' h => by go_simp) (fun a' h => by go_simp) (fun a' r ha hb hw hn => by refine wpList_val rfl hw (w' := w0) (v := .bool q6) ?_ (hn _ rfl); go_simp) fun a6 wq h6' hq => ?_
  subst hq
  clear x6 y6
  have x7 := cell_of_row w0 w.heap.size 7 _ _ _ (X0.out)
  have y7 := cell_of_row w0 (w.heap.size + 1) 7 _ _ _ (Y0.out)
  simp only [List.getElem?_toArray, MsgD.cells, List.getElem?_cons_zero, List.getElem?_cons_succ] at x7 y7
  refine conj (W := fun w' => w0 = w') 47 59 h6' (by rfl) (by omega) (by omega) (by omega) (by omega) (by omega) rfl (px := (.pointer (some ⟨w.heap.size, 7, none⟩))) (py := (.pointer (some ⟨w.heap.size + 1, 7, none⟩))) (vx := .int .i64 x.nonce) (vy := .int .i64 y.nonce) (q := q7) ⟨rfl, rfl⟩ ⟨rfl, rfl⟩ ⟨rfl, rfl⟩ ⟨rfl, rfl⟩ ⟨rfl, rfl⟩ ⟨rfl, rfl, rfl⟩ ⟨.inl rfl, rfl, rfl⟩ (fun a' h => by go_simp) (fun a' h => by go_simp) (fun a' h => by go_simp) (fun a' h => by go_simp) (fun a' r ha hb hw hn => by refine wpList_val rfl hw (w' := w0) (v := .bool q7) ?_ (hn _ rfl); go_simp) fun a7 wq h7' hq => ?_
  subst hq
  clear x7 y7
  have x8 := cell_of_row w0 w.heap.size 8 _ _ _ (X0.out)
  have y8 := cell_of_row w0 (w.heap.size + 1) 8 _ _ _ (Y0.out)
  simp only [List.getElem?_toArray, MsgD.cells, List.getElem?_cons_zero, List.getElem?_cons_succ] at x8 y8
  refine conj (W := fun w' => w0 = w') 54 66 h7' (by rfl) (by omega) (by omega) (by omega) (by omega) (by omega) rfl (px := (.pointer (some ⟨w.heap.size, 8, none⟩))) (py := (.pointer (some ⟨w.heap.size + 1, 8, none⟩))) (vx := .int .i64 x.request) (vy := .int .i64 y.request) (q := q8) ⟨rfl, rfl⟩ ⟨rfl, rfl⟩ ⟨rfl, rfl⟩ ⟨rfl, rfl⟩ ⟨rfl, rfl⟩ ⟨rfl, rfl, rfl⟩ ⟨.inl rfl, rfl, rfl⟩ (fun a' h => by go_simp) (fun a' h => by go_simp) (fun a' h => by go_simp) (fun a' h => by go_simp) (fun a' r ha hb hw hn => by refine wpList_val rfl hw (w' := w0) (v := .bool q8) ?_ (hn _ rfl); go_simp) fun a8 wq h8' hq => ?_
  subst hq
  clear x8 y8
  have x9 := cell_of_row w0 w.heap.size 9 _ _ _ (X0.out)
  have y9 := cell_of_row w0 (w.heap.size + 1) 9 _ _ _ (Y0.out)
  simp only [List.getElem?_toArray, MsgD.cells, List.getElem?_cons_zero, List.getElem?_cons_succ] at x9 y9
  refine conj (W := fun w' => w0 = w') 61 73 h8' (by rfl) (by omega) (by omega) (by omega) (by omega) (by omega) rfl (px := (.pointer (some ⟨w.heap.size, 9, none⟩))) (py := (.pointer (some ⟨w.heap.size + 1, 9, none⟩))) (vx := .bool x.lead) (vy := .bool y.lead) (q := q9) ⟨rfl, rfl⟩ ⟨rfl, rfl⟩ ⟨rfl, rfl⟩ ⟨rfl, rfl⟩ ⟨rfl, rfl⟩ ⟨rfl, rfl, rfl⟩ ⟨.inl rfl, rfl, rfl⟩ (fun a' h => by go_simp) (fun a' h => by go_simp) (fun a' h => by go_simp) (fun a' h => by go_simp) (fun a' r ha hb hw hn => by refine wpList_val rfl hw (w' := w0) (v := .bool q9) ?_ (hn _ rfl); go_simp) fun a9 wq h9' hq => ?_
  subst hq
  clear x9 y9
  have x10 := cell_of_row w0 w.heap.size 10 _ _ _ (X0.out)
  have y10 := cell_of_row w0 (w.heap.size + 1) 10 _ _ _ (Y0.out)
  simp only [List.getElem?_toArray, MsgD.cells, List.getElem?_cons_zero, List.getElem?_cons_succ] at x10 y10
  refine conj (W := fun w' => w0 = w') 68 80 h9' (by rfl) (by omega) (by omega) (by omega) (by omega) (by omega) rfl (px := (.pointer (some ⟨w.heap.size, 10, none⟩))) (py := (.pointer (some ⟨w.heap.size + 1, 10, none⟩))) (vx := .bool x.good) (vy := .bool y.good) (q := q10) ⟨rfl, rfl⟩ ⟨rfl, rfl⟩ ⟨rfl, rfl⟩ ⟨rfl, rfl⟩ ⟨rfl, rfl⟩ ⟨rfl, rfl, rfl⟩ ⟨.inl rfl, rfl, rfl⟩ (fun a' h => by go_simp) (fun a' h => by go_simp) (fun a' h => by go_simp) (fun a' h => by go_simp) (fun a' r ha hb hw hn => by refine wpList_val rfl hw (w' := w0) (v := .bool q10) ?_ (hn _ rfl); go_simp) fun a10 wq h10' hq => ?_
  subst hq
  clear x10 y10
  have x11 := cell_of_row w0 w.heap.size 11 _ _ _ (X0.out)
  have y11 := cell_of_row w0 (w.heap.size + 1) 11 _ _ _ (Y0.out)
  simp only [List.getElem?_toArray, MsgD.cells, List.getElem?_cons_zero, List.getElem?_cons_succ] at x11 y11
  refine conj (W := fun w' => w0 = w') 75 87 h10' (by rfl) (by omega) (by omega) (by omega) (by omega) (by omega) rfl (px := (.pointer (some ⟨w.heap.size, 11, none⟩))) (py := (.pointer (some ⟨w.heap.size + 1, 11, none⟩))) (vx := .bool x.fenced) (vy := .bool y.fenced) (q := q11) ⟨rfl, rfl⟩ ⟨rfl, rfl⟩ ⟨rfl, rfl⟩ ⟨rfl, rfl⟩ ⟨rfl, rfl⟩ ⟨rfl, rfl, rfl⟩ ⟨.inl rfl, rfl, rfl⟩ (fun a' h => by go_simp) (fun a' h => by go_simp) (fun a' h => by go_simp) (fun a' h => by go_simp) (fun a' r ha hb hw hn => by refine wpList_val rfl hw (w' := w0) (v := .bool q11) ?_ (hn _ rfl); go_simp) fun a11 wq h11' hq => ?_
  subst hq
  clear x11 y11
  refine conj (W := fun w' => Below w0.heap.size w0 w') 82 94 h11' (by rfl) (by omega) (by omega) (by omega) (by omega) (by omega) (Below.refl _ _) (px := (.pointer (some ⟨w.heap.size, 12, none⟩))) (py := (.pointer (some ⟨w.heap.size + 1, 12, none⟩))) (vx := .agg (x.op.cells s).toArray) (vy := .agg (y.op.cells s2).toArray) (q := q12) ⟨rfl, rfl⟩ ⟨rfl, rfl⟩ ⟨rfl, rfl⟩ ⟨rfl, rfl⟩ ⟨rfl, rfl⟩ ⟨rfl, rfl, rfl⟩ ⟨.inl rfl, rfl, rfl⟩ (fun a' h => by go_simp) (fun a' h => exec_load_box 33 _ (by rfl) w.heap.size 12 (eval_of h) 42 _ X0.out 10 _ Try.underlying33 (by rfl) (by kernel_rfl) (x.op.cells s) (by rfl) (by rfl)) (fun a' h => by go_simp) (fun a' h => exec_load_box 33 _ (by rfl) (w.heap.size + 1) 12 (eval_of h) 42 _ Y0.out 10 _ Try.underlying33 (by rfl) (by kernel_rfl) (y.op.cells s2) (by rfl) (by rfl)) (fun a' r ha hb hw hn => ?c12) fun a12 wA h12' b12 => ?r12
  case c12 =>
    refine wpList_step fun K hK => ?_
    rw [if_pos hw]
    go_simp
    refine (C1.out w0 L0.out).mono ?_
    rintro e w1 ⟨rfl, hb1⟩
    exact hK _ _ (hn w1 hb1)
  have LA := hide (L0.out.trans (b12.mono L0.out.size))
  have hsz0 : w.heap.size + 1 < w0.heap.size := lt_of_block Y0.out
  have XA : Hid (wA.heap[w.heap.size]? = some (.cells (x.cells s o i).toArray 42 (0, 0))) := (b12.block _ (by omega)).trans X0.out
  have YA : Hid (wA.heap[w.heap.size + 1]? = some (.cells (y.cells s2 o2 i2).toArray 42 (0, 0))) := (b12.block _ hsz0).trans Y0.out
  have BA := hide b12
  clear b12
  refine conj (W := fun w' => wA = w') 89 101 h12' (by rfl) (by omega) (by omega) (by omega) (by omega) (by omega) rfl (px := (.pointer (some ⟨w.heap.size, 22, none⟩))) (py := (.pointer (some ⟨w.heap.size + 1, 22, none⟩))) (vx := .agg ([.int .i64 x.rerr, .int .i64 x.rsaga, .int .i64 x.rstate, .int .i64 x.rstep]).toArray) (vy := .agg ([.int .i64 y.rerr, .int .i64 y.rsaga, .int .i64 y.rstate, .int .i64 y.rstep]).toArray) (q := q13) ⟨rfl, rfl⟩ ⟨rfl, rfl⟩ ⟨rfl, rfl⟩ ⟨rfl, rfl⟩ ⟨rfl, rfl⟩ ⟨rfl, rfl, rfl⟩ ⟨.inl rfl, rfl, rfl⟩ (fun a' h => by go_simp) (fun a' h => exec_load_box 36 _ (by rfl) w.heap.size 22 (eval_of h) 42 _ XA.out 4 _ Try.underlying36 (by rfl) (by kernel_rfl) [.int .i64 x.rerr, .int .i64 x.rsaga, .int .i64 x.rstate, .int .i64 x.rstep] (by rfl) (by rfl)) (fun a' h => by go_simp) (fun a' h => exec_load_box 36 _ (by rfl) (w.heap.size + 1) 22 (eval_of h) 42 _ YA.out 4 _ Try.underlying36 (by rfl) (by kernel_rfl) [.int .i64 y.rerr, .int .i64 y.rsaga, .int .i64 y.rstate, .int .i64 y.rstep] (by rfl) (by rfl)) (fun a' r ha hb hw hn => ?c13) fun a13 wq h13' hq => ?r13
  case c13 =>
    have hrun := HR.out
    refine wpList_val rfl hw (w' := wA) (v := .bool q13) ?_ (hn _ rfl)
    go_simp
  subst hq
  refine conj (W := fun w' => wA = w') 96 108 h13' (by rfl) (by omega) (by omega) (by omega) (by omega) (by omega) rfl (px := (.pointer (some ⟨w.heap.size, 26, none⟩))) (py := (.pointer (some ⟨w.heap.size + 1, 26, none⟩))) (vx := .agg ([.int .i64 x.cview, .int .i64 x.cstub, .int .i64 x.csaga, .int .i64 x.cstep, .int .i64 x.ctry, .bool x.cback]).toArray) (vy := .agg ([.int .i64 y.cview, .int .i64 y.cstub, .int .i64 y.csaga, .int .i64 y.cstep, .int .i64 y.ctry, .bool y.cback]).toArray) (q := q14) ⟨rfl, rfl⟩ ⟨rfl, rfl⟩ ⟨rfl, rfl⟩ ⟨rfl, rfl⟩ ⟨rfl, rfl⟩ ⟨rfl, rfl, rfl⟩ ⟨.inl rfl, rfl, rfl⟩ (fun a' h => by go_simp) (fun a' h => exec_load_box 38 _ (by rfl) w.heap.size 26 (eval_of h) 42 _ XA.out 6 _ Try.underlying38 (by rfl) (by kernel_rfl) [.int .i64 x.cview, .int .i64 x.cstub, .int .i64 x.csaga, .int .i64 x.cstep, .int .i64 x.ctry, .bool x.cback] (by rfl) (by rfl)) (fun a' h => by go_simp) (fun a' h => exec_load_box 38 _ (by rfl) (w.heap.size + 1) 26 (eval_of h) 42 _ YA.out 6 _ Try.underlying38 (by rfl) (by kernel_rfl) [.int .i64 y.cview, .int .i64 y.cstub, .int .i64 y.csaga, .int .i64 y.cstep, .int .i64 y.ctry, .bool y.cback] (by rfl) (by rfl)) (fun a' r ha hb hw hn => ?c14) fun a14 wq h14' hq => ?r14
  case c14 =>
    have hrun := HC.out
    refine wpList_val rfl hw (w' := wA) (v := .bool q14) ?_ (hn _ rfl)
    go_simp
  subst hq
  have x15 := cell_of_row wA w.heap.size 32 _ _ _ (XA.out)
  have y15 := cell_of_row wA (w.heap.size + 1) 32 _ _ _ (YA.out)
  simp only [List.getElem?_toArray, MsgD.cells, List.getElem?_cons_zero, List.getElem?_cons_succ] at x15 y15
  refine conj (W := fun w' => Below wA.heap.size wA w') 103 115 h14' (by rfl) (by omega) (by omega) (by omega) (by omega) (by omega) (Below.refl _ _) (px := (.pointer (some ⟨w.heap.size, 32, none⟩))) (py := (.pointer (some ⟨w.heap.size + 1, 32, none⟩))) (vx := o) (vy := o2) (q := q15) ⟨rfl, rfl⟩ ⟨rfl, rfl⟩ ⟨rfl, rfl⟩ ⟨rfl, rfl⟩ ⟨rfl, rfl⟩ ⟨rfl, rfl, rfl⟩ ⟨.inl rfl, rfl, rfl⟩ (fun a' h => by go_simp) (fun a' h => by go_simp) (fun a' h => by go_simp) (fun a' h => by go_simp) (fun a' r ha hb hw hn => ?c15) fun a15 wB h15' b15' => ?r15
  case c15 =>
    refine wpList_step fun K hK => ?_
    rw [if_pos hw]
    go_simp
    refine (C2.out wA LA.out).mono ?_
    rintro e w1 ⟨rfl, hb1⟩
    exact hK _ _ (hn w1 hb1)
  have LB := hide (LA.out.trans (b15'.mono LA.out.size))
  have hszA := BA.out.size
  have XB : Hid (wB.heap[w.heap.size]? = some (.cells (x.cells s o i).toArray 42 (0, 0))) := (b15'.block _ (by omega)).trans XA.out
  have YB : Hid (wB.heap[w.heap.size + 1]? = some (.cells (y.cells s2 o2 i2).toArray 42 (0, 0))) := (b15'.block _ (by omega)).trans YA.out
  clear b15' x15 y15
  have x16 := cell_of_row wB w.heap.size 33 _ _ _ (XB.out)
  have y16 := cell_of_row wB (w.heap.size + 1) 33 _ _ _ (YB.out)
  simp only [List.getElem?_toArray, MsgD.cells, List.getElem?_cons_zero, List.getElem?_cons_succ] at x16 y16
  refine conj (W := fun w' => Below wB.heap.size wB w') 110 4 h15' (by rfl) (by omega) (by omega) (by omega) (by omega) (by omega) (Below.refl _ _) (px := (.pointer (some ⟨w.heap.size, 33, none⟩))) (py := (.pointer (some ⟨w.heap.size + 1, 33, none⟩))) (vx := i) (vy := i2) (q := q16) ⟨rfl, rfl⟩ ⟨rfl, rfl⟩ ⟨rfl, rfl⟩ ⟨rfl, rfl⟩ ⟨rfl, rfl⟩ ⟨rfl, rfl, rfl⟩ ⟨.inr rfl, rfl, rfl⟩ (fun a' h => by go_simp) (fun a' h => by go_simp) (fun a' h => by go_simp) (fun a' h => by go_simp) (fun a' r ha hb hw hn => ?c16) fun a16 wC h16' b16' => ?r16
  case c16 =>
    refine wpList_step fun K hK => ?_
    rw [if_pos hw]
    go_simp
    refine (C3.out wB LB.out).mono ?_
    rintro e w1 ⟨rfl, q, rfl⟩
    exact hK _ _ (hn _ (below_drewN _ _ _))
  have LC := hide (LB.out.trans (b16'.mono LB.out.size))
  refine wpList_nil ?_
  simp only [Exit.then]
  refine hK2 _ _ ?_
  go_step
  refine bodyPost_ret (results_tmp rfl _ _ _) h16'.d ?_
  refine ⟨?_, LC.out⟩
  rw [Array.getD_eq_getD_getElem?, h16'.c, HALL.out]
  rfl
end Go.Proofs.Ytaimnhlpdkpobaa
