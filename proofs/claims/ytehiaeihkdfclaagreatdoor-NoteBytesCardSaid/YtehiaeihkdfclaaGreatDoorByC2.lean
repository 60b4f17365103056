/- Whatever message comes in: NoteBytes returns true and changes no argument. Conditions: the package-level table of package envelope starts as the program's text lays it; the argument takes up what the row allows. -/
import Derived.Test.YtehiaeihkdfclaaGreatDoorBaseN1
import Derived.Test.YtehiaeihkdfclaaGreatDoorBaseN2
import Derived.Test.YtehiaeihkdfclaaGreatDoorBaseN3
import Derived.Test.YtehiaeihkdfclaaGreatDoorBaseN4
import Derived.Test.YtehiaeihkdfclaaGreatDoorBaseN5
import Derived.Test.YtehiaeihkdfclaaGreatDoorByC1
import Derived.Test.YtehiaeihkdfclaaGreatDoorCards
import Derived.Test.YtehiaeihkdfclaaGreatDoorTie
import Derived.SevenTiedAt
import Derived.ShutString
import Derived.ChangeOld
/- The walk over droverref09.Good and Bytes. -/
namespace Go.Proofs.YtehiaeihkdfclaaGreatDoor
open Go.RowKit

/-- The sixteen numbers of a message that must be small. -/
def m16 (m : MsgD) : List Int := [m.src, m.dst, m.view, m.last, m.num, m.commit, m.nonce, m.request, m.rsaga, m.rstate, m.rstep, m.cview, m.cstub, m.csaga, m.cstep, m.ctry]
theorem msgG0_parts (m : MsgD) : msgG0 m = (decide (1 ≤ m.kind) && decide (m.kind ≤ 14) && (m16 m).all mayB && decide (0 ≤ m.rerr) && decide (m.rerr ≤ 15) && opG m.op && decide (m.incs.length ≤ 5) && m.incs.all mayB && m.ops.all opG) := by
  simp only [msgG0, replyG, cmdG, m16, List.all_cons, List.all_nil, Bool.and_true]
  ac_rfl

set_option maxHeartbeats 8000000 in
set_option maxRecDepth 100000 in
theorem rgoodm_any {F : Nat → Prop} {w : World} {m : MsgD} {s o i : Value} (hL : Lists F w m s o i) (hwf : m.wf) (hno : m.ops.length ≤ 200) (hni : m.incs.length ≤ 200) :
    Calls Tryz.prog 8 #[.agg (m.cells s o i).toArray] w fun e w' => e = .returned (.bool (msgG m)) ∧ Later w w' := by
  obtain ⟨sA, sc, rfl, hsl, _, _⟩ := FlatAt.shape hL.1
  obtain ⟨ps, hps, hops⟩ := hL.2.1
  have hpn : ps.length = m.ops.length := by rw [← hps]; simp
  obtain ⟨oA, oc, rfl, _, _, _⟩ := FlatAt.shape hops.1
  obtain ⟨iA, ic, rfl, _, _, _⟩ := FlatAt.shape hL.2.2
  have hst0 := hL.1
  have hin0 := hL.2.2
  have HPS := hide hps
  have HPN := hide hpn
  have HWF := hide hwf
  have HNO := hide hno
  have HNI := hide hni
  obtain ⟨n2, hn2⟩ : ∃ n, ps.length = n := ⟨_, rfl⟩
  have HN2 := hide hn2
  have hn200 : n2 ≤ 200 := by omega
  obtain ⟨n3, hn3⟩ : ∃ n, m.incs.length = n := ⟨_, rfl⟩
  have HN3 := hide hn3
  have hi200 : n3 ≤ 200 := by omega
  obtain ⟨n1, hn1⟩ : ∃ n, m.op.steps.length = n := ⟨_, rfl⟩
  have HN1 := hide hn1
  rw [hn2] at hops
  rw [hn3] at hin0
  rw [hn1] at hst0
  have HL0 := hL
  rw [hn1, hn2, hn3] at HL0
  have HLS := hide HL0
  have HST := hide hst0
  have HOP := hide hops
  have HIN := hide hin0
  clear hL HL0 hst0 hin0 hwf hno hni hsl hps hpn hn2 hn3 hn1 hops
  rw [HN1.out, HN2.out, HN3.out]
  have HW1 : Hid (Later w (w.alloc (.cells (m.cells (.slice sA n1 sc) (.slice oA n2 oc) (.slice iA n3 ic)).toArray 35 (0, 0)))) := Later.alloc _ _
  have HX1 : Hid ((w.alloc (.cells (m.cells (.slice sA n1 sc) (.slice oA n2 oc) (.slice iA n3 ic)).toArray 35 (0, 0))).heap[w.heap.size]? = some (.cells (m.cells (.slice sA n1 sc) (.slice oA n2 oc) (.slice iA n3 ic)).toArray 35 (0, 0))) := heap_alloc_new _ _
  obtain ⟨W1, hW1⟩ : ∃ W1, W1 = w.alloc (.cells (m.cells (.slice sA n1 sc) (.slice oA n2 oc) (.slice iA n3 ic)).toArray 35 (0, 0)) := ⟨_, rfl⟩
  have hs1 : W1.heap.size = w.heap.size + 1 := by rw [hW1, World.size_alloc]
  rw [← hW1] at HW1 HX1
  have HS : Hid (∀ w', Below (w.heap.size + 1) W1 w' → w'.heap[w.heap.size]? = some (.cells (m.cells (.slice sA n1 sc) (.slice oA n2 oc) (.slice iA n3 ic)).toArray 35 (0, 0))) := fun w' h => (h.block w.heap.size (by omega)).trans HX1.out
  have HSZ : Hid (∀ w', Below (w.heap.size + 1) W1 w' → (w.heap.size + 1) ≤ w'.heap.size) := fun w' h => by have h2 := h.size; omega
  have HLW : Hid (∀ w', Below (w.heap.size + 1) W1 w' → Later w w') := fun w' h => Below.trans HW1.out (Below.mono h (by omega))
  have HE := hide hW1
  have HS1 := hide hs1
  clear hs1 hW1
  go_enter Tryz.func8, Tryz.ntmps8
  go_wp2
  rw [← HE.out]
  have HT0 : Hid (Below (w.heap.size + 1) W1 W1.drew) := drew_below _ _
  refine wp_region_R (R := fun a c => Below (w.heap.size + 1) a c) (by kernel_rfl) ?_
  refine wpAnyR_take (pre_below (w.heap.size + 1)) (i := 0) (d := some 7) (v := ?vaa0) rfl rfl (by kernel_rfl) (by kernel_rfl) (by kernel_rfl) (fun _ _ _ h => h) (by rfl) ?yaa0 ?_
  case yaa0 => (intro w' hw'; go_simp; try (with_reducible rfl))
  simp only [Act.put]; try simp only [List.setIfInBounds_toArray]; try simp only [List.set_cons_zero, List.set_cons_succ]
  refine wpAnyR_take (pre_below (w.heap.size + 1)) (i := 1) (d := some 8) (v := .agg #[.int .i64 m.cview, .int .i64 m.cstub, .int .i64 m.csaga, .int .i64 m.cstep, .int .i64 m.ctry, .bool m.cback]) rfl rfl (by kernel_rfl) (by kernel_rfl) (by kernel_rfl) (fun _ _ _ h => h) (by rfl) ?yaa1 ?_
  case yaa1 => (intro w' hw'; exact exec_load_box 31 _ (by rfl) w.heap.size 26 (by rfl) 35 _ (HS.out w' (HT0.out.trans hw')) 6 _ Tryz.underlying31 (by rfl) (by kernel_rfl) [.int .i64 m.cview, .int .i64 m.cstub, .int .i64 m.csaga, .int .i64 m.cstep, .int .i64 m.ctry, .bool m.cback] (by rfl) (by rfl))
  simp only [Act.put]; try simp only [List.setIfInBounds_toArray]; try simp only [List.set_cons_zero, List.set_cons_succ]
  refine wpAnyR_take (pre_below (w.heap.size + 1)) (i := 2) (d := some 9) (v := ?vaa2) rfl rfl (by kernel_rfl) (by kernel_rfl) (by kernel_rfl) (fun _ _ _ h => h) (by rfl) ?yaa2 ?_
  case yaa2 => (intro w' hw'; go_simp; try (with_reducible rfl))
  simp only [Act.put]; try simp only [List.setIfInBounds_toArray]; try simp only [List.set_cons_zero, List.set_cons_succ]
  refine wpAnyR_take (pre_below (w.heap.size + 1)) (i := 3) (d := some 10) (v := .agg #[.int .i64 m.rerr, .int .i64 m.rsaga, .int .i64 m.rstate, .int .i64 m.rstep]) rfl rfl (by kernel_rfl) (by kernel_rfl) (by kernel_rfl) (fun _ _ _ h => h) (by rfl) ?yaa3 ?_
  case yaa3 => (intro w' hw'; exact exec_load_box 29 _ (by rfl) w.heap.size 22 (by rfl) 35 _ (HS.out w' (HT0.out.trans hw')) 4 _ Tryz.underlying29 (by rfl) (by kernel_rfl) [.int .i64 m.rerr, .int .i64 m.rsaga, .int .i64 m.rstate, .int .i64 m.rstep] (by rfl) (by rfl))
  simp only [Act.put]; try simp only [List.setIfInBounds_toArray]; try simp only [List.set_cons_zero, List.set_cons_succ]
  refine wpAnyR_two (i := 4) (j := 5) rfl rfl (by kernel_rfl) (by rfl) (by rfl) (fun K hK => ?_) (fun K hK => ?_)
  · go_simp
    obtain ⟨W2, hW2⟩ : ∃ W2, W2 = (W1.alloc (.cells #[.int .i64 0, .int .i64 0, .int .i64 0, .int .i64 0, .int .i64 0, .bool false] 31 (0, 0))).drew := ⟨_, rfl⟩
    rw [← hW2]
    have h2 : Below (w.heap.size + 1) W1.drew W2 := by rw [hW2]; exact (Below.refl (w.heap.size + 1) W1.drew).alloc (by show _ ≤ W1.heap.size; have := HS1.out; omega) _
    have X2 : Hid (W2.heap[W1.heap.size]? = some (.cells #[.int .i64 0, .int .i64 0, .int .i64 0, .int .i64 0, .int .i64 0, .bool false] 31 (0, 0))) := by show _ = _; rw [hW2]; exact heap_alloc_new W1 _
    have S2 : Hid (W2.heap.size = W1.heap.size + 1) := by show _ = _; rw [hW2]; exact World.size_alloc _ _
    have T2 : Hid (Below (w.heap.size + 1) W1 W2) := HT0.out.trans h2
    refine hK.out _ _ h2 ?_
    clear h2 hW2
    clear hK K
    try (simp only [Act.put]; try simp only [List.setIfInBounds_toArray]; try simp only [List.set_cons_zero, List.set_cons_succ])
    refine wpAnyR_only (i := 5) rfl (by kernel_rfl) (by rfl) fun K hK => ?_
    go_simp
    obtain ⟨W3, hW3⟩ : ∃ W3, W3 = W2.alloc (.cells #[.int .i64 0, .int .i64 0, .int .i64 0, .int .i64 0] 29 (0, 0)) := ⟨_, rfl⟩
    rw [← hW3]
    have h3 : Below (w.heap.size + 1) W2 W3 := by rw [hW3]; exact (Below.refl _ W2).alloc (by have h1 := HS1.out; have h2 := S2.out; omega) _
    have X3r : Hid (W3.heap[W2.heap.size]? = some (.cells #[.int .i64 0, .int .i64 0, .int .i64 0, .int .i64 0] 29 (0, 0))) := by show _ = _; rw [hW3]; exact heap_alloc_new W2 _
    have X3c : Hid (W3.heap[W1.heap.size]? = some (.cells #[.int .i64 0, .int .i64 0, .int .i64 0, .int .i64 0, .int .i64 0, .bool false] 31 (0, 0))) := by show _ = _; rw [hW3]; exact (Below.block (Later.alloc W2 _) _ (lt_of_block X2.out)).trans X2.out
    have T3 : Hid (Below (w.heap.size + 1) W1 W3) := T2.out.trans h3
    refine hK.out _ _ h3 ?_
    clear h3 hW3 X2
    clear hK K
    try (simp only [Act.put]; try simp only [List.setIfInBounds_toArray]; try simp only [List.set_cons_zero, List.set_cons_succ])
    refine wpAnyR_only (i := 6) rfl (by kernel_rfl) (by rfl) fun K hK => ?_
    refine wp_store_box 31 _ _ (by rfl) W1.heap.size 0 #[.int .i64 m.cview, .int .i64 m.cstub, .int .i64 m.csaga, .int .i64 m.cstep, .int .i64 m.ctry, .bool m.cback] (by rfl) (by rfl) 31 _ X3c.out (by kernel_rfl) (by exact Nat.le_of_ble_eq_true rfl) (by intro u hu; simp at hu; rcases hu with rfl | rfl | rfl | rfl | rfl | rfl <;> rfl) ?_
    intro W4 hb4 hg4
    have X4c : Hid (W4.heap[W1.heap.size]? = some (.cells #[.int .i64 m.cview, .int .i64 m.cstub, .int .i64 m.csaga, .int .i64 m.cstep, .int .i64 m.ctry, .bool m.cback] 31 (0, 0))) := hb4
    have X4r : Hid (W4.heap[W2.heap.size]? = some (.cells #[.int .i64 0, .int .i64 0, .int .i64 0, .int .i64 0] 29 (0, 0))) := (hg4.block _ (lt_of_block X3r.out) (by have := S2.out; simp; omega)).trans X3r.out
    have h4 : Below (w.heap.size + 1) W3 W4 := (Below.refl _ _).grown hg4 (HSZ.out _ T3.out) (fun k hk => by have := Option.some.inj hk; have := S2.out; have := HS1.out; omega)
    have T4 : Hid (Below (w.heap.size + 1) W1 W4) := T3.out.trans h4
    refine hK.out _ _ h4 ?_
    clear h4 hb4 hg4 X3c X3r
    clear hK K
    try simp only [Act.put]
    refine wpAnyR_only (i := 7) rfl (by kernel_rfl) (by rfl) fun K hK => ?_
    refine wp_store_box 29 _ _ (by rfl) W2.heap.size 0 #[.int .i64 m.rerr, .int .i64 m.rsaga, .int .i64 m.rstate, .int .i64 m.rstep] (by rfl) (by rfl) 29 _ X4r.out (by kernel_rfl) (by exact Nat.le_of_ble_eq_true rfl) (by intro u hu; simp at hu; rcases hu with rfl | rfl | rfl | rfl <;> rfl) ?_
    intro W5 hb5 hg5
    have HXR : Hid (W5.heap[W2.heap.size]? = some (.cells #[.int .i64 m.rerr, .int .i64 m.rsaga, .int .i64 m.rstate, .int .i64 m.rstep] 29 (0, 0))) := hb5
    have HXC : Hid (W5.heap[W1.heap.size]? = some (.cells #[.int .i64 m.cview, .int .i64 m.cstub, .int .i64 m.csaga, .int .i64 m.cstep, .int .i64 m.ctry, .bool m.cback] 31 (0, 0))) := (hg5.block _ (lt_of_block X4c.out) (by have := S2.out; simp; omega)).trans X4c.out
    have h5 : Below (w.heap.size + 1) W4 W5 := (Below.refl _ _).grown hg5 (HSZ.out _ T4.out) (fun k hk => by have := Option.some.inj hk; have := S2.out; have := HS1.out; omega)
    have HT5 : Hid (Below (w.heap.size + 1) W1 W5) := T4.out.trans h5
    refine hK.out _ _ h5 ?_
    clear h5 hb5 hg5 X4c X4r T2 T3 T4
    clear hK K
    try simp only [Act.put]
    refine wpAnyR_done (by kernel_rfl) ?_ _
    have c0 : W5.cell? ⟨w.heap.size, 0, none⟩ = some (.int .i64 m.kind) := box_at (HS.out _ HT5.out) 0 _ rfl
    have c1 : W5.cell? ⟨w.heap.size, 1, none⟩ = some (.int .i64 m.src) := box_at (HS.out _ HT5.out) 1 _ rfl
    have c2 : W5.cell? ⟨w.heap.size, 2, none⟩ = some (.int .i64 m.dst) := box_at (HS.out _ HT5.out) 2 _ rfl
    have c3 : W5.cell? ⟨w.heap.size, 3, none⟩ = some (.int .i64 m.view) := box_at (HS.out _ HT5.out) 3 _ rfl
    have c4 : W5.cell? ⟨w.heap.size, 4, none⟩ = some (.int .i64 m.last) := box_at (HS.out _ HT5.out) 4 _ rfl
    have c5 : W5.cell? ⟨w.heap.size, 5, none⟩ = some (.int .i64 m.num) := box_at (HS.out _ HT5.out) 5 _ rfl
    have c6 : W5.cell? ⟨w.heap.size, 6, none⟩ = some (.int .i64 m.commit) := box_at (HS.out _ HT5.out) 6 _ rfl
    have c7 : W5.cell? ⟨w.heap.size, 7, none⟩ = some (.int .i64 m.nonce) := box_at (HS.out _ HT5.out) 7 _ rfl
    have c8 : W5.cell? ⟨w.heap.size, 8, none⟩ = some (.int .i64 m.request) := box_at (HS.out _ HT5.out) 8 _ rfl
    by_cases k0 : m.kind < 1
    · have K0 := hide k0
      go_wp2
      go_ret
      exact ⟨ret_bool (by unfold msgG; rw [msgG0_parts]; rw [decide_eq_false (Int.not_le.2 K0.out)]; simp), HLW.out _ HT5.out⟩
    by_cases k1 : 14 < m.kind
    · have K1 := hide k1
      go_wp2
      go_ret
      exact ⟨ret_bool (by unfold msgG; rw [msgG0_parts]; rw [decide_eq_false (Int.not_le.2 K1.out)]; simp), HLW.out _ HT5.out⟩
    have K0 := hide (Int.not_lt.1 k0)
    have K1 := hide (Int.not_lt.1 k1)
    have r1 : W5.cell? ⟨W2.heap.size, 1, none⟩ = some (.int .i64 m.rsaga) := box_at HXR.out 1 _ rfl
    have r2 : W5.cell? ⟨W2.heap.size, 2, none⟩ = some (.int .i64 m.rstate) := box_at HXR.out 2 _ rfl
    have r3 : W5.cell? ⟨W2.heap.size, 3, none⟩ = some (.int .i64 m.rstep) := box_at HXR.out 3 _ rfl
    have d0 : W5.cell? ⟨W1.heap.size, 0, none⟩ = some (.int .i64 m.cview) := box_at HXC.out 0 _ rfl
    have d1 : W5.cell? ⟨W1.heap.size, 1, none⟩ = some (.int .i64 m.cstub) := box_at HXC.out 1 _ rfl
    have d2 : W5.cell? ⟨W1.heap.size, 2, none⟩ = some (.int .i64 m.csaga) := box_at HXC.out 2 _ rfl
    have d3 : W5.cell? ⟨W1.heap.size, 3, none⟩ = some (.int .i64 m.cstep) := box_at HXC.out 3 _ rfl
    have d4 : W5.cell? ⟨W1.heap.size, 4, none⟩ = some (.int .i64 m.ctry) := box_at HXC.out 4 _ rfl
    obtain ⟨t, ht⟩ : ∃ t, (m16 m).all mayB = t := ⟨_, rfl⟩
    have C := rmay_any (incs_new (m16 m) W5 (by show 16 ≤ 1000; omega)) rfl
    rw [ht] at C
    unfold m16 at C
    simp only [List.map_cons, List.map_nil, List.length_cons, List.length_nil, Nat.zero_add, Nat.reduceAdd] at C
    have HC := hide C
    have HT16 := hide ht
    clear C ht
    go_wp2_with (fail)
    clear c0 c1 c2 c3 c4 c5 c6 c7 c8 r1 r2 r3 d0 d1 d2 d3 d4
    refine HC.out.mono ?_
    rintro e w6 ⟨rfl, hw6⟩
    have HT6 : Hid (Below (w.heap.size + 1) W1 w6) := by rw [hw6]; exact HT5.out.trans ((Below.refl _ _).alloc (HSZ.out _ HT5.out) _)
    have r0 : w6.cell? ⟨W2.heap.size, 0, none⟩ = some (.int .i64 m.rerr) := box_at (by rw [hw6]; exact (Below.block (Later.alloc W5 _) _ (lt_of_block HXR.out)).trans HXR.out) 0 _ rfl
    clear hw6 HC HXR HXC HT5
    cases t
    · clear r0
      go_wp2
      go_ret
      exact ⟨ret_bool (by unfold msgG; rw [msgG0_parts]; rw [HT16.out]; simp), HLW.out _ HT6.out⟩
    by_cases e0 : m.rerr < 0
    · have E0 := hide e0
      go_wp2
      go_ret
      exact ⟨ret_bool (by unfold msgG; rw [msgG0_parts]; rw [decide_eq_false (Int.not_le.2 E0.out)]; simp), HLW.out _ HT6.out⟩
    by_cases e1 : 15 < m.rerr
    · have E1 := hide e1
      go_wp2
      go_ret
      exact ⟨ret_bool (by unfold msgG; rw [msgG0_parts]; rw [decide_eq_false (Int.not_le.2 E1.out)]; simp), HLW.out _ HT6.out⟩
    have E0 := hide (Int.not_lt.1 e0)
    have E1 := hide (Int.not_lt.1 e1)
    have c12 : w6.cell? ⟨w.heap.size, 12, none⟩ = some (.int .i64 m.op.kind) := box_at (HS.out _ HT6.out) 12 _ rfl
    have c13 : w6.cell? ⟨w.heap.size, 13, none⟩ = some (.int .i64 m.op.client) := box_at (HS.out _ HT6.out) 13 _ rfl
    have c14 : w6.cell? ⟨w.heap.size, 14, none⟩ = some (.int .i64 m.op.request) := box_at (HS.out _ HT6.out) 14 _ rfl
    have c15 : w6.cell? ⟨w.heap.size, 15, none⟩ = some (.string m.op.name) := box_at (HS.out _ HT6.out) 15 _ rfl
    have c16 : w6.cell? ⟨w.heap.size, 16, none⟩ = some (.slice sA n1 sc) := box_at (HS.out _ HT6.out) 16 _ rfl
    have c17 : w6.cell? ⟨w.heap.size, 17, none⟩ = some (.int .i64 m.op.saga) := box_at (HS.out _ HT6.out) 17 _ rfl
    have c18 : w6.cell? ⟨w.heap.size, 18, none⟩ = some (.int .i64 m.op.step) := box_at (HS.out _ HT6.out) 18 _ rfl
    have c19 : w6.cell? ⟨w.heap.size, 19, none⟩ = some (.int .i64 m.op.try_) := box_at (HS.out _ HT6.out) 19 _ rfl
    have c20 : w6.cell? ⟨w.heap.size, 20, none⟩ = some (.bool m.op.back) := box_at (HS.out _ HT6.out) 20 _ rfl
    have c21 : w6.cell? ⟨w.heap.size, 21, none⟩ = some (.bool m.op.good) := box_at (HS.out _ HT6.out) 21 _ rfl
    obtain ⟨td, htd⟩ : ∃ t, opG m.op = t := ⟨_, rfl⟩
    have CG := hide (rgoodop_any (x := m.op) (sc := sc) (HST.out.kept (Kept.of_below (HLW.out _ HT6.out) F)) HN1.out.symm)
    rw [htd] at CG
    have HTD := hide htd
    clear htd
    go_wp2_with (fail)
    clear r0 c12 c13 c14 c15 c16 c17 c18 c19 c20 c21
    refine CG.out.mono ?_
    rintro e w7 ⟨rfl, hl⟩
    have HT7 : Hid (Below (w.heap.size + 1) W1 w7) := HT6.out.trans (Below.mono hl (HSZ.out _ HT6.out))
    clear hl CG HT6
    cases td
    · go_wp2
      go_ret
      exact ⟨ret_bool (by unfold msgG; rw [msgG0_parts]; rw [HTD.out]; simp), HLW.out _ HT7.out⟩
    have c33 : w7.cell? ⟨w.heap.size, 33, none⟩ = some (.slice iA n3 ic) := box_at (HS.out _ HT7.out) 33 _ rfl
    by_cases k5 : 5 < n3
    · have K5 : Hid (¬ m.incs.length ≤ 5) := by show ¬ _; rw [HN3.out]; omega
      go_wp2
      go_ret
      exact ⟨ret_bool (by unfold msgG; rw [msgG0_parts]; rw [decide_eq_false K5.out]; simp), HLW.out _ HT7.out⟩
    have K5 : Hid (m.incs.length ≤ 5) := by show _ ≤ _; rw [HN3.out]; omega
    obtain ⟨tf, htf⟩ : ∃ t, m.incs.all mayB = t := ⟨_, rfl⟩
    have CI := hide (rmay_any (HIN.out.kept (Kept.of_below (HLW.out _ HT7.out) F)) HN3.out.symm)
    rw [htf] at CI
    have HTF := hide htf
    clear htf
    go_wp2_with (fail)
    refine CI.out.mono ?_
    rintro e w8 ⟨rfl, hq⟩
    obtain rfl := hq.symm
    clear CI
    cases tf
    · clear c33
      go_wp2
      go_ret
      exact ⟨ret_bool (by unfold msgG; rw [msgG0_parts]; rw [HTF.out]; simp), HLW.out _ HT7.out⟩
    have c32 : w7.cell? ⟨w.heap.size, 32, none⟩ = some (.slice oA n2 oc) := box_at (HS.out _ HT7.out) 32 _ rfl
    go_wp2
    clear c32 c33
    obtain ⟨In, hIn⟩ : ∃ In : World → Prop, ∀ w2, In w2 ↔ Below (w.heap.size + 1) W1 w2 := ⟨_, fun _ => Iff.rfl⟩
    have HI := hide hIn
    clear hIn
    go_loopw [85] (fun j wr => ∃ q : Nat, q ≤ n2 ∧ j = .int .i64 (q : Int) ∧ (m.ops.take q).all opG = true ∧ In wr) (fun j _ => n2 - (Go.RowKit.intOf j).toNat)
    case atStart => exact ⟨0, by omega, rfl, rfl, (HI.out _).2 HT7.out⟩
    case round =>
      obtain ⟨q, hq, rfl, hall, hin⟩ := hrel
      have HA := hide hall
      have HB := hide ((HI.out _).1 hin)
      have HLB := hide (HLW.out _ ((HI.out _).1 hin))
      clear hall hin
      by_cases hlt : q < n2
      · obtain ⟨x, xs, b, off, oc2, hpk, hv, _, _, _, hr, hst⟩ := OpsIn.at_ (HOP.out.kept (Kept.of_below HLB.out F)) (i := q) (by rw [HN2.out]; exact hlt)
        obtain ⟨rfl, rfl⟩ : oA = some ⟨b, off, none⟩ ∧ oc = oc2 := by injection hv with e1 _ e3; exact ⟨e1, e3⟩
        obtain ⟨xA, xc, rfl, _, _, _⟩ := FlatAt.shape hst
        have hok : m.ops[q]? = some x := by rw [← HPS.out, List.getElem?_map, hpk]; rfl
        have HOK := hide hok
        obtain ⟨nx, hnx⟩ : ∃ n, x.steps.length = n := ⟨_, rfl⟩
        rw [hnx] at hr hst
        obtain ⟨r0, r1, r2, r3, r4, r5, r6, r7, r8, r9⟩ := range_op hr
        have hstk := hst.kept (Kept.of_below (Later.alloc wr (.cells (x.cells (.slice xA nx xc)).toArray 26 (0, 0))) F)
        obtain ⟨tx, htx⟩ : ∃ t, opG x = t := ⟨_, rfl⟩
        have C := hide (rgoodop_any (x := x) (sc := xc) hstk hnx.symm)
        rw [htx] at C
        have HTX := hide htx
        have HTo : Hid (Below (w.heap.size + 1) _ (wr.alloc (.cells (x.cells (.slice xA nx xc)).toArray 26 (0, 0)))) := HB.out.trans ((Below.refl _ _).alloc (HSZ.out _ HB.out) _)
        clear hpk hv hr hst hok hstk hnx htx
        go_wp2_with (fail)
        clear r0 r1 r2 r3 r4 r5 r6 r7 r8 r9
        refine C.out.mono ?_
        rintro e wn ⟨rfl, hl⟩
        have HTn := hide (HTo.out.trans (Below.mono hl (HSZ.out _ HTo.out)))
        clear hl C
        cases tx
        · have hno : m.ops.all opG = false := by
            rw [Bool.eq_false_iff]
            intro h2
            rw [List.all_eq_true] at h2
            have h3 := h2 x (List.mem_of_getElem? HOK.out)
            rw [HTX.out] at h3
            cases h3
          have HNO2 := hide hno
          clear hno
          go_wp2
          go_ret
          exact ⟨ret_bool (by unfold msgG; rw [msgG0_parts]; rw [HNO2.out]; simp), HLW.out _ HTn.out⟩
        have hnx : (m.ops.take (q + 1)).all opG = true := by
          rw [List.take_add_one, HOK.out, List.all_append, HA.out]
          simp [HTX.out]
        have HNX := hide hnx
        clear hnx
        go_wp2
        go_roundw
        case rel => exact ⟨q + 1, by omega, by go_num, HNX.out, (HI.out _).2 HTn.out⟩
        case measure => simp [Go.RowKit.intOf]; omega
      · obtain rfl : q = n2 := by omega
        have hall : m.ops.all opG = true := by
          have h1 := HA.out
          rwa [List.take_of_length_le (by have h1 := HPN.out; have h2 := HN2.out; omega)] at h1
        have h0 : msgG0 m = true := by rw [msgG0_parts, HT16.out, HTD.out, HTF.out, hall, decide_eq_true K0.out, decide_eq_true K1.out, decide_eq_true E0.out, decide_eq_true E1.out, decide_eq_true K5.out]; rfl
        have H0 := hide h0
        have CN := hide (rinner_any (HLS.out.kept (Kept.of_below HLB.out F)) HWF.out (opG_sm HTD.out) (fun x hx => opG_sm (List.all_eq_true.1 hall x hx)) HNO.out HNI.out)
        have hn9 := inn_msg_room (opG_sm HTD.out) (fun x hx => opG_sm (List.all_eq_true.1 hall x hx)) HNO.out HNI.out
        have hlen : (msgB m).length ≤ 10000000 := Nat.le_trans (prec_len (msgF m)) hn9
        have HLEN := hide hlen
        have HXW := hide (HS.out _ HB.out)
        clear hall h0 hn9 hlen
        go_wp2_with (refine wpList_load_box (by rfl) 35 _ (by rfl) w.heap.size 0 (by rfl) 35 _ (HXW.out) 34 _ Tryz.underlying35 (by rfl) (by kernel_rfl) (m.cells (.slice sA n1 sc) (.slice oA q oc) (.slice iA n3 ic)) (by rfl) (by rfl) ?_)
        refine CN.out.mono ?_
        rintro e wz ⟨A9, n9, c9, rfl, _, hh, _, hb⟩
        have HZ : Hid ((msgB m).length = n9) := hh.1
        have HTz := hide (HLB.out.trans hb)
        have hn9 : n9 ≤ 10000000 := by rw [← HZ.out]; exact HLEN.out
        clear hh hb CN
        go_wp2
        go_ret
        exact ⟨ret_bool (by unfold msgG; rw [H0.out, HZ.out, Bool.true_and]; by_cases h : n9 ≤ 65536 <;> simp [h] <;> omega), HTz.out⟩
  · go_simp
    obtain ⟨W2, hW2⟩ : ∃ W2, W2 = (W1.alloc (.cells #[.int .i64 0, .int .i64 0, .int .i64 0, .int .i64 0] 29 (0, 0))).drew := ⟨_, rfl⟩
    rw [← hW2]
    have h2 : Below (w.heap.size + 1) W1.drew W2 := by rw [hW2]; exact (Below.refl (w.heap.size + 1) W1.drew).alloc (by show _ ≤ W1.heap.size; have := HS1.out; omega) _
    have X2 : Hid (W2.heap[W1.heap.size]? = some (.cells #[.int .i64 0, .int .i64 0, .int .i64 0, .int .i64 0] 29 (0, 0))) := by show _ = _; rw [hW2]; exact heap_alloc_new W1 _
    have S2 : Hid (W2.heap.size = W1.heap.size + 1) := by show _ = _; rw [hW2]; exact World.size_alloc _ _
    have T2 : Hid (Below (w.heap.size + 1) W1 W2) := HT0.out.trans h2
    refine hK.out _ _ h2 ?_
    clear h2 hW2
    clear hK K
    try (simp only [Act.put]; try simp only [List.setIfInBounds_toArray]; try simp only [List.set_cons_zero, List.set_cons_succ])
    refine wpAnyR_only (i := 4) rfl (by kernel_rfl) (by rfl) fun K hK => ?_
    go_simp
    obtain ⟨W3, hW3⟩ : ∃ W3, W3 = W2.alloc (.cells #[.int .i64 0, .int .i64 0, .int .i64 0, .int .i64 0, .int .i64 0, .bool false] 31 (0, 0)) := ⟨_, rfl⟩
    rw [← hW3]
    have h3 : Below (w.heap.size + 1) W2 W3 := by rw [hW3]; exact (Below.refl _ W2).alloc (by have h1 := HS1.out; have h2 := S2.out; omega) _
    have X3c : Hid (W3.heap[W2.heap.size]? = some (.cells #[.int .i64 0, .int .i64 0, .int .i64 0, .int .i64 0, .int .i64 0, .bool false] 31 (0, 0))) := by show _ = _; rw [hW3]; exact heap_alloc_new W2 _
    have X3r : Hid (W3.heap[W1.heap.size]? = some (.cells #[.int .i64 0, .int .i64 0, .int .i64 0, .int .i64 0] 29 (0, 0))) := by show _ = _; rw [hW3]; exact (Below.block (Later.alloc W2 _) _ (lt_of_block X2.out)).trans X2.out
    have T3 : Hid (Below (w.heap.size + 1) W1 W3) := T2.out.trans h3
    refine hK.out _ _ h3 ?_
    clear h3 hW3 X2
    clear hK K
    try (simp only [Act.put]; try simp only [List.setIfInBounds_toArray]; try simp only [List.set_cons_zero, List.set_cons_succ])
    refine wpAnyR_only (i := 6) rfl (by kernel_rfl) (by rfl) fun K hK => ?_
    refine wp_store_box 31 _ _ (by rfl) W2.heap.size 0 #[.int .i64 m.cview, .int .i64 m.cstub, .int .i64 m.csaga, .int .i64 m.cstep, .int .i64 m.ctry, .bool m.cback] (by rfl) (by rfl) 31 _ X3c.out (by kernel_rfl) (by exact Nat.le_of_ble_eq_true rfl) (by intro u hu; simp at hu; rcases hu with rfl | rfl | rfl | rfl | rfl | rfl <;> rfl) ?_
    intro W4 hb4 hg4
    have X4c : Hid (W4.heap[W2.heap.size]? = some (.cells #[.int .i64 m.cview, .int .i64 m.cstub, .int .i64 m.csaga, .int .i64 m.cstep, .int .i64 m.ctry, .bool m.cback] 31 (0, 0))) := hb4
    have X4r : Hid (W4.heap[W1.heap.size]? = some (.cells #[.int .i64 0, .int .i64 0, .int .i64 0, .int .i64 0] 29 (0, 0))) := (hg4.block _ (lt_of_block X3r.out) (by have := S2.out; simp; omega)).trans X3r.out
    have h4 : Below (w.heap.size + 1) W3 W4 := (Below.refl _ _).grown hg4 (HSZ.out _ T3.out) (fun k hk => by have := Option.some.inj hk; have := S2.out; have := HS1.out; omega)
    have T4 : Hid (Below (w.heap.size + 1) W1 W4) := T3.out.trans h4
    refine hK.out _ _ h4 ?_
    clear h4 hb4 hg4 X3c X3r
    clear hK K
    try simp only [Act.put]
    refine wpAnyR_only (i := 7) rfl (by kernel_rfl) (by rfl) fun K hK => ?_
    refine wp_store_box 29 _ _ (by rfl) W1.heap.size 0 #[.int .i64 m.rerr, .int .i64 m.rsaga, .int .i64 m.rstate, .int .i64 m.rstep] (by rfl) (by rfl) 29 _ X4r.out (by kernel_rfl) (by exact Nat.le_of_ble_eq_true rfl) (by intro u hu; simp at hu; rcases hu with rfl | rfl | rfl | rfl <;> rfl) ?_
    intro W5 hb5 hg5
    have HXR : Hid (W5.heap[W1.heap.size]? = some (.cells #[.int .i64 m.rerr, .int .i64 m.rsaga, .int .i64 m.rstate, .int .i64 m.rstep] 29 (0, 0))) := hb5
    have HXC : Hid (W5.heap[W2.heap.size]? = some (.cells #[.int .i64 m.cview, .int .i64 m.cstub, .int .i64 m.csaga, .int .i64 m.cstep, .int .i64 m.ctry, .bool m.cback] 31 (0, 0))) := (hg5.block _ (lt_of_block X4c.out) (by have := S2.out; simp; omega)).trans X4c.out
    have h5 : Below (w.heap.size + 1) W4 W5 := (Below.refl _ _).grown hg5 (HSZ.out _ T4.out) (fun k hk => by have := Option.some.inj hk; have := S2.out; have := HS1.out; omega)
    have HT5 : Hid (Below (w.heap.size + 1) W1 W5) := T4.out.trans h5
    refine hK.out _ _ h5 ?_
    clear h5 hb5 hg5 X4c X4r T2 T3 T4
    clear hK K
    try simp only [Act.put]
    refine wpAnyR_done (by kernel_rfl) ?_ _
    have c0 : W5.cell? ⟨w.heap.size, 0, none⟩ = some (.int .i64 m.kind) := box_at (HS.out _ HT5.out) 0 _ rfl
    have c1 : W5.cell? ⟨w.heap.size, 1, none⟩ = some (.int .i64 m.src) := box_at (HS.out _ HT5.out) 1 _ rfl
    have c2 : W5.cell? ⟨w.heap.size, 2, none⟩ = some (.int .i64 m.dst) := box_at (HS.out _ HT5.out) 2 _ rfl
    have c3 : W5.cell? ⟨w.heap.size, 3, none⟩ = some (.int .i64 m.view) := box_at (HS.out _ HT5.out) 3 _ rfl
    have c4 : W5.cell? ⟨w.heap.size, 4, none⟩ = some (.int .i64 m.last) := box_at (HS.out _ HT5.out) 4 _ rfl
    have c5 : W5.cell? ⟨w.heap.size, 5, none⟩ = some (.int .i64 m.num) := box_at (HS.out _ HT5.out) 5 _ rfl
    have c6 : W5.cell? ⟨w.heap.size, 6, none⟩ = some (.int .i64 m.commit) := box_at (HS.out _ HT5.out) 6 _ rfl
    have c7 : W5.cell? ⟨w.heap.size, 7, none⟩ = some (.int .i64 m.nonce) := box_at (HS.out _ HT5.out) 7 _ rfl
    have c8 : W5.cell? ⟨w.heap.size, 8, none⟩ = some (.int .i64 m.request) := box_at (HS.out _ HT5.out) 8 _ rfl
    by_cases k0 : m.kind < 1
    · have K0 := hide k0
      go_wp2
      go_ret
      exact ⟨ret_bool (by unfold msgG; rw [msgG0_parts]; rw [decide_eq_false (Int.not_le.2 K0.out)]; simp), HLW.out _ HT5.out⟩
    by_cases k1 : 14 < m.kind
    · have K1 := hide k1
      go_wp2
      go_ret
      exact ⟨ret_bool (by unfold msgG; rw [msgG0_parts]; rw [decide_eq_false (Int.not_le.2 K1.out)]; simp), HLW.out _ HT5.out⟩
    have K0 := hide (Int.not_lt.1 k0)
    have K1 := hide (Int.not_lt.1 k1)
    have r1 : W5.cell? ⟨W1.heap.size, 1, none⟩ = some (.int .i64 m.rsaga) := box_at HXR.out 1 _ rfl
    have r2 : W5.cell? ⟨W1.heap.size, 2, none⟩ = some (.int .i64 m.rstate) := box_at HXR.out 2 _ rfl
    have r3 : W5.cell? ⟨W1.heap.size, 3, none⟩ = some (.int .i64 m.rstep) := box_at HXR.out 3 _ rfl
    have d0 : W5.cell? ⟨W2.heap.size, 0, none⟩ = some (.int .i64 m.cview) := box_at HXC.out 0 _ rfl
    have d1 : W5.cell? ⟨W2.heap.size, 1, none⟩ = some (.int .i64 m.cstub) := box_at HXC.out 1 _ rfl
    have d2 : W5.cell? ⟨W2.heap.size, 2, none⟩ = some (.int .i64 m.csaga) := box_at HXC.out 2 _ rfl
    have d3 : W5.cell? ⟨W2.heap.size, 3, none⟩ = some (.int .i64 m.cstep) := box_at HXC.out 3 _ rfl
    have d4 : W5.cell? ⟨W2.heap.size, 4, none⟩ = some (.int .i64 m.ctry) := box_at HXC.out 4 _ rfl
    obtain ⟨t, ht⟩ : ∃ t, (m16 m).all mayB = t := ⟨_, rfl⟩
    have C := rmay_any (incs_new (m16 m) W5 (by show 16 ≤ 1000; omega)) rfl
    rw [ht] at C
    unfold m16 at C
    simp only [List.map_cons, List.map_nil, List.length_cons, List.length_nil, Nat.zero_add, Nat.reduceAdd] at C
    have HC := hide C
    have HT16 := hide ht
    clear C ht
    go_wp2_with (fail)
    clear c0 c1 c2 c3 c4 c5 c6 c7 c8 r1 r2 r3 d0 d1 d2 d3 d4
    refine HC.out.mono ?_
    rintro e w6 ⟨rfl, hw6⟩
    have HT6 : Hid (Below (w.heap.size + 1) W1 w6) := by rw [hw6]; exact HT5.out.trans ((Below.refl _ _).alloc (HSZ.out _ HT5.out) _)
    have r0 : w6.cell? ⟨W1.heap.size, 0, none⟩ = some (.int .i64 m.rerr) := box_at (by rw [hw6]; exact (Below.block (Later.alloc W5 _) _ (lt_of_block HXR.out)).trans HXR.out) 0 _ rfl
    clear hw6 HC HXR HXC HT5
    cases t
    · clear r0
      go_wp2
      go_ret
      exact ⟨ret_bool (by unfold msgG; rw [msgG0_parts]; rw [HT16.out]; simp), HLW.out _ HT6.out⟩
    by_cases e0 : m.rerr < 0
    · have E0 := hide e0
      go_wp2
      go_ret
      exact ⟨ret_bool (by unfold msgG; rw [msgG0_parts]; rw [decide_eq_false (Int.not_le.2 E0.out)]; simp), HLW.out _ HT6.out⟩
    by_cases e1 : 15 < m.rerr
    · have E1 := hide e1
      go_wp2
      go_ret
      exact ⟨ret_bool (by unfold msgG; rw [msgG0_parts]; rw [decide_eq_false (Int.not_le.2 E1.out)]; simp), HLW.out _ HT6.out⟩
    have E0 := hide (Int.not_lt.1 e0)
    have E1 := hide (Int.not_lt.1 e1)
    have c12 : w6.cell? ⟨w.heap.size, 12, none⟩ = some (.int .i64 m.op.kind) := box_at (HS.out _ HT6.out) 12 _ rfl
    have c13 : w6.cell? ⟨w.heap.size, 13, none⟩ = some (.int .i64 m.op.client) := box_at (HS.out _ HT6.out) 13 _ rfl
    have c14 : w6.cell? ⟨w.heap.size, 14, none⟩ = some (.int .i64 m.op.request) := box_at (HS.out _ HT6.out) 14 _ rfl
    have c15 : w6.cell? ⟨w.heap.size, 15, none⟩ = some (.string m.op.name) := box_at (HS.out _ HT6.out) 15 _ rfl
    have c16 : w6.cell? ⟨w.heap.size, 16, none⟩ = some (.slice sA n1 sc) := box_at (HS.out _ HT6.out) 16 _ rfl
    have c17 : w6.cell? ⟨w.heap.size, 17, none⟩ = some (.int .i64 m.op.saga) := box_at (HS.out _ HT6.out) 17 _ rfl
    have c18 : w6.cell? ⟨w.heap.size, 18, none⟩ = some (.int .i64 m.op.step) := box_at (HS.out _ HT6.out) 18 _ rfl
    have c19 : w6.cell? ⟨w.heap.size, 19, none⟩ = some (.int .i64 m.op.try_) := box_at (HS.out _ HT6.out) 19 _ rfl
    have c20 : w6.cell? ⟨w.heap.size, 20, none⟩ = some (.bool m.op.back) := box_at (HS.out _ HT6.out) 20 _ rfl
    have c21 : w6.cell? ⟨w.heap.size, 21, none⟩ = some (.bool m.op.good) := box_at (HS.out _ HT6.out) 21 _ rfl
    obtain ⟨td, htd⟩ : ∃ t, opG m.op = t := ⟨_, rfl⟩
    have CG := hide (rgoodop_any (x := m.op) (sc := sc) (HST.out.kept (Kept.of_below (HLW.out _ HT6.out) F)) HN1.out.symm)
    rw [htd] at CG
    have HTD := hide htd
    clear htd
    go_wp2_with (fail)
    clear r0 c12 c13 c14 c15 c16 c17 c18 c19 c20 c21
    refine CG.out.mono ?_
    rintro e w7 ⟨rfl, hl⟩
    have HT7 : Hid (Below (w.heap.size + 1) W1 w7) := HT6.out.trans (Below.mono hl (HSZ.out _ HT6.out))
    clear hl CG HT6
    cases td
    · go_wp2
      go_ret
      exact ⟨ret_bool (by unfold msgG; rw [msgG0_parts]; rw [HTD.out]; simp), HLW.out _ HT7.out⟩
    have c33 : w7.cell? ⟨w.heap.size, 33, none⟩ = some (.slice iA n3 ic) := box_at (HS.out _ HT7.out) 33 _ rfl
    by_cases k5 : 5 < n3
    · have K5 : Hid (¬ m.incs.length ≤ 5) := by show ¬ _; rw [HN3.out]; omega
      go_wp2
      go_ret
      exact ⟨ret_bool (by unfold msgG; rw [msgG0_parts]; rw [decide_eq_false K5.out]; simp), HLW.out _ HT7.out⟩
    have K5 : Hid (m.incs.length ≤ 5) := by show _ ≤ _; rw [HN3.out]; omega
    obtain ⟨tf, htf⟩ : ∃ t, m.incs.all mayB = t := ⟨_, rfl⟩
    have CI := hide (rmay_any (HIN.out.kept (Kept.of_below (HLW.out _ HT7.out) F)) HN3.out.symm)
    rw [htf] at CI
    have HTF := hide htf
    clear htf
    go_wp2_with (fail)
    refine CI.out.mono ?_
    rintro e w8 ⟨rfl, hq⟩
    obtain rfl := hq.symm
    clear CI
    cases tf
    · clear c33
      go_wp2
      go_ret
      exact ⟨ret_bool (by unfold msgG; rw [msgG0_parts]; rw [HTF.out]; simp), HLW.out _ HT7.out⟩
    have c32 : w7.cell? ⟨w.heap.size, 32, none⟩ = some (.slice oA n2 oc) := box_at (HS.out _ HT7.out) 32 _ rfl
    go_wp2
    clear c32 c33
    obtain ⟨In, hIn⟩ : ∃ In : World → Prop, ∀ w2, In w2 ↔ Below (w.heap.size + 1) W1 w2 := ⟨_, fun _ => Iff.rfl⟩
    have HI := hide hIn
    clear hIn
    go_loopw [85] (fun j wr => ∃ q : Nat, q ≤ n2 ∧ j = .int .i64 (q : Int) ∧ (m.ops.take q).all opG = true ∧ In wr) (fun j _ => n2 - (Go.RowKit.intOf j).toNat)
    case atStart => exact ⟨0, by omega, rfl, rfl, (HI.out _).2 HT7.out⟩
    case round =>
      obtain ⟨q, hq, rfl, hall, hin⟩ := hrel
      have HA := hide hall
      have HB := hide ((HI.out _).1 hin)
      have HLB := hide (HLW.out _ ((HI.out _).1 hin))
      clear hall hin
      by_cases hlt : q < n2
      · obtain ⟨x, xs, b, off, oc2, hpk, hv, _, _, _, hr, hst⟩ := OpsIn.at_ (HOP.out.kept (Kept.of_below HLB.out F)) (i := q) (by rw [HN2.out]; exact hlt)
        obtain ⟨rfl, rfl⟩ : oA = some ⟨b, off, none⟩ ∧ oc = oc2 := by injection hv with e1 _ e3; exact ⟨e1, e3⟩
        obtain ⟨xA, xc, rfl, _, _, _⟩ := FlatAt.shape hst
        have hok : m.ops[q]? = some x := by rw [← HPS.out, List.getElem?_map, hpk]; rfl
        have HOK := hide hok
        obtain ⟨nx, hnx⟩ : ∃ n, x.steps.length = n := ⟨_, rfl⟩
        rw [hnx] at hr hst
        obtain ⟨r0, r1, r2, r3, r4, r5, r6, r7, r8, r9⟩ := range_op hr
        have hstk := hst.kept (Kept.of_below (Later.alloc wr (.cells (x.cells (.slice xA nx xc)).toArray 26 (0, 0))) F)
        obtain ⟨tx, htx⟩ : ∃ t, opG x = t := ⟨_, rfl⟩
        have C := hide (rgoodop_any (x := x) (sc := xc) hstk hnx.symm)
        rw [htx] at C
        have HTX := hide htx
        have HTo : Hid (Below (w.heap.size + 1) _ (wr.alloc (.cells (x.cells (.slice xA nx xc)).toArray 26 (0, 0)))) := HB.out.trans ((Below.refl _ _).alloc (HSZ.out _ HB.out) _)
        clear hpk hv hr hst hok hstk hnx htx
        go_wp2_with (fail)
        clear r0 r1 r2 r3 r4 r5 r6 r7 r8 r9
        refine C.out.mono ?_
        rintro e wn ⟨rfl, hl⟩
        have HTn := hide (HTo.out.trans (Below.mono hl (HSZ.out _ HTo.out)))
        clear hl C
        cases tx
        · have hno : m.ops.all opG = false := by
            rw [Bool.eq_false_iff]
            intro h2
            rw [List.all_eq_true] at h2
            have h3 := h2 x (List.mem_of_getElem? HOK.out)
            rw [HTX.out] at h3
            cases h3
          have HNO2 := hide hno
          clear hno
          go_wp2
          go_ret
          exact ⟨ret_bool (by unfold msgG; rw [msgG0_parts]; rw [HNO2.out]; simp), HLW.out _ HTn.out⟩
        have hnx : (m.ops.take (q + 1)).all opG = true := by
          rw [List.take_add_one, HOK.out, List.all_append, HA.out]
          simp [HTX.out]
        have HNX := hide hnx
        clear hnx
        go_wp2
        go_roundw
        case rel => exact ⟨q + 1, by omega, by go_num, HNX.out, (HI.out _).2 HTn.out⟩
        case measure => simp [Go.RowKit.intOf]; omega
      · obtain rfl : q = n2 := by omega
        have hall : m.ops.all opG = true := by
          have h1 := HA.out
          rwa [List.take_of_length_le (by have h1 := HPN.out; have h2 := HN2.out; omega)] at h1
        have h0 : msgG0 m = true := by rw [msgG0_parts, HT16.out, HTD.out, HTF.out, hall, decide_eq_true K0.out, decide_eq_true K1.out, decide_eq_true E0.out, decide_eq_true E1.out, decide_eq_true K5.out]; rfl
        have H0 := hide h0
        have CN := hide (rinner_any (HLS.out.kept (Kept.of_below HLB.out F)) HWF.out (opG_sm HTD.out) (fun x hx => opG_sm (List.all_eq_true.1 hall x hx)) HNO.out HNI.out)
        have hn9 := inn_msg_room (opG_sm HTD.out) (fun x hx => opG_sm (List.all_eq_true.1 hall x hx)) HNO.out HNI.out
        have hlen : (msgB m).length ≤ 10000000 := Nat.le_trans (prec_len (msgF m)) hn9
        have HLEN := hide hlen
        have HXW := hide (HS.out _ HB.out)
        clear hall h0 hn9 hlen
        go_wp2_with (refine wpList_load_box (by rfl) 35 _ (by rfl) w.heap.size 0 (by rfl) 35 _ (HXW.out) 34 _ Tryz.underlying35 (by rfl) (by kernel_rfl) (m.cells (.slice sA n1 sc) (.slice oA q oc) (.slice iA n3 ic)) (by rfl) (by rfl) ?_)
        refine CN.out.mono ?_
        rintro e wz ⟨A9, n9, c9, rfl, _, hh, _, hb⟩
        have HZ : Hid ((msgB m).length = n9) := hh.1
        have HTz := hide (HLB.out.trans hb)
        have hn9 : n9 ≤ 10000000 := by rw [← HZ.out]; exact HLEN.out
        clear hh hb CN
        go_wp2
        go_ret
        exact ⟨ret_bool (by unfold msgG; rw [H0.out, HZ.out, Bool.true_and]; by_cases h : n9 ≤ 65536 <;> simp [h] <;> omega), HTz.out⟩
end Go.Proofs.YtehiaeihkdfclaaGreatDoor
/- The walk over droverref09.Bytes. -/
namespace Go.Proofs.YtehiaeihkdfclaaGreatDoor
open Go.RowKit

theorem msgG_bytes (m : MsgD) : msgG m = decide (bytesM m ≠ []) := by
  have h := @bytesM_some m
  unfold msgG
  rw [Bool.eq_iff_iff]
  simp only [Bool.and_eq_true, decide_eq_true_eq]
  exact h.symm

set_option maxHeartbeats 2000000 in
set_option maxRecDepth 100000 in
theorem rbytesm_any {F : Nat → Prop} {w : World} {m : MsgD} {s o i : Value} (hL : Lists F w m s o i) (hwf : m.wf) (hno : m.ops.length ≤ 200) (hni : m.incs.length ≤ 200) :
    Calls Tryz.prog 10 #[.agg (m.cells s o i).toArray] w (NewBytes w (bytesM m)) := by
  have hl : Later w (w.alloc (.cells (m.cells s o i).toArray 35 (0, 0))) := Later.alloc _ _
  have C := hide (rgoodm_any (hL.kept (Kept.of_below hl F)) hwf hno hni)
  have HX : Hid (∀ w', Later (w.alloc (.cells (m.cells s o i).toArray 35 (0, 0))) w' → w'.heap[w.heap.size]? = some (.cells (m.cells s o i).toArray 35 (0, 0))) := fun w' h => (Below.block h w.heap.size (by simp)).trans (heap_alloc_new _ _)
  have HX0 := hide (HX.out _ (Later.refl _))
  have HL := hide hl
  have HLS := hide hL
  have HWF := hide hwf
  have HNO := hide hno
  have HNI := hide hni
  obtain ⟨t, ht⟩ : ∃ t, msgG m = t := ⟨_, rfl⟩
  rw [ht] at C
  have HG := hide ht
  clear hL hwf hno hni hl ht
  go_enter Tryz.func10, Tryz.ntmps10
  go_wp2_with (refine wpList_load_box (by rfl) 35 _ (by rfl) w.heap.size 0 (by rfl) 35 _ HX0.out 34 _ Tryz.underlying35 (by rfl) (by kernel_rfl) (m.cells s o i) (by simp [List.take_of_length_le (Nat.le_of_eq (m.len s o i))]) (m.len s o i) ?_)
  refine C.out.mono ?_
  rintro e w1 ⟨rfl, l1⟩
  have HL1 := hide (HL.out.trans l1)
  have HX1 := hide (HX.out _ l1)
  clear l1 C
  cases t with
  | false =>
    go_wp2
    go_ret
    have e0 : bytesM m = [] := by
      have h := HG.out
      rw [msgG_bytes] at h
      simpa using h
    rw [e0]
    exact ⟨none, 0, 0, rfl, World.ownsRow_nil _ _ _ _, Holds.nil_ _ _, Nat.le_refl _, HL1.out⟩
  | true =>
    have hne : bytesM m ≠ [] := by
      have h := HG.out
      rw [msgG_bytes] at h
      simpa using h
    have h0 := (bytesM_some.1 hne).1
    have h0' := h0
    rw [msgG0_parts] at h0'
    simp only [Bool.and_eq_true] at h0'
    have hop : opG m.op = true := h0'.1.1.1.2
    have hops : m.ops.all opG = true := h0'.2
    have D := hide (rinner_any (HLS.out.kept (Kept.of_below HL1.out F)) HWF.out (opG_sm hop) (fun x hx => opG_sm (List.all_eq_true.1 hops x hx)) HNO.out HNI.out)
    have hlen := (bytesM_some.1 hne).2
    have HLEN := hide hlen
    have HIS := hide (bytesM_is hne)
    clear hne h0 h0' hop hops hlen
    go_wp2_with (refine wpList_load_box (by rfl) 35 _ (by rfl) w.heap.size 0 (by rfl) 35 _ HX1.out 34 _ Tryz.underlying35 (by rfl) (by kernel_rfl) (m.cells s o i) (by simp [List.take_of_length_le (Nat.le_of_eq (m.len s o i))]) (m.len s o i) ?_)
    refine D.out.mono ?_
    rintro e w2 ⟨A2, n2, c2, rfl, _, hh, _, hb⟩
    have hn : n2 ≤ 65536 := by have h := hh.1; have h2 := HLEN.out; omega
    have S := hide (refseal_any A2 n2 c2 w2.heap.size _ w2 hh (Nat.le_refl _) (by omega))
    have HL2 : Hid (Later w w2) := HL1.out.trans hb
    clear hh hb D hn
    go_wp2_with (fail)
    refine S.out.mono ?_
    rintro e w4 ⟨A3, n3, c3, rfl, ho, hh, hc, hb⟩
    have R := hide (NewBytes.of (w := w) ⟨A3, n3, c3, rfl, ho, hh, hc, hb⟩ HL2.out)
    clear ho hh hc hb S
    go_wp2
    go_ret
    rw [HIS.out]
    exact R.out
end Go.Proofs.YtehiaeihkdfclaaGreatDoor
/- A long chain of '&&' over fields of two structs, one conjunct at a time: the frame is known by four of its slots alone. -/
namespace Go.Proofs.YtehiaeihkdfclaaGreatDoor
open Go.RowKit

/-- The frame: two addresses in slots 2 and 3, and what holds so far in slot k. -/
structure Fr (X Y : Value) (k : Nat) (c : Bool) (n : Nat) (a : Act) : Prop where
  x : a.tmps[2]? = some X
  y : a.tmps[3]? = some Y
  c : a.tmps[k]? = some (.bool c)
  n : a.tmps.size = n
  d : a.defers = []
theorem put_tmps (a : Act) (d : Nat) (v : Value) (i : Nat) : (a.put (some d) v).tmps[i]? = if d = i then (if i < a.tmps.size then some v else none) else a.tmps[i]? := by
  show (a.tmps.setIfInBounds d v)[i]? = _
  rw [Array.getElem?_setIfInBounds]
  by_cases h : d = i
  · subst h
    simp
  · simp [h]
theorem put_same (a : Act) (d : Nat) (v : Value) (h : d < a.tmps.size) : (a.put (some d) v).tmps[d]? = some v := by rw [put_tmps, if_pos rfl, if_pos h]
theorem put_other (a : Act) (d : Nat) (v : Value) (i : Nat) (h : d ≠ i) : (a.put (some d) v).tmps[i]? = a.tmps[i]? := by rw [put_tmps, if_neg h]
theorem put_size (a : Act) (d : Nat) (v : Value) : (a.put (some d) v).tmps.size = a.tmps.size := by simp [Act.put]
theorem eval_of {a : Act} {i : Nat} {v : Value} (h : a.tmps[i]? = some v) : a.eval (.tmp i) = v := by
  show a.tmps.getD i undef = v
  rw [Array.getD_eq_getD_getElem?, h]
  rfl
/-- The same without a word of what holds so far. -/
structure Fr0 (X Y : Value) (n : Nat) (a : Act) : Prop where
  x : a.tmps[2]? = some X
  y : a.tmps[3]? = some Y
  n : a.tmps.size = n
  d : a.defers = []
section
variable {X Y : Value} {k n : Nat} {c : Bool} {a : Act}
theorem Fr0.put (h : Fr0 X Y n a) (d : Nat) (v : Value) (h2 : d ≠ 2) (h3 : d ≠ 3) : Fr0 X Y n (a.put (some d) v) := ⟨(put_other a d v 2 h2).trans h.x, (put_other a d v 3 h3).trans h.y, (put_size a d v).trans h.n, h.d⟩
theorem Fr.put (h : Fr X Y k c n a) (d : Nat) (v : Value) (h2 : d ≠ 2) (h3 : d ≠ 3) (hk : d ≠ k) : Fr X Y k c n (a.put (some d) v) :=
  ⟨(put_other a d v 2 h2).trans h.x, (put_other a d v 3 h3).trans h.y, (put_other a d v k hk).trans h.c, (put_size a d v).trans h.n, h.d⟩
variable {P : Program} {ops : Array Oper} {Q : Exit → Act → World → Prop} {rest : List Oper} {w : World}
theorem wpList_val {o : Oper} {d : Nat} {v : Value} {w' : World} (hd : o.dst = some d) (hw : Region.wanted o (yielded ops a.tmps) = true) (hx : (execOp a.eval o).run P w = .ok (.value v) w')
    (h : wpList P ops Q rest (a.put (some d) v) w') : wpList P ops Q (o :: rest) a w := by
  refine wpList_step fun K hK => ?_
  rw [if_pos hw]
  unfold Oper.wp
  rw [hx, Oper.upon_value, hd]
  exact hK _ _ h
theorem want_true {o : Oper} {j : Nat} {k : Nat} (hg : o.guard = some (j, true)) (hj : (ops[j]?).bind (·.dst) = some k) (hk : a.tmps[k]? = some (.bool true)) : Region.wanted o (yielded ops a.tmps) = true := by
  unfold Region.wanted yielded
  rw [hg]
  simp only [hj, Option.bind_some, hk]
  rfl
theorem want_false {o : Oper} {j : Nat} {k : Nat} (hg : o.guard = some (j, true)) (hj : (ops[j]?).bind (·.dst) = some k) (hk : a.tmps[k]? = some (.bool false)) : Region.wanted o (yielded ops a.tmps) = false := by
  unfold Region.wanted yielded
  rw [hg]
  simp only [hj, Option.bind_some, hk]
  rfl
theorem want_none {o : Oper} (hg : o.guard = none) : Region.wanted o (yielded ops a.tmps) = true := by
  unfold Region.wanted
  rw [hg]
theorem skip_one {o : Oper} {j d : Nat} (h : Fr X Y k false n a) (hj : (ops[j]?).bind (·.dst) = some k) (hd : o.dst = some d) (hg : o.guard = some (j, true)) (h2 : d ≠ 2) (h3 : d ≠ 3) (hk : d ≠ k)
    (next : ∀ a', Fr X Y k false n a' → wpList P ops Q rest a' w) : wpList P ops Q (o :: rest) a w := by
  refine wpList_skip (want_false hg hj h.c) ?_
  rw [hd]
  exact next _ (h.put d undef h2 h3 hk)

/-- One conjunct: the operations at slots s to s + 4 are wanted just if all holds so far; then the pick, then a move. -/
theorem conj {q : Bool} {s : Nat} {W : World → Prop} (j t : Nat) (h : Fr X Y k c n a) (hj : (ops[j]?).bind (·.dst) = some k) (hs : k < s) (hs3 : 3 < s) (hn : s + 6 ≤ n) (ht : 3 < t) (htn : t < n) (hW : W w)
    {o1 o2 o3 o4 o5 o6 o7 : Oper} {px py vx vy : Value}
    (g1 : o1.dst = some s ∧ o1.guard = some (j, true)) (g2 : o2.dst = some (s + 1) ∧ o2.guard = some (j, true)) (g3 : o3.dst = some (s + 2) ∧ o3.guard = some (j, true)) (g4 : o4.dst = some (s + 3) ∧ o4.guard = some (j, true)) (g5 : o5.dst = some (s + 4) ∧ o5.guard = some (j, true))
    (g6 : o6.op = .pick (.tmp k) (.tmp (s + 4)) (.const (.bool false)) ∧ o6.dst = some (s + 5) ∧ o6.guard = none) (g7 : (o7.op = .move (.tmp (s + 5)) ∨ o7.op = .assign (.tmp (s + 5))) ∧ o7.dst = some t ∧ o7.guard = none)
    (e1 : ∀ a' : Act, a'.tmps[2]? = some X → (execOp a'.eval o1).run P w = .ok (.value px) w)
    (e2 : ∀ a' : Act, a'.tmps[s]? = some px → (execOp a'.eval o2).run P w = .ok (.value vx) w)
    (e3 : ∀ a' : Act, a'.tmps[3]? = some Y → (execOp a'.eval o3).run P w = .ok (.value py) w)
    (e4 : ∀ a' : Act, a'.tmps[(s + 2)]? = some py → (execOp a'.eval o4).run P w = .ok (.value vy) w)
    (e5 : ∀ (a' : Act) (r : List Oper), a'.tmps[(s + 1)]? = some vx → a'.tmps[(s + 3)]? = some vy → Region.wanted o5 (yielded ops a'.tmps) = true → (∀ w', W w' → wpList P ops Q r (a'.put (some (s + 4)) (.bool q)) w') → wpList P ops Q (o5 :: r) a' w)
    (next : ∀ a' w', Fr X Y t (c && q) n a' → W w' → wpList P ops Q rest a' w') : wpList P ops Q (o1 :: o2 :: o3 :: o4 :: o5 :: o6 :: o7 :: rest) a w := by
  have last : ∀ (a' : Act) (w' : World) (b : Bool), Fr X Y k c n a' → (c = true → a'.tmps[s + 4]? = some (.bool q)) → W w' → wpList P ops Q (o6 :: o7 :: rest) a' w' := by
    intro a' w' b h' hq hw'
    refine wpList_val (w' := w') (v := .bool (c && q)) g6.2.1 (want_none g6.2.2) ?_ ?_
    · unfold execOp
      simp only [g6.1, eval_of h'.c]
      cases c with
      | false => rfl
      | true =>
        simp only [eval_of (hq rfl)]
        rfl
    · refine wpList_val (w' := w') (v := .bool (c && q)) g7.2.1 (want_none g7.2.2) ?_ ?_
      · unfold execOp
        rcases g7.1 with g | g <;> (simp only [g, eval_of (put_same a' (s + 5) (.bool (c && q)) (by have := h'.n; omega))]; rfl)
      · have h5 := h'.put (s + 5) (.bool (c && q)) (by omega) (by omega) (by omega)
        exact next _ _ ⟨(put_other _ t _ 2 (by omega)).trans h5.x, (put_other _ t _ 3 (by omega)).trans h5.y, put_same _ _ _ (by have := h5.n; omega), (put_size _ _ _).trans h5.n, h5.d⟩ hw'
  cases c with
  | false =>
    refine skip_one h hj g1.1 g1.2 (by omega) (by omega) (by omega) fun a1 h1 => ?_
    refine skip_one h1 hj g2.1 g2.2 (by omega) (by omega) (by omega) fun a2 h2 => ?_
    refine skip_one h2 hj g3.1 g3.2 (by omega) (by omega) (by omega) fun a3 h3 => ?_
    refine skip_one h3 hj g4.1 g4.2 (by omega) (by omega) (by omega) fun a4 h4 => ?_
    refine skip_one h4 hj g5.1 g5.2 (by omega) (by omega) (by omega) fun a5 h5 => ?_
    exact last a5 w false h5 (fun h => by cases h) hW
  | true =>
    have sz := h.n
    refine wpList_val g1.1 (want_true g1.2 hj h.c) (e1 a h.x) ?_
    have h1 := h.put s px (by omega) (by omega) (by omega)
    have t1 : (a.put (some s) px).tmps[s]? = some px := put_same a s px (by omega)
    refine wpList_val g2.1 (want_true g2.2 hj h1.c) (e2 _ t1) ?_
    have h2 := h1.put (s + 1) vx (by omega) (by omega) (by omega)
    have t2 := put_same (a.put (some s) px) (s + 1) vx (by have := h1.n; omega)
    refine wpList_val g3.1 (want_true g3.2 hj h2.c) (e3 _ h2.y) ?_
    have h3 := h2.put (s + 2) py (by omega) (by omega) (by omega)
    have t3 := put_same ((a.put (some s) px).put (some (s + 1)) vx) (s + 2) py (by have := h2.n; omega)
    have t2' := (put_other ((a.put (some s) px).put (some (s + 1)) vx) (s + 2) py (s + 1) (by omega)).trans t2
    refine wpList_val g4.1 (want_true g4.2 hj h3.c) (e4 _ t3) ?_
    have h4 := h3.put (s + 3) vy (by omega) (by omega) (by omega)
    have t4 := put_same (((a.put (some s) px).put (some (s + 1)) vx).put (some (s + 2)) py) (s + 3) vy (by have := h3.n; omega)
    have t2'' := (put_other (((a.put (some s) px).put (some (s + 1)) vx).put (some (s + 2)) py) (s + 3) vy (s + 1) (by omega)).trans t2'
    refine e5 _ _ t2'' t4 (want_true g5.2 hj h4.c) fun w' hw' => ?_
    have h5 := h4.put (s + 4) (.bool q) (by omega) (by omega) (by omega)
    exact last _ w' true h5 (fun _ => put_same _ _ _ (by have := h4.n; omega)) hw'
/-- One conjunct over fields of fields: the operations at slots s to s + 6 are wanted just if all holds so far; then the pick, then a move. -/
theorem conj2 {q : Bool} {s : Nat} {W : World → Prop} (j t : Nat) (h : Fr X Y k c n a) (hj : (ops[j]?).bind (·.dst) = some k) (hs : k < s) (hs3 : 3 < s) (hn : s + 8 ≤ n) (ht : 3 < t) (htn : t < n) (hW : W w)
    {o1 o1' o2 o3 o3' o4 o5 o6 o7 : Oper} {px px' py py' vx vy : Value}
    (g1 : o1.dst = some s ∧ o1.guard = some (j, true)) (g1' : o1'.dst = some (s + 1) ∧ o1'.guard = some (j, true)) (g2 : o2.dst = some (s + 2) ∧ o2.guard = some (j, true)) (g3 : o3.dst = some (s + 3) ∧ o3.guard = some (j, true)) (g3' : o3'.dst = some (s + 4) ∧ o3'.guard = some (j, true)) (g4 : o4.dst = some (s + 5) ∧ o4.guard = some (j, true)) (g5 : o5.dst = some (s + 6) ∧ o5.guard = some (j, true))
    (g6 : o6.op = .pick (.tmp k) (.tmp (s + 6)) (.const (.bool false)) ∧ o6.dst = some (s + 7) ∧ o6.guard = none) (g7 : (o7.op = .move (.tmp (s + 7)) ∨ o7.op = .assign (.tmp (s + 7))) ∧ o7.dst = some t ∧ o7.guard = none)
    (e1 : ∀ a' : Act, a'.tmps[2]? = some X → (execOp a'.eval o1).run P w = .ok (.value px) w)
    (e1' : ∀ a' : Act, a'.tmps[s]? = some px → (execOp a'.eval o1').run P w = .ok (.value px') w)
    (e2 : ∀ a' : Act, a'.tmps[s + 1]? = some px' → (execOp a'.eval o2).run P w = .ok (.value vx) w)
    (e3 : ∀ a' : Act, a'.tmps[3]? = some Y → (execOp a'.eval o3).run P w = .ok (.value py) w)
    (e3' : ∀ a' : Act, a'.tmps[s + 3]? = some py → (execOp a'.eval o3').run P w = .ok (.value py') w)
    (e4 : ∀ a' : Act, a'.tmps[s + 4]? = some py' → (execOp a'.eval o4).run P w = .ok (.value vy) w)
    (e5 : ∀ (a' : Act) (r : List Oper), a'.tmps[(s + 2)]? = some vx → a'.tmps[(s + 5)]? = some vy → Region.wanted o5 (yielded ops a'.tmps) = true → (∀ w', W w' → wpList P ops Q r (a'.put (some (s + 6)) (.bool q)) w') → wpList P ops Q (o5 :: r) a' w)
    (next : ∀ a' w', Fr X Y t (c && q) n a' → W w' → wpList P ops Q rest a' w') : wpList P ops Q (o1 :: o1' :: o2 :: o3 :: o3' :: o4 :: o5 :: o6 :: o7 :: rest) a w := by
  have last : ∀ (a' : Act) (w' : World) (b : Bool), Fr X Y k c n a' → (c = true → a'.tmps[s + 6]? = some (.bool q)) → W w' → wpList P ops Q (o6 :: o7 :: rest) a' w' := by
    intro a' w' b h' hq hw'
    refine wpList_val (w' := w') (v := .bool (c && q)) g6.2.1 (want_none g6.2.2) ?_ ?_
    · unfold execOp
      simp only [g6.1, eval_of h'.c]
      cases c with
      | false => rfl
      | true =>
        simp only [eval_of (hq rfl)]
        rfl
    · refine wpList_val (w' := w') (v := .bool (c && q)) g7.2.1 (want_none g7.2.2) ?_ ?_
      · unfold execOp
        rcases g7.1 with g | g <;> (simp only [g, eval_of (put_same a' (s + 7) (.bool (c && q)) (by have := h'.n; omega))]; rfl)
      · have h5 := h'.put (s + 7) (.bool (c && q)) (by omega) (by omega) (by omega)
        exact next _ _ ⟨(put_other _ t _ 2 (by omega)).trans h5.x, (put_other _ t _ 3 (by omega)).trans h5.y, put_same _ _ _ (by have := h5.n; omega), (put_size _ _ _).trans h5.n, h5.d⟩ hw'
  cases c with
  | false =>
    refine skip_one h hj g1.1 g1.2 (by omega) (by omega) (by omega) fun a1 h1 => ?_
    refine skip_one h1 hj g1'.1 g1'.2 (by omega) (by omega) (by omega) fun b1 hb1 => ?_
    refine skip_one hb1 hj g2.1 g2.2 (by omega) (by omega) (by omega) fun a2 h2 => ?_
    refine skip_one h2 hj g3.1 g3.2 (by omega) (by omega) (by omega) fun a3 h3 => ?_
    refine skip_one h3 hj g3'.1 g3'.2 (by omega) (by omega) (by omega) fun b3 hb3 => ?_
    refine skip_one hb3 hj g4.1 g4.2 (by omega) (by omega) (by omega) fun a4 h4 => ?_
    refine skip_one h4 hj g5.1 g5.2 (by omega) (by omega) (by omega) fun a5 h5 => ?_
    exact last a5 w false h5 (fun h => by cases h) hW
  | true =>
    have sz := h.n
    refine wpList_val g1.1 (want_true g1.2 hj h.c) (e1 a h.x) ?_
    have h1 := h.put s px (by omega) (by omega) (by omega)
    have t1 : (a.put (some s) px).tmps[s]? = some px := put_same a s px (by omega)
    generalize a.put (some s) px = a1 at t1 h1 ⊢
    refine wpList_val g1'.1 (want_true g1'.2 hj h1.c) (e1' _ t1) ?_
    have tb1 := put_same a1 (s + 1) px' (by have := h1.n; omega)
    have hb1 := h1.put (s + 1) px' (by omega) (by omega) (by omega)
    generalize a1.put (some (s + 1)) px' = b1 at tb1 hb1 ⊢
    refine wpList_val g2.1 (want_true g2.2 hj hb1.c) (e2 _ tb1) ?_
    have t2 := put_same b1 (s + 2) vx (by have := hb1.n; omega)
    have h2 := hb1.put (s + 2) vx (by omega) (by omega) (by omega)
    generalize b1.put (some (s + 2)) vx = a2 at t2 h2 ⊢
    refine wpList_val g3.1 (want_true g3.2 hj h2.c) (e3 _ h2.y) ?_
    have t3 := put_same a2 (s + 3) py (by have := h2.n; omega)
    have u3 := (put_other a2 (s + 3) py (s + 2) (by omega)).trans t2
    have h3 := h2.put (s + 3) py (by omega) (by omega) (by omega)
    generalize a2.put (some (s + 3)) py = a3 at t3 u3 h3 ⊢
    refine wpList_val g3'.1 (want_true g3'.2 hj h3.c) (e3' _ t3) ?_
    have tb3 := put_same a3 (s + 4) py' (by have := h3.n; omega)
    have ub3 := (put_other a3 (s + 4) py' (s + 2) (by omega)).trans u3
    have hb3 := h3.put (s + 4) py' (by omega) (by omega) (by omega)
    generalize a3.put (some (s + 4)) py' = b3 at tb3 ub3 hb3 ⊢
    refine wpList_val g4.1 (want_true g4.2 hj hb3.c) (e4 _ tb3) ?_
    have t4 := put_same b3 (s + 5) vy (by have := hb3.n; omega)
    have u4 := (put_other b3 (s + 5) vy (s + 2) (by omega)).trans ub3
    have h4 := hb3.put (s + 5) vy (by omega) (by omega) (by omega)
    generalize b3.put (some (s + 5)) vy = a4 at t4 u4 h4 ⊢
    refine e5 _ _ u4 t4 (want_true g5.2 hj h4.c) fun w' hw' => ?_
    have h5 := h4.put (s + 6) (.bool q) (by omega) (by omega) (by omega)
    exact last _ w' true h5 (fun _ => put_same _ _ _ (by have := h4.n; omega)) hw'
/-- The first conjunct, that is always wanted: no pick. -/
theorem conj_first {q : Bool} {s : Nat} (hx : a.tmps[2]? = some X) (hy : a.tmps[3]? = some Y) (hsz : a.tmps.size = n) (hd : a.defers = []) (hs3 : 3 < s) (hn : s + 5 < n)
    {o1 o2 o3 o4 o5 o6 : Oper} {px py vx vy : Value}
    (g1 : o1.dst = some s ∧ o1.guard = none) (g2 : o2.dst = some (s + 1) ∧ o2.guard = none) (g3 : o3.dst = some (s + 2) ∧ o3.guard = none) (g4 : o4.dst = some (s + 3) ∧ o4.guard = none) (g5 : o5.dst = some (s + 4) ∧ o5.guard = none)
    (g6 : o6.op = .move (.tmp (s + 4)) ∧ o6.dst = some (s + 5) ∧ o6.guard = none)
    (e1 : ∀ a' : Act, a'.tmps[2]? = some X → (execOp a'.eval o1).run P w = .ok (.value px) w)
    (e2 : ∀ a' : Act, a'.tmps[s]? = some px → (execOp a'.eval o2).run P w = .ok (.value vx) w)
    (e3 : ∀ a' : Act, a'.tmps[3]? = some Y → (execOp a'.eval o3).run P w = .ok (.value py) w)
    (e4 : ∀ a' : Act, a'.tmps[(s + 2)]? = some py → (execOp a'.eval o4).run P w = .ok (.value vy) w)
    (e5 : ∀ a' : Act, a'.tmps[(s + 1)]? = some vx → a'.tmps[(s + 3)]? = some vy → (execOp a'.eval o5).run P w = .ok (.value (.bool q)) w)
    (next : ∀ a', Fr X Y (s + 5) q n a' → wpList P ops Q rest a' w) : wpList P ops Q (o1 :: o2 :: o3 :: o4 :: o5 :: o6 :: rest) a w := by
  have h0 : Fr0 X Y n a := ⟨hx, hy, hsz, hd⟩
  refine wpList_val g1.1 (want_none g1.2) (e1 a h0.x) ?_
  have t1 := put_same a s px (by have := h0.n; omega)
  have h1 := h0.put s px (by omega) (by omega)
  generalize a.put (some s) px = a1 at t1 h1 ⊢
  refine wpList_val g2.1 (want_none g2.2) (e2 _ t1) ?_
  have t2 := put_same a1 (s + 1) vx (by have := h1.n; omega)
  have h2 := h1.put (s + 1) vx (by omega) (by omega)
  generalize a1.put (some (s + 1)) vx = a2 at t2 h2 ⊢
  refine wpList_val g3.1 (want_none g3.2) (e3 _ h2.y) ?_
  have t3 := put_same a2 (s + 2) py (by have := h2.n; omega)
  have t2' := (put_other a2 (s + 2) py (s + 1) (by omega)).trans t2
  have h3 := h2.put (s + 2) py (by omega) (by omega)
  generalize a2.put (some (s + 2)) py = a3 at t3 t2' h3 ⊢
  refine wpList_val g4.1 (want_none g4.2) (e4 _ t3) ?_
  have t4 := put_same a3 (s + 3) vy (by have := h3.n; omega)
  have t2'' := (put_other a3 (s + 3) vy (s + 1) (by omega)).trans t2'
  have h4 := h3.put (s + 3) vy (by omega) (by omega)
  generalize a3.put (some (s + 3)) vy = a4 at t4 t2'' h4 ⊢
  refine wpList_val g5.1 (want_none g5.2) (e5 _ t2'' t4) ?_
  have t5 := put_same a4 (s + 4) (.bool q) (by have := h4.n; omega)
  have h5 := h4.put (s + 4) (.bool q) (by omega) (by omega)
  generalize a4.put (some (s + 4)) (.bool q) = a5 at t5 h5 ⊢
  refine wpList_val (w' := w) (v := .bool q) g6.2.1 (want_none g6.2.2) ?_ ?_
  · unfold execOp
    simp only [g6.1, eval_of t5]
    rfl
  · have h6 := h5.put (s + 5) (.bool q) (by omega) (by omega)
    exact next _ ⟨h6.x, h6.y, put_same _ _ _ (by have := h5.n; omega), h6.n, h6.d⟩
end
end Go.Proofs.YtehiaeihkdfclaaGreatDoor
/- The walk over droverlaw09.NoteBytes: any message, operation and definition in bytes, and whether they may be. -/
namespace Go.Proofs.YtehiaeihkdfclaaGreatDoor
open Go.RowKit

theorem light_opF {o : OpD} (h : o.lightP 200) : proom (opF o) ≤ 10000000 := by
  have h4 := Nat.le_trans (proom_text 4 (defB o.defn)) (Nat.add_le_add_left (light_defB h) 20)
  have h1 := proom_num 1 o.kind
  have h2 := proom_num 2 o.client
  have h3 := proom_num 3 o.request
  have h5 := proom_num 5 o.saga
  have h6 := proom_num 6 o.step
  have h7 := proom_num 7 o.try_
  have h8 := proom_flag 8 o.back
  have h9 := proom_flag 9 o.good
  have hz : proom [] = 0 := rfl
  simp only [opF, List.flatten_cons, List.flatten_nil, proom_append, hz]
  generalize proom (pnum 1 o.kind) = x1 at h1 ⊢
  generalize proom (pnum 2 o.client) = x2 at h2 ⊢
  generalize proom (pnum 3 o.request) = x3 at h3 ⊢
  generalize proom (ptext 4 (defB o.defn)) = x4 at h4 ⊢
  generalize proom (pnum 5 o.saga) = x5 at h5 ⊢
  generalize proom (pnum 6 o.step) = x6 at h6 ⊢
  generalize proom (pnum 7 o.try_) = x7 at h7 ⊢
  generalize proom (pflag 8 o.back) = x8 at h8 ⊢
  generalize proom (pflag 9 o.good) = x9 at h9 ⊢
  omega

set_option maxHeartbeats 8000000 in
set_option maxRecDepth 100000 in
theorem law_bytes (m : MsgD) (sv ov iv : Value) (w : World) (ha : Lists (· < w.heap.size) w m sv ov iv) (hwa : m.wf) (hT : Tab w) :
    Calls Tryz.prog 3 #[.agg (m.cells sv ov iv).toArray] w fun e w' => e = .returned (.bool true) ∧ Later w w' := by
  have hL0 : Later w (w.alloc (.cells (m.cells sv ov iv).toArray 35 (0, 0))) := Later.alloc _ _
  have x0 : (w.alloc (.cells (m.cells sv ov iv).toArray 35 (0, 0))).heap[w.heap.size]? = some (.cells (m.cells sv ov iv).toArray 35 (0, 0)) := heap_alloc_new w _
  have HX : Hid (∀ w', Later (w.alloc (.cells (m.cells sv ov iv).toArray 35 (0, 0))) w' → w'.heap[w.heap.size]? = some (.cells (m.cells sv ov iv).toArray 35 (0, 0))) := fun w' h => (Below.block h _ (lt_of_block x0)).trans x0
  have HA : Hid (∀ w', Later w w' → Lists (· < w.heap.size) w' m sv ov iv) := fun w' h => ha.kept (Kept.of_below h _)
  have HT : Hid (∀ w', Later w w' → Tab w') := fun w' hl => hT.later hl
  have HL0 := hide hL0
  have X0 := hide x0
  have C1 := hide (small_law hwa (HA.out _ hL0))
  have HWF := hide hwa
  clear ha hwa hT hL0 x0
  go_enter Tryz.func3, Tryz.ntmps3
  go_wp2_with (refine wpList_val rfl (by rfl) (exec_load_box 35 _ (by rfl) w.heap.size 0 (by rfl) 35 _ X0.out 34 _ Tryz.underlying35 (by rfl) (by kernel_rfl) (m.cells sv ov iv) (by simp [List.take_of_length_le (Nat.le_of_eq (m.len sv ov iv))]) (m.len sv ov iv)) ?_)
  refine C1.out.mono ?_
  rintro e w1 ⟨t1, rfl, ht1, l1⟩
  have HT1 := hide ht1
  have M1 := hide l1
  have L1 := hide (HL0.out.trans l1)
  clear ht1 l1 C1
  cases t1 with
  | false =>
    have E := hide (lives_any (HT.out _ L1.out))
    go_wp2_with (fail)
    refine E.out.mono ?_
    rintro e wc ⟨rfl, lc⟩
    have Lc := hide (L1.out.trans lc)
    clear lc E
    go_wp2
    go_ret
    exact ⟨rfl, Lc.out⟩
  | true =>
      have hlt := HT1.out (by trivial)
      have hn2 : m.ops.length ≤ 200 := by have := hlt.1.2.1; omega
      have hn5 : m.ops.length ≤ 100000 := by omega
      have HNO := hide hn2
      have HNO5 := hide hn5
      have HNI := hide hlt.2
      have hsm := light_sm hlt.1.1 (wf_op HWF.out)
      have hr1 : proom (defF m.op.defn) ≤ 1000000 := Nat.le_trans (light_def hlt.1.1) (by omega)
      have HR1 := hide hr1
      have HR2 := hide (light_opF hlt.1.1)
      have HSM := hide hsm
      obtain ⟨g, hg⟩ : ∃ g, decide (bytesM m ≠ []) = g := ⟨_, rfl⟩
      have HG := hide hg
      obtain ⟨og, hog⟩ : ∃ g, opG m.op = g := ⟨_, rfl⟩
      have HO := hide hog
      obtain ⟨SA, hSA⟩ : ∃ s, str (bytesM m) = s := ⟨_, rfl⟩
      obtain ⟨SB, hSB⟩ : ∃ s, str (opB m.op) = s := ⟨_, rfl⟩
      obtain ⟨SC, hSC⟩ : ∃ s, str (defB m.op.defn) = s := ⟨_, rfl⟩
      have HSA := hide hSA
      have HSB := hide hSB
      have HSC := hide hSC
      have eqg : (g == g) = true := by simp
      have eqo : (og == og) = true := by simp
      have D0 : Hid (Later (w.alloc (.cells (m.cells sv ov iv).toArray 35 (0, 0))) w1.drew) := M1.out.trans (Later.drew w1)
      clear hlt hn2 hn5 hsm hr1 hg hog hSA hSB hSC
      go_wp2
      refine wp_region_L (by kernel_rfl) ?_
      refine wpAnyL_take (i := 0) (d := some 7) (v := .agg (m.cells sv ov iv).toArray) rfl rfl (by kernel_rfl) (by kernel_rfl) (by kernel_rfl) (fun _ _ _ h => h) (by rfl) ?yar0 ?_
      case yar0 => (intro w' hw'; exact exec_load_box 35 _ (by rfl) w.heap.size 0 (by rfl) 35 _ (HX.out w' (D0.out.trans hw')) 34 _ Tryz.underlying35 (by rfl) (by kernel_rfl) (m.cells sv ov iv) (by simp [List.take_of_length_le (Nat.le_of_eq (m.len sv ov iv))]) (m.len sv ov iv))
      simp only [Act.put]; try simp only [List.setIfInBounds_toArray]; try simp only [List.set_cons_zero, List.set_cons_succ]
      refine wpAnyL_take (i := 2) (d := some 9) (v := .agg (m.cells sv ov iv).toArray) rfl rfl (by kernel_rfl) (by kernel_rfl) (by kernel_rfl) (fun _ _ _ h => h) (by rfl) ?yar2 ?_
      case yar2 => (intro w' hw'; exact exec_load_box 35 _ (by rfl) w.heap.size 0 (by rfl) 35 _ (HX.out w' (D0.out.trans hw')) 34 _ Tryz.underlying35 (by rfl) (by kernel_rfl) (m.cells sv ov iv) (by simp [List.take_of_length_le (Nat.le_of_eq (m.len sv ov iv))]) (m.len sv ov iv))
      simp only [Act.put]; try simp only [List.setIfInBounds_toArray]; try simp only [List.set_cons_zero, List.set_cons_succ]
      refine wpAnyL_only (i := 1) rfl (by kernel_rfl) (by rfl) fun K hK => ?_
      go_simp
      have S := good_any9 HNO5.out (HA.out _ (HL0.out.trans D0.out)) (HT.out _ (HL0.out.trans D0.out))
      rw [HG.out] at S
      refine S.mono ?_
      rintro e v1 ⟨rfl, lb⟩
      have D1 := hide (D0.out.trans (show Later w1.drew v1 from lb))
      refine hK.out _ _ (show Later w1.drew v1 from lb) ?_
      clear lb S
      clear hK K
      try (simp only [Act.put]; try simp only [List.setIfInBounds_toArray]; try simp only [List.set_cons_zero, List.set_cons_succ])
      refine wpAnyL_only (i := 3) rfl (by kernel_rfl) (by rfl) fun K hK => ?_
      go_simp
      have S := rgoodm_any (HA.out _ (HL0.out.trans D1.out)) HWF.out HNO.out HNI.out
      rw [msgG_bytes, HG.out] at S
      refine S.mono ?_
      rintro e v2 ⟨rfl, lb⟩
      have D2 := hide (D1.out.trans (show Later v1 v2 from lb))
      refine hK.out _ _ (show Later v1 v2 from lb) ?_
      clear lb S
      clear hK K
      try (simp only [Act.put]; try simp only [List.setIfInBounds_toArray]; try simp only [List.set_cons_zero, List.set_cons_succ])
      refine wpAnyL_take (i := 4) (d := some 11) (v := .bool true) rfl rfl (by kernel_rfl) (by kernel_rfl) (by kernel_rfl) (fun _ _ _ h => h) (by rfl) ?yar4 ?_
      case yar4 => (intro w' hw'; go_simp; try (with_reducible rfl))
      simp only [Act.put]; try simp only [List.setIfInBounds_toArray]; try simp only [List.set_cons_zero, List.set_cons_succ]
      refine wpAnyL_take (i := 5) (d := some 12) (v := ?var5) rfl rfl (by kernel_rfl) (by kernel_rfl) (by kernel_rfl) (fun _ _ _ h => h) (by rfl) ?yar5 ?_
      case yar5 => (intro w' hw'; go_simp; try (with_reducible rfl))
      simp only [Act.put]; try simp only [List.setIfInBounds_toArray]; try simp only [List.set_cons_zero, List.set_cons_succ]
      refine wpAnyL_take (i := 6) (d := some 13) (v := .agg (m.cells sv ov iv).toArray) rfl rfl (by kernel_rfl) (by kernel_rfl) (by kernel_rfl) (fun _ _ _ h => h) (by rfl) ?yar6 ?_
      case yar6 => (intro w' hw'; exact exec_load_box 35 _ (by rfl) w.heap.size 0 (by rfl) 35 _ (HX.out w' (D2.out.trans hw')) 34 _ Tryz.underlying35 (by rfl) (by kernel_rfl) (m.cells sv ov iv) (by simp [List.take_of_length_le (Nat.le_of_eq (m.len sv ov iv))]) (m.len sv ov iv))
      simp only [Act.put]; try simp only [List.setIfInBounds_toArray]; try simp only [List.set_cons_zero, List.set_cons_succ]
      refine wpAnyL_take (i := 9) (d := some 16) (v := .agg (m.cells sv ov iv).toArray) rfl rfl (by kernel_rfl) (by kernel_rfl) (by kernel_rfl) (fun _ _ _ h => h) (by rfl) ?yar9 ?_
      case yar9 => (intro w' hw'; exact exec_load_box 35 _ (by rfl) w.heap.size 0 (by rfl) 35 _ (HX.out w' (D2.out.trans hw')) 34 _ Tryz.underlying35 (by rfl) (by kernel_rfl) (m.cells sv ov iv) (by simp [List.take_of_length_le (Nat.le_of_eq (m.len sv ov iv))]) (m.len sv ov iv))
      simp only [Act.put]; try simp only [List.setIfInBounds_toArray]; try simp only [List.set_cons_zero, List.set_cons_succ]
      refine wpAnyL_only (i := 7) rfl (by kernel_rfl) (by rfl) fun K hK => ?_
      go_simp
      refine (bytes_any HNO5.out (HA.out _ (HL0.out.trans D2.out)) (HT.out _ (HL0.out.trans D2.out))).mono ?_
      rintro e v3 ⟨B0, n0, c0, rfl, _, hh, _, lb⟩
      have D3 := hide (D2.out.trans (show Later v2 v3 from lb))
      have HH0 : Hid (∀ w', Later v3 w' → Holds w' w'.heap.size B0 n0 (bytesM m)) := fun w' h => hh.later h
      refine hK.out _ _ (show Later v2 v3 from lb) ?_
      clear hh lb
      clear hK K
      try (simp only [Act.put]; try simp only [List.setIfInBounds_toArray]; try simp only [List.set_cons_zero, List.set_cons_succ])
      refine wpAnyL_take (i := 8) (d := some 15) (v := .string SA) rfl rfl (by kernel_rfl) (by kernel_rfl) (by kernel_rfl) (fun _ _ _ h => h) (by rfl) ?yar8 ?_
      case yar8 => (intro w' hw'; have d1 := run_str w' w'.heap.size B0 n0 c0 (bytesM m) (HH0.out w' hw'); rw [HSA.out] at d1; go_simp; try (with_reducible rfl))
      simp only [Act.put]; try simp only [List.setIfInBounds_toArray]; try simp only [List.set_cons_zero, List.set_cons_succ]
      refine wpAnyL_only (i := 10) rfl (by kernel_rfl) (by rfl) fun K hK => ?_
      go_simp
      refine (rbytesm_any (HA.out _ (HL0.out.trans D3.out)) HWF.out HNO.out HNI.out).mono ?_
      rintro e v4 ⟨B1, n1, c1, rfl, _, hh, _, lb⟩
      have D4 := hide (D3.out.trans (show Later v3 v4 from lb))
      have HH1 : Hid (∀ w', Later v4 w' → Holds w' w'.heap.size B1 n1 (bytesM m)) := fun w' h => hh.later h
      refine hK.out _ _ (show Later v3 v4 from lb) ?_
      clear hh lb
      clear hK K
      try (simp only [Act.put]; try simp only [List.setIfInBounds_toArray]; try simp only [List.set_cons_zero, List.set_cons_succ])
      refine wpAnyL_take (i := 11) (d := some 18) (v := .string SA) rfl rfl (by kernel_rfl) (by kernel_rfl) (by kernel_rfl) (fun _ _ _ h => h) (by rfl) ?yar11 ?_
      case yar11 => (intro w' hw'; have d1 := run_str w' w'.heap.size B1 n1 c1 (bytesM m) (HH1.out w' hw'); rw [HSA.out] at d1; go_simp; try (with_reducible rfl))
      simp only [Act.put]; try simp only [List.setIfInBounds_toArray]; try simp only [List.set_cons_zero, List.set_cons_succ]
      refine wpAnyL_take (i := 12) (d := some 19) (v := .bool true) rfl rfl (by kernel_rfl) (by kernel_rfl) (by kernel_rfl) (fun _ _ _ h => h) (by rfl) ?yar12 ?_
      case yar12 => (intro w' hw'; go_simp; try (with_reducible rfl))
      simp only [Act.put]; try simp only [List.setIfInBounds_toArray]; try simp only [List.set_cons_zero, List.set_cons_succ]
      refine wpAnyL_take (i := 13) (d := some 20) (v := ?var13) rfl rfl (by kernel_rfl) (by kernel_rfl) (by kernel_rfl) (fun _ _ _ h => h) (by rfl) ?yar13 ?_
      case yar13 => (intro w' hw'; go_simp; try (with_reducible rfl))
      simp only [Act.put]; try simp only [List.setIfInBounds_toArray]; try simp only [List.set_cons_zero, List.set_cons_succ]
      refine wpAnyL_take (i := 14) (d := some 21) (v := ?var14) rfl rfl (by kernel_rfl) (by kernel_rfl) (by kernel_rfl) (fun _ _ _ h => h) (by rfl) ?yar14 ?_
      case yar14 => (intro w' hw'; go_simp; try (with_reducible rfl))
      simp only [Act.put]; try simp only [List.setIfInBounds_toArray]; try simp only [List.set_cons_zero, List.set_cons_succ]
      refine wpAnyL_take (i := 15) (d := some 22) (v := ?var15) rfl rfl (by kernel_rfl) (by kernel_rfl) (by kernel_rfl) (fun _ _ _ h => h) (by rfl) ?yar15 ?_
      case yar15 => (intro w' hw'; go_simp; try (with_reducible rfl))
      simp only [Act.put]; try simp only [List.setIfInBounds_toArray]; try simp only [List.set_cons_zero, List.set_cons_succ]
      refine wpAnyL_take (i := 16) (d := some 23) (v := .agg (m.op.cells sv).toArray) rfl rfl (by kernel_rfl) (by kernel_rfl) (by kernel_rfl) (fun _ _ _ h => h) (by rfl) ?yar16 ?_
      case yar16 => (intro w' hw'; exact exec_load_box 26 _ (by rfl) w.heap.size 12 (by rfl) 35 _ (HX.out w' (D4.out.trans hw')) 10 _ Tryz.underlying26 (by rfl) (by kernel_rfl) (m.op.cells sv) (by rfl) (by rfl))
      simp only [Act.put]; try simp only [List.setIfInBounds_toArray]; try simp only [List.set_cons_zero, List.set_cons_succ]
      refine wpAnyL_take (i := 18) (d := some 25) (v := ?var18) rfl rfl (by kernel_rfl) (by kernel_rfl) (by kernel_rfl) (fun _ _ _ h => h) (by rfl) ?yar18 ?_
      case yar18 => (intro w' hw'; go_simp; try (with_reducible rfl))
      simp only [Act.put]; try simp only [List.setIfInBounds_toArray]; try simp only [List.set_cons_zero, List.set_cons_succ]
      refine wpAnyL_take (i := 19) (d := some 26) (v := .agg (m.op.cells sv).toArray) rfl rfl (by kernel_rfl) (by kernel_rfl) (by kernel_rfl) (fun _ _ _ h => h) (by rfl) ?yar19 ?_
      case yar19 => (intro w' hw'; exact exec_load_box 26 _ (by rfl) w.heap.size 12 (by rfl) 35 _ (HX.out w' (D4.out.trans hw')) 10 _ Tryz.underlying26 (by rfl) (by kernel_rfl) (m.op.cells sv) (by rfl) (by rfl))
      simp only [Act.put]; try simp only [List.setIfInBounds_toArray]; try simp only [List.set_cons_zero, List.set_cons_succ]
      refine wpAnyL_only (i := 17) rfl (by kernel_rfl) (by rfl) fun K hK => ?_
      go_simp
      have S := (show Calls Tryz.prog 11 #[.agg (m.op.cells sv).toArray] v4 (fun e w2 => e = .returned (.bool (opG m.op)) ∧ Later v4 w2) from by obtain ⟨sA, sc, hsA, _⟩ := FlatAt.shape (HA.out _ (HL0.out.trans D4.out)).1; have S := goodop_any _ m.op sA m.op.steps.length sc _ rfl (hsA ▸ (HA.out _ (HL0.out.trans D4.out)).1); rw [hsA]; exact S)
      rw [HO.out] at S
      refine S.mono ?_
      rintro e v5 ⟨rfl, lb⟩
      have D5 := hide (D4.out.trans (show Later v4 v5 from lb))
      refine hK.out _ _ (show Later v4 v5 from lb) ?_
      clear lb S
      clear hK K
      try (simp only [Act.put]; try simp only [List.setIfInBounds_toArray]; try simp only [List.set_cons_zero, List.set_cons_succ])
      refine wpAnyL_only (i := 20) rfl (by kernel_rfl) (by rfl) fun K hK => ?_
      go_simp
      have S := (show Calls Tryz.prog 12 #[.agg (m.op.cells sv).toArray] v5 (fun e w2 => e = .returned (.bool (opG m.op)) ∧ Later v5 w2) from by obtain ⟨sA, sc, hsA, _⟩ := FlatAt.shape (HA.out _ (HL0.out.trans D5.out)).1; have S := rgoodop_any (x := m.op) (sc := sc) (hsA ▸ (HA.out _ (HL0.out.trans D5.out)).1) rfl; rw [hsA]; exact S)
      rw [HO.out] at S
      refine S.mono ?_
      rintro e v6 ⟨rfl, lb⟩
      have D6 := hide (D5.out.trans (show Later v5 v6 from lb))
      refine hK.out _ _ (show Later v5 v6 from lb) ?_
      clear lb S
      clear hK K
      try (simp only [Act.put]; try simp only [List.setIfInBounds_toArray]; try simp only [List.set_cons_zero, List.set_cons_succ])
      refine wpAnyL_take (i := 21) (d := some 28) (v := .bool true) rfl rfl (by kernel_rfl) (by kernel_rfl) (by kernel_rfl) (fun _ _ _ h => h) (by rfl) ?yar21 ?_
      case yar21 => (intro w' hw'; go_simp; try (with_reducible rfl))
      simp only [Act.put]; try simp only [List.setIfInBounds_toArray]; try simp only [List.set_cons_zero, List.set_cons_succ]
      refine wpAnyL_take (i := 22) (d := some 29) (v := ?var22) rfl rfl (by kernel_rfl) (by kernel_rfl) (by kernel_rfl) (fun _ _ _ h => h) (by rfl) ?yar22 ?_
      case yar22 => (intro w' hw'; go_simp; try (with_reducible rfl))
      simp only [Act.put]; try simp only [List.setIfInBounds_toArray]; try simp only [List.set_cons_zero, List.set_cons_succ]
      refine wpAnyL_take (i := 23) (d := some 30) (v := ?var23) rfl rfl (by kernel_rfl) (by kernel_rfl) (by kernel_rfl) (fun _ _ _ h => h) (by rfl) ?yar23 ?_
      case yar23 => (intro w' hw'; go_simp; try (with_reducible rfl))
      simp only [Act.put]; try simp only [List.setIfInBounds_toArray]; try simp only [List.set_cons_zero, List.set_cons_succ]
      refine wpAnyL_take (i := 24) (d := some 31) (v := ?var24) rfl rfl (by kernel_rfl) (by kernel_rfl) (by kernel_rfl) (fun _ _ _ h => h) (by rfl) ?yar24 ?_
      case yar24 => (intro w' hw'; go_simp; try (with_reducible rfl))
      simp only [Act.put]; try simp only [List.setIfInBounds_toArray]; try simp only [List.set_cons_zero, List.set_cons_succ]
      refine wpAnyL_take (i := 25) (d := some 32) (v := .agg (m.op.cells sv).toArray) rfl rfl (by kernel_rfl) (by kernel_rfl) (by kernel_rfl) (fun _ _ _ h => h) (by rfl) ?yar25 ?_
      case yar25 => (intro w' hw'; exact exec_load_box 26 _ (by rfl) w.heap.size 12 (by rfl) 35 _ (HX.out w' (D6.out.trans hw')) 10 _ Tryz.underlying26 (by rfl) (by kernel_rfl) (m.op.cells sv) (by rfl) (by rfl))
      simp only [Act.put]; try simp only [List.setIfInBounds_toArray]; try simp only [List.set_cons_zero, List.set_cons_succ]
      refine wpAnyL_take (i := 28) (d := some 35) (v := ?var28) rfl rfl (by kernel_rfl) (by kernel_rfl) (by kernel_rfl) (fun _ _ _ h => h) (by rfl) ?yar28 ?_
      case yar28 => (intro w' hw'; go_simp; try (with_reducible rfl))
      simp only [Act.put]; try simp only [List.setIfInBounds_toArray]; try simp only [List.set_cons_zero, List.set_cons_succ]
      refine wpAnyL_take (i := 29) (d := some 36) (v := .agg (m.op.cells sv).toArray) rfl rfl (by kernel_rfl) (by kernel_rfl) (by kernel_rfl) (fun _ _ _ h => h) (by rfl) ?yar29 ?_
      case yar29 => (intro w' hw'; exact exec_load_box 26 _ (by rfl) w.heap.size 12 (by rfl) 35 _ (HX.out w' (D6.out.trans hw')) 10 _ Tryz.underlying26 (by rfl) (by kernel_rfl) (m.op.cells sv) (by rfl) (by rfl))
      simp only [Act.put]; try simp only [List.setIfInBounds_toArray]; try simp only [List.set_cons_zero, List.set_cons_succ]
      refine wpAnyL_only (i := 26) rfl (by kernel_rfl) (by rfl) fun K hK => ?_
      go_simp
      refine ((show Calls Tryz.prog 13 #[.agg (m.op.cells sv).toArray] v6 (NewBytes v6 (opB m.op)) from by obtain ⟨sA, sc, hsA, _⟩ := FlatAt.shape (HA.out _ (HL0.out.trans D6.out)).1; have S := opbytes_any HSM.out (by omega) (hsA ▸ (HA.out _ (HL0.out.trans D6.out)).1); rw [hsA]; exact S)).mono ?_
      rintro e v7 ⟨B2, n2, c2, rfl, _, hh, _, lb⟩
      have D7 := hide (D6.out.trans (show Later v6 v7 from lb))
      have HH2 : Hid (∀ w', Later v7 w' → Holds w' w'.heap.size B2 n2 (opB m.op)) := fun w' h => hh.later h
      refine hK.out _ _ (show Later v6 v7 from lb) ?_
      clear hh lb
      clear hK K
      try (simp only [Act.put]; try simp only [List.setIfInBounds_toArray]; try simp only [List.set_cons_zero, List.set_cons_succ])
      refine wpAnyL_take (i := 27) (d := some 34) (v := .string SB) rfl rfl (by kernel_rfl) (by kernel_rfl) (by kernel_rfl) (fun _ _ _ h => h) (by rfl) ?yar27 ?_
      case yar27 => (intro w' hw'; have d1 := run_str w' w'.heap.size B2 n2 c2 (opB m.op) (HH2.out w' hw'); rw [HSB.out] at d1; go_simp; try (with_reducible rfl))
      simp only [Act.put]; try simp only [List.setIfInBounds_toArray]; try simp only [List.set_cons_zero, List.set_cons_succ]
      refine wpAnyL_only (i := 30) rfl (by kernel_rfl) (by rfl) fun K hK => ?_
      go_simp
      refine ((show Calls Tryz.prog 14 #[.agg (m.op.cells sv).toArray] v7 (NewBytes v7 (opB m.op)) from by obtain ⟨sA, sc, hsA, _⟩ := FlatAt.shape (HA.out _ (HL0.out.trans D7.out)).1; have S := ropb_any (o := m.op) (hsA ▸ (HA.out _ (HL0.out.trans D7.out)).1) rfl HSM.out (by omega) HR1.out HR2.out; rw [hsA]; exact S)).mono ?_
      rintro e v8 ⟨B3, n3, c3, rfl, _, hh, _, lb⟩
      have D8 := hide (D7.out.trans (show Later v7 v8 from lb))
      have HH3 : Hid (∀ w', Later v8 w' → Holds w' w'.heap.size B3 n3 (opB m.op)) := fun w' h => hh.later h
      refine hK.out _ _ (show Later v7 v8 from lb) ?_
      clear hh lb
      clear hK K
      try (simp only [Act.put]; try simp only [List.setIfInBounds_toArray]; try simp only [List.set_cons_zero, List.set_cons_succ])
      refine wpAnyL_take (i := 31) (d := some 38) (v := .string SB) rfl rfl (by kernel_rfl) (by kernel_rfl) (by kernel_rfl) (fun _ _ _ h => h) (by rfl) ?yar31 ?_
      case yar31 => (intro w' hw'; have d1 := run_str w' w'.heap.size B3 n3 c3 (opB m.op) (HH3.out w' hw'); rw [HSB.out] at d1; go_simp; try (with_reducible rfl))
      simp only [Act.put]; try simp only [List.setIfInBounds_toArray]; try simp only [List.set_cons_zero, List.set_cons_succ]
      refine wpAnyL_take (i := 32) (d := some 39) (v := .bool true) rfl rfl (by kernel_rfl) (by kernel_rfl) (by kernel_rfl) (fun _ _ _ h => h) (by rfl) ?yar32 ?_
      case yar32 => (intro w' hw'; go_simp; try (with_reducible rfl))
      simp only [Act.put]; try simp only [List.setIfInBounds_toArray]; try simp only [List.set_cons_zero, List.set_cons_succ]
      refine wpAnyL_take (i := 33) (d := some 40) (v := ?var33) rfl rfl (by kernel_rfl) (by kernel_rfl) (by kernel_rfl) (fun _ _ _ h => h) (by rfl) ?yar33 ?_
      case yar33 => (intro w' hw'; go_simp; try (with_reducible rfl))
      simp only [Act.put]; try simp only [List.setIfInBounds_toArray]; try simp only [List.set_cons_zero, List.set_cons_succ]
      refine wpAnyL_take (i := 34) (d := some 41) (v := ?var34) rfl rfl (by kernel_rfl) (by kernel_rfl) (by kernel_rfl) (fun _ _ _ h => h) (by rfl) ?yar34 ?_
      case yar34 => (intro w' hw'; go_simp; try (with_reducible rfl))
      simp only [Act.put]; try simp only [List.setIfInBounds_toArray]; try simp only [List.set_cons_zero, List.set_cons_succ]
      refine wpAnyL_take (i := 35) (d := some 42) (v := ?var35) rfl rfl (by kernel_rfl) (by kernel_rfl) (by kernel_rfl) (fun _ _ _ h => h) (by rfl) ?yar35 ?_
      case yar35 => (intro w' hw'; go_simp; try (with_reducible rfl))
      simp only [Act.put]; try simp only [List.setIfInBounds_toArray]; try simp only [List.set_cons_zero, List.set_cons_succ]
      refine wpAnyL_take (i := 36) (d := some 43) (v := ?var36) rfl rfl (by kernel_rfl) (by kernel_rfl) (by kernel_rfl) (fun _ _ _ h => h) (by rfl) ?yar36 ?_
      case yar36 => (intro w' hw'; go_simp; try (with_reducible rfl))
      simp only [Act.put]; try simp only [List.setIfInBounds_toArray]; try simp only [List.set_cons_zero, List.set_cons_succ]
      refine wpAnyL_take (i := 37) (d := some 44) (v := .agg #[.string m.op.name, sv]) rfl rfl (by kernel_rfl) (by kernel_rfl) (by kernel_rfl) (fun _ _ _ h => h) (by rfl) ?yar37 ?_
      case yar37 => (intro w' hw'; exact exec_load_box 24 _ (by rfl) w.heap.size 15 (by rfl) 35 _ (HX.out w' (D8.out.trans hw')) 2 _ Tryz.underlying24 (by rfl) (by kernel_rfl) [.string m.op.name, sv] (by rfl) (by rfl))
      simp only [Act.put]; try simp only [List.setIfInBounds_toArray]; try simp only [List.set_cons_zero, List.set_cons_succ]
      refine wpAnyL_take (i := 40) (d := some 47) (v := ?var40) rfl rfl (by kernel_rfl) (by kernel_rfl) (by kernel_rfl) (fun _ _ _ h => h) (by rfl) ?yar40 ?_
      case yar40 => (intro w' hw'; go_simp; try (with_reducible rfl))
      simp only [Act.put]; try simp only [List.setIfInBounds_toArray]; try simp only [List.set_cons_zero, List.set_cons_succ]
      refine wpAnyL_take (i := 41) (d := some 48) (v := ?var41) rfl rfl (by kernel_rfl) (by kernel_rfl) (by kernel_rfl) (fun _ _ _ h => h) (by rfl) ?yar41 ?_
      case yar41 => (intro w' hw'; go_simp; try (with_reducible rfl))
      simp only [Act.put]; try simp only [List.setIfInBounds_toArray]; try simp only [List.set_cons_zero, List.set_cons_succ]
      refine wpAnyL_take (i := 42) (d := some 49) (v := .agg #[.string m.op.name, sv]) rfl rfl (by kernel_rfl) (by kernel_rfl) (by kernel_rfl) (fun _ _ _ h => h) (by rfl) ?yar42 ?_
      case yar42 => (intro w' hw'; exact exec_load_box 24 _ (by rfl) w.heap.size 15 (by rfl) 35 _ (HX.out w' (D8.out.trans hw')) 2 _ Tryz.underlying24 (by rfl) (by kernel_rfl) [.string m.op.name, sv] (by rfl) (by rfl))
      simp only [Act.put]; try simp only [List.setIfInBounds_toArray]; try simp only [List.set_cons_zero, List.set_cons_succ]
      refine wpAnyL_only (i := 38) rfl (by kernel_rfl) (by rfl) fun K hK => ?_
      go_simp
      refine ((show Calls Tryz.prog 15 #[.agg #[.string m.op.name, sv]] v8 (NewBytes v8 (defB m.op.defn)) from by obtain ⟨sA, sc, hsA, _⟩ := FlatAt.shape (HA.out _ (HL0.out.trans D8.out)).1; have S := defbytes_any HSM.out.2.2.2.1 (by omega) (hsA ▸ (HA.out _ (HL0.out.trans D8.out)).1); rw [hsA]; exact S)).mono ?_
      rintro e v9 ⟨B4, n4, c4, rfl, _, hh, _, lb⟩
      have D9 := hide (D8.out.trans (show Later v8 v9 from lb))
      have HH4 : Hid (∀ w', Later v9 w' → Holds w' w'.heap.size B4 n4 (defB m.op.defn)) := fun w' h => hh.later h
      refine hK.out _ _ (show Later v8 v9 from lb) ?_
      clear hh lb
      clear hK K
      try (simp only [Act.put]; try simp only [List.setIfInBounds_toArray]; try simp only [List.set_cons_zero, List.set_cons_succ])
      refine wpAnyL_take (i := 39) (d := some 46) (v := .string SC) rfl rfl (by kernel_rfl) (by kernel_rfl) (by kernel_rfl) (fun _ _ _ h => h) (by rfl) ?yar39 ?_
      case yar39 => (intro w' hw'; have d1 := run_str w' w'.heap.size B4 n4 c4 (defB m.op.defn) (HH4.out w' hw'); rw [HSC.out] at d1; go_simp; try (with_reducible rfl))
      simp only [Act.put]; try simp only [List.setIfInBounds_toArray]; try simp only [List.set_cons_zero, List.set_cons_succ]
      refine wpAnyL_only (i := 43) rfl (by kernel_rfl) (by rfl) fun K hK => ?_
      go_simp
      refine ((show Calls Tryz.prog 16 #[.agg #[.string m.op.name, sv]] v9 (NewBytes v9 (defB m.op.defn)) from by obtain ⟨sA, sc, hsA, _⟩ := FlatAt.shape (HA.out _ (HL0.out.trans D9.out)).1; have S := rdefb_any (d := m.op.defn) (hsA ▸ (HA.out _ (HL0.out.trans D9.out)).1) rfl HSM.out.2.2.2.1 (by omega) HR1.out; rw [hsA]; exact S)).mono ?_
      rintro e v10 ⟨B5, n5, c5, rfl, _, hh, _, lb⟩
      have D10 := hide (D9.out.trans (show Later v9 v10 from lb))
      have HH5 : Hid (∀ w', Later v10 w' → Holds w' w'.heap.size B5 n5 (defB m.op.defn)) := fun w' h => hh.later h
      refine hK.out _ _ (show Later v9 v10 from lb) ?_
      clear hh lb
      clear hK K
      try (simp only [Act.put]; try simp only [List.setIfInBounds_toArray]; try simp only [List.set_cons_zero, List.set_cons_succ])
      refine wpAnyL_take (i := 44) (d := some 51) (v := .string SC) rfl rfl (by kernel_rfl) (by kernel_rfl) (by kernel_rfl) (fun _ _ _ h => h) (by rfl) ?yar44 ?_
      case yar44 => (intro w' hw'; have d1 := run_str w' w'.heap.size B5 n5 c5 (defB m.op.defn) (HH5.out w' hw'); rw [HSC.out] at d1; go_simp; try (with_reducible rfl))
      simp only [Act.put]; try simp only [List.setIfInBounds_toArray]; try simp only [List.set_cons_zero, List.set_cons_succ]
      refine wpAnyL_take (i := 45) (d := some 52) (v := .bool true) rfl rfl (by kernel_rfl) (by kernel_rfl) (by kernel_rfl) (fun _ _ _ h => h) (by rfl) ?yar45 ?_
      case yar45 => (intro w' hw'; go_simp; try (with_reducible rfl))
      simp only [Act.put]; try simp only [List.setIfInBounds_toArray]; try simp only [List.set_cons_zero, List.set_cons_succ]
      refine wpAnyL_take (i := 46) (d := some 53) (v := ?var46) rfl rfl (by kernel_rfl) (by kernel_rfl) (by kernel_rfl) (fun _ _ _ h => h) (by rfl) ?yar46 ?_
      case yar46 => (intro w' hw'; go_simp; try (with_reducible rfl))
      simp only [Act.put]; try simp only [List.setIfInBounds_toArray]; try simp only [List.set_cons_zero, List.set_cons_succ]
      refine wpAnyL_take (i := 47) (d := some 54) (v := ?var47) rfl rfl (by kernel_rfl) (by kernel_rfl) (by kernel_rfl) (fun _ _ _ h => h) (by rfl) ?yar47 ?_
      case yar47 => (intro w' hw'; go_simp; try (with_reducible rfl))
      simp only [Act.put]; try simp only [List.setIfInBounds_toArray]; try simp only [List.set_cons_zero, List.set_cons_succ]
      refine wpAnyL_only (i := 48) rfl (by kernel_rfl) (by rfl) fun K hK => ?_
      go_simp
      refine (lives_any (HT.out _ (HL0.out.trans D10.out))).mono ?_
      rintro e v11 ⟨rfl, lb⟩
      have LF := hide ((HL0.out.trans D10.out).trans lb)
      refine hK.out _ _ lb ?_
      clear lb
      clear hK K
      try (simp only [Act.put]; try simp only [List.setIfInBounds_toArray]; try simp only [List.set_cons_zero, List.set_cons_succ])
      refine wpAnyL_take (i := 49) (d := some 56) (v := ?var49) rfl rfl (by kernel_rfl) (by kernel_rfl) (by kernel_rfl) (fun _ _ _ h => h) (by rfl) ?yar49 ?_
      case yar49 => (intro w' hw'; go_simp; try (with_reducible rfl))
      simp only [Act.put]; try simp only [List.setIfInBounds_toArray]; try simp only [List.set_cons_zero, List.set_cons_succ]
      refine wpAnyL_take (i := 50) (d := some 2) (v := ?var50) rfl rfl (by kernel_rfl) (by kernel_rfl) (by kernel_rfl) (fun _ _ _ h => h) (by rfl) ?yar50 ?_
      case yar50 => (intro w' hw'; go_simp; try (with_reducible rfl))
      simp only [Act.put]; try simp only [List.setIfInBounds_toArray]; try simp only [List.set_cons_zero, List.set_cons_succ]
      refine wpAnyL_done (by kernel_rfl) ?_ _
      go_wp2
      go_ret
      exact ⟨rfl, LF.out⟩
end Go.Proofs.YtehiaeihkdfclaaGreatDoor
namespace Go.Proofs.YtehiaeihkdfclaaGreatDoor
open Go.ChangeShapes Go.WideShapes Go.ChangeAt Go.RowKit

theorem noteBytes_lawKnobs : ownKnob Tryz.prog.godebug = none := by kernel_rfl
theorem noteBytes_allLaid : laidOutB Tryz.prog = true := by kernel_rfl

set_option maxRecDepth 100000 in
set_option maxHeartbeats 1000000 in
theorem noteBytes_lifted (os : Os) (started : os.Started) (H : Type) (enc : TypeId × Value → H) :
    ReturnsInHanded {} Tryz.checked os 3 .any (fun w args => (Rows.noteBytesSpec.pre enc Tryz.prog Tryz.f3 Rows.noteBytesRow.domain false w args ∧ laidMetH Tryz.prog Rows.noteBytesRow.laid w) ∧ sizedMet enc Tryz.prog Tryz.f3 (OpenSpec.ofChange Rows.noteBytesSpec) false w args)
      (Rows.noteBytesSpec.post enc Tryz.prog Tryz.f3 false true false false) := by
  refine returnsInHanded_of_change_and (C := Tryz.checked) (X := fun w _ => laidMetH Tryz.prog Rows.noteBytesRow.laid w) (fun _ _ _ hh h => h.of_heap hh) noteBytes_lawKnobs started (by kernel_rfl) Tryz.func3
    (ChangeSpec.witness_shaped (enc := enc) (C := Tryz.checked) (os := os) (X := fun w _ => laidMetH Tryz.prog Rows.noteBytesRow.laid w) false (World.doorLaid Tryz.prog 400 os) #[.agg #[.int .i64 0, .int .i64 0, .int .i64 0, .int .i64 0, .int .i64 0, .int .i64 0, .int .i64 0, .int .i64 0, .int .i64 0, .bool false, .bool false, .bool false, .int .i64 0, .int .i64 0, .int .i64 0, .string ⟨#[]⟩, .slice none 0 0, .int .i64 0, .int .i64 0, .int .i64 0, .bool false, .bool false, .int .i64 0, .int .i64 0, .int .i64 0, .int .i64 0, .int .i64 0, .int .i64 0, .int .i64 0, .int .i64 0, .int .i64 0, .bool false, .slice none 0 0, .slice none 0 0]] 8 rfl (World.shaped_of_RefB (by kernel_rfl) (by kernel_rfl)) (by kernel_rfl) (by kernel_rfl) (by kernel_rfl) (tab_start os _)) ?_
  intro W base args ds gs before hval0 hW hcnd hsz0 hL _
  have hTab := tab_of_laid hL
  have hval : ∀ (j : Nat) t v, Tryz.f3.params[j]? = some t → args[j]? = some v → Value.okWide Tryz.prog W .any base t v := hval0
  have hW' := hW
  obtain ⟨p, q, hA0, hV, rfl, _, _⟩ := hW
  have hA : DataW.TrodAll enc Tryz.prog W 0 (fun _ => true) true Tryz.f3.params.toList args.toList ds p := hA0
  have hsz : (DataW.weightsEach Tryz.prog (Tryz.f3.params.toList ++ Rows.noteBytesSpec.plain.varTypes Tryz.prog) (ds ++ gs)).all (· ≤ reachBytes) = true := hsz0
  rw [Tryz.params3] at hA hval hsz
  obtain ⟨v0, vs0, d0, ds0, p0, q0, hargs, rfl, rfl, h0, r0⟩ := trodAll_cons hA
  obtain ⟨rfl, rfl, rfl⟩ := trodAll_nil r0
  obtain rfl : args = #[v0] := by cases args; simp_all
  obtain ⟨rfl, rfl⟩ := trodVars_none hV
  have k0 := h0
  have lt0 : ∀ x ∈ p0, x.block < W.heap.size := by obtain ⟨m, hm⟩ := k0; exact DataW.trod_lt m _ _ _ hm
  have s0 : Sm 35 d0 := sm_of hsz (j := 0) rfl rfl
  obtain ⟨cs0, rfl, _⟩ := okWide_struct Tryz.underlying35 (hval 0 35 v0 rfl rfl)
  obtain ⟨x0, sv0, ov0, iv0, rfl, hs0, wf0⟩ := arg_msg h0 s0
  clear hA0 hval0 hL
  refine (law_bytes x0 sv0 ov0 iv0 W hs0 wf0 hTab).mono fun e W' ⟨he, bel0⟩ => ?_
  have bel : Below W.heap.size W W' := bel0
  subst he
  exact ⟨_, rfl, _, _, _, [], _, [], hW', trodAll_mk1 (shut_bool Tryz.underlying4 _), (trodAll_cons_mk (Below.trod noteBytes_allLaid (by kernel_rfl) (of_decide_eq_true (by kernel_rfl)) k0 bel lt0) trodAll_mk0), rfl, bel.frame _, fun h => by cases h⟩

theorem noteBytes_over : Rows.noteBytesRow.holds Tryz.pinned (OpenSpec.ofChange Rows.noteBytesSpec) :=
  OpenClaim.holds_of_wide 3 Tryz.f3 rfl rfl rfl rfl rfl rfl rfl ⟨rfl, rfl, rfl, rfl, rfl⟩ rfl rfl rfl rfl rfl (by kernel_rfl) Tryz.func3 (by kernel_rfl)
    (of_decide_eq_true (by kernel_rfl)) (by unfold Func.isWrapper; first | (rw [if_pos (by decide +kernel)]; kernel_rfl) | (rw [if_neg (by decide +kernel)]; exact ⟨rfl, rfl⟩))
    (fun os started H enc _ => noteBytes_lifted os started H enc)

theorem noteBytes_card : Rows.NoteBytesCardSaid :=
  Claim7.holds_tied_plain_at .later [] _ true _ false noteBytes_over (fun _ h => by cases h) (by kernel_rfl) (fun _ h => by cases h) noteBytes_row_tie rfl ⟨rfl, rfl⟩ (by kernel_rfl) rfl
    (fun f fn hf hfn => by
      obtain rfl : f = 3 := Option.some.inj ((show Tryz.prog.funcNamed "drover/droverlaw09.NoteBytes" = some 3 by kernel_rfl).symm.trans hf) |>.symm
      obtain rfl : fn = Tryz.f3 := (Option.some.inj (Tryz.func3.symm.trans hfn)).symm
      exact ⟨by kernel_rfl, fun j t ht => by
        rw [Tryz.params3] at ht
        have hm : t ∈ [35] := by simpa using Array.mem_of_getElem? ht
        have hall : ([35].all fun u => !Tryz.prog.wantsStandIn u) = true := by kernel_rfl
        exact (show Tryz.prog.wantsStandIn t = false by simpa using List.all_eq_true.1 hall t hm)⟩)
    (by kernel_rfl)
#print axioms noteBytes_card
end Go.Proofs.YtehiaeihkdfclaaGreatDoor
