/- The walk over droverlaw06.OplogNone: a log that no call made has nothing. -/
import Derived.Test.YtgjpdfolnkjhfaaLight6
namespace Go.Proofs.Ytgjpdfolnkjhfaa
open Go.RowKit

theorem Try.infoAct : (Try.prog.info? 37).map (fun i => (i.zero, i.size, i.bytes)) = some (some (.agg actZero), 13, 136) := by kernel_rfl
theorem index_0 (p q : Value) (w : World) : (Instr.index 71 (.agg #[p, q]) (.int .i64 0)).run Try.prog w = .ok p w := by kernel_rfl
theorem index_1 (p q : Value) (w : World) : (Instr.index 71 (.agg #[p, q]) (.int .i64 1)).run Try.prog w = .ok q w := by kernel_rfl
/-- One act, as the slice of one of them that a literal makes. -/
theorem acts_one {F : Nat → Prop} {w w' : World} {a : ActD} {s o : Value} {g : Nat} (h : ALists F w a s o) (hb : Below w.heap.size w w') (hg : w'.heap[g]? = some (.cells (a.cells s o).toArray 37 (0, 0))) :
    ActsIn (fun _ => True) w' (.slice (some ⟨g, 0, none⟩) 1 1) [⟨a, s, o⟩] := by
  obtain ⟨h1, h2⟩ := h.cell
  refine ⟨⟨rfl, ?_, some ⟨g, 0, none⟩, 1, rfl, Nat.le_refl _, by decide, (fun e => by cases e), fun _ => ⟨g, 0, rfl, trivial, lt_of_block hg, fun j v hj => ?_⟩⟩, ?_⟩
  · intro u hu
    simp only [List.flatMap_cons, List.flatMap_nil, List.append_nil] at hu
    exact act_one ⟨a, s, o⟩ h1 h2 u hu
  · rw [Nat.zero_add, cell_of_row w' g j _ _ _ hg]
    simpa [ActV.cells] using hj
  · intro p hp
    obtain rfl : p = ⟨a, s, o⟩ := by simpa using hp
    exact (h.kept (Kept.of_below hb F)).mono (fun _ _ _ => trivial)

set_option maxHeartbeats 6000000 in
set_option maxRecDepth 100000 in
theorem law_none (F : Nat → Prop) (a : ActD) (s o : Value) (w : World) (h : ALists F w a s o) (ha : a.wf) :
    Calls Try.prog 8 #[.agg (a.cells s o).toArray] w fun e w' => e = .returned (.bool true) ∧ Below w.heap.size w w' := by
  obtain ⟨i0, hi, hz0, hz1, hz2⟩ := info_parts Try.infoAct
  obtain ⟨oA, no, oc, rfl⟩ : ∃ oA no oc, o = .slice oA no oc := by
    obtain ⟨ps, _, h2⟩ := h.2
    obtain ⟨A, c, e, _⟩ := FlatAt.shape h2.1
    exact ⟨_, _, _, e⟩
  have H := hide h
  have HA := hide ha
  have BX : Hid (∀ {w' : World}, Below (w.alloc (.cells (a.cells s (.slice oA no oc)).toArray 37 (0, 0))).heap.size (w.alloc (.cells (a.cells s (.slice oA no oc)).toArray 37 (0, 0))) w' → w'.heap[w.heap.size]? = some (.cells (a.cells s (.slice oA no oc)).toArray 37 (0, 0))) :=
    fun {w'} hb => (hb.block w.heap.size (by simp)).trans (heap_alloc_new w _)
  clear h ha
  go_enter Try.func8, Try.ntmps8
  go_wp2_with (first
    | (refine wpList_load_box (by rfl) 37 _ (by rfl) w.heap.size 0 (by rfl) 37 (a.cells s (.slice oA no oc)).toArray (heap_alloc_new w _) 13 _ Try.underlying37 (by rfl) (by kernel_rfl) (a.cells s (.slice oA no oc)) (by rfl) (by rfl) ?_)
    | (refine wpList_buildSlice_one (by rfl) 22 37 _ (by rfl) i0 _ 13 Try.underlying22 hi hz0 hz1 (by decide) (by decide) (a.cells s (.slice oA no oc)).toArray (by rfl) (by rfl) ?_))
  refine (light_any (fun _ => True) _ [⟨a, s, .slice oA no oc⟩] _ (acts_one H.out (((Below.refl _ _).alloc (Nat.le_refl _) _).alloc (by simp) _) (heap_alloc2_new w _ _)) (fun p hp => by rw [List.mem_singleton.1 hp]; exact HA.out)).mono ?_
  rintro e w1 ⟨b, rfl, hok, hb1⟩
  have L1 : Hid (Later (w.alloc (.cells (a.cells s (.slice oA no oc)).toArray 37 (0, 0))) w1) := Later.trans ((Below.refl _ _).alloc (Nat.le_refl _) _) hb1
  clear hb1 hok hi hz0 hz1 hz2
  cases b with
  | false =>
    go_wp2_with (fail)
    refine (lives_any _).mono ?_
    rintro e w2 ⟨rfl, hb2⟩
    have HB2 := hide hb2
    clear hb2
    go_wp2
    go_ret
    exact ⟨rfl, ((Below.refl _ _).alloc (Nat.le_refl _) _).trans ((L1.out.trans HB2.out).mono (by simp))⟩
  | true =>
    go_wp2
    have L2 : Hid (Later (w.alloc (.cells (a.cells s (.slice oA no oc)).toArray 37 (0, 0))) (w1.alloc (.cells #[.pointer none] 70 (0, 0)))) := L1.out.trans ((Below.refl _ _).alloc (Nat.le_refl _) _)
    have BY : Hid (∀ {w' : World}, Later (w1.alloc (.cells #[.pointer none] 70 (0, 0))) w' → w'.heap[w.heap.size]? = some (.cells (a.cells s (.slice oA no oc)).toArray 37 (0, 0))) := fun {w'} hb => BX.out (L2.out.trans hb)
    have NB0 : Hid (∀ w' : World, Later (w1.alloc (.cells #[.pointer none] 70 (0, 0))) w' → NoLog w' (.pointer none)) := fun w' _ => .inl rfl
    have NB1 : Hid (∀ w' : World, Later (w1.alloc (.cells #[.pointer none] 70 (0, 0))) w' → NoLog w' (.pointer (some ⟨w1.heap.size, 0, none⟩))) := fun w' hb => .inr ⟨_, rfl, (Below.block hb w1.heap.size (by simp)).trans (heap_alloc_new w1 _)⟩
    go_loopw [16] (fun j wr => ∃ k : Nat, k ≤ 2 ∧ j = .int .i64 (k : Int) ∧ Later (w1.alloc (.cells #[.pointer none] 70 (0, 0))) wr) (fun j _ => 2 - (Go.RowKit.intOf j).toNat)
    case atStart => exact ⟨0, by omega, rfl, Later.refl _⟩
    case round =>
      obtain ⟨k, hk, rfl, hlr⟩ := hrel
      have LR := hide hlr
      clear hlr
      obtain rfl | rfl | rfl : k = 0 ∨ k = 1 ∨ k = 2 := by omega

      · have NB := NB0
        have hix := index_0 (.pointer none) (.pointer (some ⟨w1.heap.size, 0, none⟩))
        go_wp2_with (refine wpList_load_box (by rfl) 35 _ (by rfl) w.heap.size 2 (by rfl) 37 (a.cells s (.slice oA no oc)).toArray (BY.out LR.out) 10 _ Try.underlying35 (by rfl) (by kernel_rfl) (a.op.cells s) (by rfl) (by rfl) ?_)
        refine (add_no _ a.op s _ (NB.out _ LR.out)).mono ?_
        rintro e wa ⟨rfl, hb⟩
        have LA := hide (LR.out.trans hb)
        have ca := box_cell (BY.out LA.out) 1 (.int .i64 a.n) (by rfl)
        clear hb hix
        go_wp2_with (fail)
        refine (at_no _ a.n _ (NB.out _ LA.out)).mono ?_
        rintro e w4 ⟨rfl, hb⟩
        have L4 := hide (LA.out.trans hb)
        clear hb ca
        go_wp2_with (refine wpList_store_box (by rfl) 35 _ _ (by rfl) (w4.heap.size) 0 zOp (by rfl) (by rfl) 35 zOp (heap_alloc_new w4 _) (by kernel_rfl) (by exact Nat.le_refl 10) (by exact zOp_one) ?_; intro w5 hb5 hg5; have Lw5 := hide (Later.trans L4.out (((Below.refl _ _).alloc (Nat.le_refl _) _).grown hg5 (by simp) (fun k hk => by have := Option.some.inj hk; omega))); clear hb5 hg5)
        have Lw5 : Hid (Later _ w5.drew) := Lw5.out.trans (Later.drew _)
        refine wp_region_L (by kernel_rfl) ?_
        refine wpAnyL_take (i := 0) (d := some 33) (v := ?vap0) rfl rfl (by kernel_rfl) (by kernel_rfl) (by kernel_rfl) (fun _ _ _ h => h) (by rfl) ?yap0 ?_
        case yap0 => (intro w' hw'; go_simp; try (with_reducible rfl))
        simp only [Act.put]; try simp only [List.setIfInBounds_toArray]; try simp only [List.set_cons_zero, List.set_cons_succ]
        refine wpAnyL_take (i := 1) (d := some 34) (v := ?vap1) rfl rfl (by kernel_rfl) (by kernel_rfl) (by kernel_rfl) (fun _ _ _ h => h) (by rfl) ?yap1 ?_
        case yap1 => (intro w' hw'; go_simp; try (with_reducible rfl))
        simp only [Act.put]; try simp only [List.setIfInBounds_toArray]; try simp only [List.set_cons_zero, List.set_cons_succ]
        refine wpAnyL_take (i := 2) (d := some 35) (v := ?vap2) rfl rfl (by kernel_rfl) (by kernel_rfl) (by kernel_rfl) (fun _ _ _ h => h) (by rfl) ?yap2 ?_
        case yap2 => (intro w' hw'; go_simp; try (with_reducible rfl))
        simp only [Act.put]; try simp only [List.setIfInBounds_toArray]; try simp only [List.set_cons_zero, List.set_cons_succ]
        refine wpAnyL_take (i := 3) (d := some 36) (v := ?vap3) rfl rfl (by kernel_rfl) (by kernel_rfl) (by kernel_rfl) (fun _ _ _ h => h) (by rfl) ?yap3 ?_
        case yap3 => (intro w' hw'; go_simp; try (with_reducible rfl))
        simp only [Act.put]; try simp only [List.setIfInBounds_toArray]; try simp only [List.set_cons_zero, List.set_cons_succ]
        refine wpAnyL_take (i := 4) (d := some 37) (v := ?vap4) rfl rfl (by kernel_rfl) (by kernel_rfl) (by kernel_rfl) (fun _ _ _ h => h) (by rfl) ?yap4 ?_
        case yap4 => (intro w' hw'; go_simp; try (with_reducible rfl))
        simp only [Act.put]; try simp only [List.setIfInBounds_toArray]; try simp only [List.set_cons_zero, List.set_cons_succ]
        refine wpAnyL_take (i := 5) (d := some 38) (v := ?vap5) rfl rfl (by kernel_rfl) (by kernel_rfl) (by kernel_rfl) (fun _ _ _ h => h) (by rfl) ?yap5 ?_
        case yap5 => (intro w' hw'; go_simp; try (with_reducible rfl))
        simp only [Act.put]; try simp only [List.setIfInBounds_toArray]; try simp only [List.set_cons_zero, List.set_cons_succ]
        refine wpAnyL_take (i := 6) (d := some 39) (v := ?vap6) rfl rfl (by kernel_rfl) (by kernel_rfl) (by kernel_rfl) (fun _ _ _ h => h) (by rfl) ?yap6 ?_
        case yap6 => (intro w' hw'; go_simp; try (with_reducible rfl))
        simp only [Act.put]; try simp only [List.setIfInBounds_toArray]; try simp only [List.set_cons_zero, List.set_cons_succ]
        refine wpAnyL_take (i := 7) (d := some 40) (v := ?vap7) rfl rfl (by kernel_rfl) (by kernel_rfl) (by kernel_rfl) (fun _ _ _ h => h) (by rfl) ?yap7 ?_
        case yap7 => (intro w' hw'; go_simp; try (with_reducible rfl))
        simp only [Act.put]; try simp only [List.setIfInBounds_toArray]; try simp only [List.set_cons_zero, List.set_cons_succ]
        refine wpAnyL_take (i := 8) (d := some 41) (v := ?vap8) rfl rfl (by kernel_rfl) (by kernel_rfl) (by kernel_rfl) (fun _ _ _ h => h) (by rfl) ?yap8 ?_
        case yap8 => (intro w' hw'; have hc := box_cell (BY.out (Lw5.out.trans hw')) 1 (.int .i64 a.n) (by rfl); go_simp; try (with_reducible rfl))
        simp only [Act.put]; try simp only [List.setIfInBounds_toArray]; try simp only [List.set_cons_zero, List.set_cons_succ]
        refine wpAnyL_only (i := 9) rfl (by kernel_rfl) (by rfl) fun K hK => ?_
        go_simp
        refine (err_no_cut _ a.n _ (NB.out _ Lw5.out)).mono ?_
        rintro e wq ⟨rfl, rfl⟩
        refine hK.out _ _ (Later.refl _) ?_
        clear hK K
        try (simp only [Act.put]; try simp only [List.setIfInBounds_toArray]; try simp only [List.set_cons_zero, List.set_cons_succ])
        refine wpAnyL_take (i := 10) (d := some 43) (v := ?vap10) rfl rfl (by kernel_rfl) (by kernel_rfl) (by kernel_rfl) (fun _ _ _ h => h) (by rfl) ?yap10 ?_
        case yap10 => (intro w' hw'; go_simp; try (with_reducible rfl))
        simp only [Act.put]; try simp only [List.setIfInBounds_toArray]; try simp only [List.set_cons_zero, List.set_cons_succ]
        refine wpAnyL_take (i := 11) (d := some 44) (v := ?vap11) rfl rfl (by kernel_rfl) (by kernel_rfl) (by kernel_rfl) (fun _ _ _ h => h) (by rfl) ?yap11 ?_
        case yap11 => (intro w' hw'; go_simp; try (with_reducible rfl))
        simp only [Act.put]; try simp only [List.setIfInBounds_toArray]; try simp only [List.set_cons_zero, List.set_cons_succ]
        refine wpAnyL_take (i := 12) (d := some 45) (v := ?vap12) rfl rfl (by kernel_rfl) (by kernel_rfl) (by kernel_rfl) (fun _ _ _ h => h) (by rfl) ?yap12 ?_
        case yap12 => (intro w' hw'; go_simp; try (with_reducible rfl))
        simp only [Act.put]; try simp only [List.setIfInBounds_toArray]; try simp only [List.set_cons_zero, List.set_cons_succ]
        refine wpAnyL_take (i := 13) (d := some 46) (v := ?vap13) rfl rfl (by kernel_rfl) (by kernel_rfl) (by kernel_rfl) (fun _ _ _ h => h) (by rfl) ?yap13 ?_
        case yap13 => (intro w' hw'; go_simp; try (with_reducible rfl))
        simp only [Act.put]; try simp only [List.setIfInBounds_toArray]; try simp only [List.set_cons_zero, List.set_cons_succ]
        refine wpAnyL_take (i := 14) (d := some 47) (v := ?vap14) rfl rfl (by kernel_rfl) (by kernel_rfl) (by kernel_rfl) (fun _ _ _ h => h) (by rfl) ?yap14 ?_
        case yap14 => (intro w' hw'; go_simp; try (with_reducible rfl))
        simp only [Act.put]; try simp only [List.setIfInBounds_toArray]; try simp only [List.set_cons_zero, List.set_cons_succ]
        refine wpAnyL_take (i := 15) (d := some 48) (v := ?vap15) rfl rfl (by kernel_rfl) (by kernel_rfl) (by kernel_rfl) (fun _ _ _ h => h) (by rfl) ?yap15 ?_
        case yap15 => (intro w' hw'; have hc := box_cell (BY.out (Lw5.out.trans hw')) 1 (.int .i64 a.n) (by rfl); go_simp; try (with_reducible rfl))
        simp only [Act.put]; try simp only [List.setIfInBounds_toArray]; try simp only [List.set_cons_zero, List.set_cons_succ]
        refine wpAnyL_take (i := 16) (d := some 49) (v := ?vap16) rfl rfl (by kernel_rfl) (by kernel_rfl) (by kernel_rfl) (fun _ _ _ h => h) (by rfl) ?yap16 ?_
        case yap16 => (intro w' hw'; go_simp; try (with_reducible rfl))
        simp only [Act.put]; try simp only [List.setIfInBounds_toArray]; try simp only [List.set_cons_zero, List.set_cons_succ]
        refine wpAnyL_take (i := 17) (d := some 50) (v := ?vap17) rfl rfl (by kernel_rfl) (by kernel_rfl) (by kernel_rfl) (fun _ _ _ h => h) (by rfl) ?yap17 ?_
        case yap17 => (intro w' hw'; have hc := box_cell (BY.out (Lw5.out.trans hw')) 12 (.slice oA no oc) (by rfl); go_simp; try (with_reducible rfl))
        simp only [Act.put]; try simp only [List.setIfInBounds_toArray]; try simp only [List.set_cons_zero, List.set_cons_succ]
        refine wpAnyL_only (i := 18) rfl (by kernel_rfl) (by rfl) fun K hK => ?_
        go_simp
        refine (err_no_join _ a.n oA no oc _ (NB.out _ Lw5.out)).mono ?_
        rintro e wq ⟨rfl, rfl⟩
        refine hK.out _ _ (Later.refl _) ?_
        clear hK K
        try (simp only [Act.put]; try simp only [List.setIfInBounds_toArray]; try simp only [List.set_cons_zero, List.set_cons_succ])
        refine wpAnyL_take (i := 19) (d := some 52) (v := ?vap19) rfl rfl (by kernel_rfl) (by kernel_rfl) (by kernel_rfl) (fun _ _ _ h => h) (by rfl) ?yap19 ?_
        case yap19 => (intro w' hw'; go_simp; try (with_reducible rfl))
        simp only [Act.put]; try simp only [List.setIfInBounds_toArray]; try simp only [List.set_cons_zero, List.set_cons_succ]
        refine wpAnyL_take (i := 20) (d := some 53) (v := ?vap20) rfl rfl (by kernel_rfl) (by kernel_rfl) (by kernel_rfl) (fun _ _ _ h => h) (by rfl) ?yap20 ?_
        case yap20 => (intro w' hw'; go_simp; try (with_reducible rfl))
        simp only [Act.put]; try simp only [List.setIfInBounds_toArray]; try simp only [List.set_cons_zero, List.set_cons_succ]
        refine wpAnyL_take (i := 21) (d := some 54) (v := ?vap21) rfl rfl (by kernel_rfl) (by kernel_rfl) (by kernel_rfl) (fun _ _ _ h => h) (by rfl) ?yap21 ?_
        case yap21 => (intro w' hw'; go_simp; try (with_reducible rfl))
        simp only [Act.put]; try simp only [List.setIfInBounds_toArray]; try simp only [List.set_cons_zero, List.set_cons_succ]
        refine wpAnyL_take (i := 22) (d := some 55) (v := ?vap22) rfl rfl (by kernel_rfl) (by kernel_rfl) (by kernel_rfl) (fun _ _ _ h => h) (by rfl) ?yap22 ?_
        case yap22 => (intro w' hw'; go_simp; try (with_reducible rfl))
        simp only [Act.put]; try simp only [List.setIfInBounds_toArray]; try simp only [List.set_cons_zero, List.set_cons_succ]
        refine wpAnyL_take (i := 23) (d := some 56) (v := ?vap23) rfl rfl (by kernel_rfl) (by kernel_rfl) (by kernel_rfl) (fun _ _ _ h => h) (by rfl) ?yap23 ?_
        case yap23 => (intro w' hw'; go_simp; try (with_reducible rfl))
        simp only [Act.put]; try simp only [List.setIfInBounds_toArray]; try simp only [List.set_cons_zero, List.set_cons_succ]
        refine wpAnyL_take (i := 24) (d := some 57) (v := ?vap24) rfl rfl (by kernel_rfl) (by kernel_rfl) (by kernel_rfl) (fun _ _ _ h => h) (by rfl) ?yap24 ?_
        case yap24 => (intro w' hw'; have hc := box_cell (BY.out (Lw5.out.trans hw')) 12 (.slice oA no oc) (by rfl); go_simp; try (with_reducible rfl))
        simp only [Act.put]; try simp only [List.setIfInBounds_toArray]; try simp only [List.set_cons_zero, List.set_cons_succ]
        refine wpAnyL_take (i := 25) (d := some 58) (v := ?vap25) rfl rfl (by kernel_rfl) (by kernel_rfl) (by kernel_rfl) (fun _ _ _ h => h) (by rfl) ?yap25 ?_
        case yap25 => (intro w' hw'; go_simp; try (with_reducible rfl))
        simp only [Act.put]; try simp only [List.setIfInBounds_toArray]; try simp only [List.set_cons_zero, List.set_cons_succ]
        refine wpAnyL_take (i := 26) (d := some 59) (v := ?vap26) rfl rfl (by kernel_rfl) (by kernel_rfl) (by kernel_rfl) (fun _ _ _ h => h) (by rfl) ?yap26 ?_
        case yap26 => (intro w' hw'; have hc := box_cell (BY.out (Lw5.out.trans hw')) 1 (.int .i64 a.n) (by rfl); go_simp; try (with_reducible rfl))
        simp only [Act.put]; try simp only [List.setIfInBounds_toArray]; try simp only [List.set_cons_zero, List.set_cons_succ]
        refine wpAnyL_only (i := 27) rfl (by kernel_rfl) (by rfl) fun K hK => ?_
        go_simp
        refine (replace_no _ a.n oA no oc _ (NB.out _ Lw5.out)).mono ?_
        rintro e wq ⟨rfl, rfl⟩
        refine hK.out _ _ (Later.refl _) ?_
        clear hK K
        try (simp only [Act.put]; try simp only [List.setIfInBounds_toArray]; try simp only [List.set_cons_zero, List.set_cons_succ])
        refine wpAnyL_take (i := 28) (d := some 61) (v := ?vap28) rfl rfl (by kernel_rfl) (by kernel_rfl) (by kernel_rfl) (fun _ _ _ h => h) (by rfl) ?yap28 ?_
        case yap28 => (intro w' hw'; go_simp; try (with_reducible rfl))
        simp only [Act.put]; try simp only [List.setIfInBounds_toArray]; try simp only [List.set_cons_zero, List.set_cons_succ]
        refine wpAnyL_take (i := 29) (d := some 62) (v := ?vap29) rfl rfl (by kernel_rfl) (by kernel_rfl) (by kernel_rfl) (fun _ _ _ h => h) (by rfl) ?yap29 ?_
        case yap29 => (intro w' hw'; go_simp; try (with_reducible rfl))
        simp only [Act.put]; try simp only [List.setIfInBounds_toArray]; try simp only [List.set_cons_zero, List.set_cons_succ]
        refine wpAnyL_take (i := 30) (d := some 63) (v := ?vap30) rfl rfl (by kernel_rfl) (by kernel_rfl) (by kernel_rfl) (fun _ _ _ h => h) (by rfl) ?yap30 ?_
        case yap30 => (intro w' hw'; go_simp; try (with_reducible rfl))
        simp only [Act.put]; try simp only [List.setIfInBounds_toArray]; try simp only [List.set_cons_zero, List.set_cons_succ]
        refine wpAnyL_take (i := 31) (d := some 64) (v := ?vap31) rfl rfl (by kernel_rfl) (by kernel_rfl) (by kernel_rfl) (fun _ _ _ h => h) (by rfl) ?yap31 ?_
        case yap31 => (intro w' hw'; go_simp; try (with_reducible rfl))
        simp only [Act.put]; try simp only [List.setIfInBounds_toArray]; try simp only [List.set_cons_zero, List.set_cons_succ]
        refine wpAnyL_take (i := 33) (d := some 66) (v := ?vap33) rfl rfl (by kernel_rfl) (by kernel_rfl) (by kernel_rfl) (fun _ _ _ h => h) (by rfl) ?yap33 ?_
        case yap33 => (intro w' hw'; go_simp; try (with_reducible rfl))
        simp only [Act.put]; try simp only [List.setIfInBounds_toArray]; try simp only [List.set_cons_zero, List.set_cons_succ]
        refine wpAnyL_take (i := 36) (d := some 69) (v := ?vap36) rfl rfl (by kernel_rfl) (by kernel_rfl) (by kernel_rfl) (fun _ _ _ h => h) (by rfl) ?yap36 ?_
        case yap36 => (intro w' hw'; go_simp; try (with_reducible rfl))
        simp only [Act.put]; try simp only [List.setIfInBounds_toArray]; try simp only [List.set_cons_zero, List.set_cons_succ]
        refine wpAnyL_take (i := 37) (d := some 70) (v := ?vap37) rfl rfl (by kernel_rfl) (by kernel_rfl) (by kernel_rfl) (fun _ _ _ h => h) (by rfl) ?yap37 ?_
        case yap37 => (intro w' hw'; go_simp; try (with_reducible rfl))
        simp only [Act.put]; try simp only [List.setIfInBounds_toArray]; try simp only [List.set_cons_zero, List.set_cons_succ]
        refine wpAnyL_take (i := 38) (d := some 71) (v := ?vap38) rfl rfl (by kernel_rfl) (by kernel_rfl) (by kernel_rfl) (fun _ _ _ h => h) (by rfl) ?yap38 ?_
        case yap38 => (intro w' hw'; have hc := box_cell (BY.out (Lw5.out.trans hw')) 1 (.int .i64 a.n) (by rfl); go_simp; try (with_reducible rfl))
        simp only [Act.put]; try simp only [List.setIfInBounds_toArray]; try simp only [List.set_cons_zero, List.set_cons_succ]
        refine wpAnyL_take (i := 42) (d := some 75) (v := ?vap42) rfl rfl (by kernel_rfl) (by kernel_rfl) (by kernel_rfl) (fun _ _ _ h => h) (by rfl) ?yap42 ?_
        case yap42 => (intro w' hw'; go_simp; try (with_reducible rfl))
        simp only [Act.put]; try simp only [List.setIfInBounds_toArray]; try simp only [List.set_cons_zero, List.set_cons_succ]
        refine wpAnyL_take (i := 43) (d := some 76) (v := ?vap43) rfl rfl (by kernel_rfl) (by kernel_rfl) (by kernel_rfl) (fun _ _ _ h => h) (by rfl) ?yap43 ?_
        case yap43 => (intro w' hw'; go_simp; try (with_reducible rfl))
        simp only [Act.put]; try simp only [List.setIfInBounds_toArray]; try simp only [List.set_cons_zero, List.set_cons_succ]
        refine wpAnyL_take (i := 44) (d := some 77) (v := ?vap44) rfl rfl (by kernel_rfl) (by kernel_rfl) (by kernel_rfl) (fun _ _ _ h => h) (by rfl) ?yap44 ?_
        case yap44 => (intro w' hw'; have hc := box_cell (BY.out (Lw5.out.trans hw')) 1 (.int .i64 a.n) (by rfl); go_simp; try (with_reducible rfl))
        simp only [Act.put]; try simp only [List.setIfInBounds_toArray]; try simp only [List.set_cons_zero, List.set_cons_succ]
        refine wpAnyL_only (i := 32) rfl (by kernel_rfl) (by rfl) fun K hK => ?_
        go_simp
        refine (last_no _ _ (NB.out _ Lw5.out)).mono ?_
        rintro e wq ⟨rfl, rfl⟩
        refine hK.out _ _ (Later.refl _) ?_
        clear hK K
        try (simp only [Act.put]; try simp only [List.setIfInBounds_toArray]; try simp only [List.set_cons_zero, List.set_cons_succ])
        refine wpAnyL_only (i := 34) rfl (by kernel_rfl) (by rfl) fun K hK => ?_
        go_simp
        refine (committed_no _ _ (NB.out _ Lw5.out)).mono ?_
        rintro e wq ⟨rfl, rfl⟩
        refine hK.out _ _ (Later.refl _) ?_
        clear hK K
        try (simp only [Act.put]; try simp only [List.setIfInBounds_toArray]; try simp only [List.set_cons_zero, List.set_cons_succ])
        refine wpAnyL_take (i := 35) (d := some 68) (v := ?vap35) rfl rfl (by kernel_rfl) (by kernel_rfl) (by kernel_rfl) (fun _ _ _ h => h) (by rfl) ?yap35 ?_
        case yap35 => (intro w' hw'; go_simp; try (with_reducible rfl))
        simp only [Act.put]; try simp only [List.setIfInBounds_toArray]; try simp only [List.set_cons_zero, List.set_cons_succ]
        refine wpAnyL_only (i := 39) rfl (by kernel_rfl) (by rfl) fun K hK => ?_
        go_simp
        refine (commit_no _ a.n _ (NB.out _ Lw5.out)).mono ?_
        rintro e w6 ⟨rfl, hbq⟩
        have Lw6 := hide (Lw5.out.trans hbq)
        have HBQ := hide hbq
        clear hbq
        refine hK.out _ _ HBQ.out ?_
        clear HBQ
        clear hK K
        try (simp only [Act.put]; try simp only [List.setIfInBounds_toArray]; try simp only [List.set_cons_zero, List.set_cons_succ])
        refine wpAnyL_take (i := 40) (d := some 73) (v := ?vap40) rfl rfl (by kernel_rfl) (by kernel_rfl) (by kernel_rfl) (fun _ _ _ h => h) (by rfl) ?yap40 ?_
        case yap40 => (intro w' hw'; go_simp; try (with_reducible rfl))
        simp only [Act.put]; try simp only [List.setIfInBounds_toArray]; try simp only [List.set_cons_zero, List.set_cons_succ]
        refine wpAnyL_take (i := 41) (d := some 74) (v := ?vap41) rfl rfl (by kernel_rfl) (by kernel_rfl) (by kernel_rfl) (fun _ _ _ h => h) (by rfl) ?yap41 ?_
        case yap41 => (intro w' hw'; go_simp; try (with_reducible rfl))
        simp only [Act.put]; try simp only [List.setIfInBounds_toArray]; try simp only [List.set_cons_zero, List.set_cons_succ]
        refine wpAnyL_only (i := 45) rfl (by kernel_rfl) (by rfl) fun K hK => ?_
        go_simp
        refine (since_no _ a.n _ (NB.out _ Lw6.out)).mono ?_
        rintro e w7 ⟨rfl, hbq⟩
        have Lw7 := hide (Lw6.out.trans hbq)
        have HBQ := hide hbq
        clear hbq
        refine hK.out _ _ HBQ.out ?_
        clear HBQ
        clear hK K
        try (simp only [Act.put]; try simp only [List.setIfInBounds_toArray]; try simp only [List.set_cons_zero, List.set_cons_succ])
        refine wpAnyL_take (i := 46) (d := some 79) (v := ?vap46) rfl rfl (by kernel_rfl) (by kernel_rfl) (by kernel_rfl) (fun _ _ _ h => h) (by rfl) ?yap46 ?_
        case yap46 => (intro w' hw'; go_simp; try (with_reducible rfl))
        simp only [Act.put]; try simp only [List.setIfInBounds_toArray]; try simp only [List.set_cons_zero, List.set_cons_succ]
        refine wpAnyL_take (i := 47) (d := some 80) (v := ?vap47) rfl rfl (by kernel_rfl) (by kernel_rfl) (by kernel_rfl) (fun _ _ _ h => h) (by rfl) ?yap47 ?_
        case yap47 => (intro w' hw'; go_simp; try (with_reducible rfl))
        simp only [Act.put]; try simp only [List.setIfInBounds_toArray]; try simp only [List.set_cons_zero, List.set_cons_succ]
        refine wpAnyL_take (i := 48) (d := some 81) (v := ?vap48) rfl rfl (by kernel_rfl) (by kernel_rfl) (by kernel_rfl) (fun _ _ _ h => h) (by rfl) ?yap48 ?_
        case yap48 => (intro w' hw'; go_simp; try (with_reducible rfl))
        simp only [Act.put]; try simp only [List.setIfInBounds_toArray]; try simp only [List.set_cons_zero, List.set_cons_succ]
        refine wpAnyL_take (i := 49) (d := some 82) (v := ?vap49) rfl rfl (by kernel_rfl) (by kernel_rfl) (by kernel_rfl) (fun _ _ _ h => h) (by rfl) ?yap49 ?_
        case yap49 => (intro w' hw'; go_simp; try (with_reducible rfl))
        simp only [Act.put]; try simp only [List.setIfInBounds_toArray]; try simp only [List.set_cons_zero, List.set_cons_succ]
        refine wpAnyL_done (by kernel_rfl) ?_ _
        go_wp2
        all_goals go_roundw
        case rel => exact ⟨1, by omega, by first | rfl | go_num, Lw7.out⟩
        case measure => simp [Go.RowKit.intOf]

      · have NB := NB1
        have hix := index_1 (.pointer none) (.pointer (some ⟨w1.heap.size, 0, none⟩))
        go_wp2_with (refine wpList_load_box (by rfl) 35 _ (by rfl) w.heap.size 2 (by rfl) 37 (a.cells s (.slice oA no oc)).toArray (BY.out LR.out) 10 _ Try.underlying35 (by rfl) (by kernel_rfl) (a.op.cells s) (by rfl) (by rfl) ?_)
        refine (add_no _ a.op s _ (NB.out _ LR.out)).mono ?_
        rintro e wa ⟨rfl, hb⟩
        have LA := hide (LR.out.trans hb)
        have ca := box_cell (BY.out LA.out) 1 (.int .i64 a.n) (by rfl)
        clear hb hix
        go_wp2_with (fail)
        refine (at_no _ a.n _ (NB.out _ LA.out)).mono ?_
        rintro e w4 ⟨rfl, hb⟩
        have L4 := hide (LA.out.trans hb)
        clear hb ca
        go_wp2_with (refine wpList_store_box (by rfl) 35 _ _ (by rfl) (w4.heap.size) 0 zOp (by rfl) (by rfl) 35 zOp (heap_alloc_new w4 _) (by kernel_rfl) (by exact Nat.le_refl 10) (by exact zOp_one) ?_; intro w5 hb5 hg5; have Lw5 := hide (Later.trans L4.out (((Below.refl _ _).alloc (Nat.le_refl _) _).grown hg5 (by simp) (fun k hk => by have := Option.some.inj hk; omega))); clear hb5 hg5)
        have Lw5 : Hid (Later _ w5.drew) := Lw5.out.trans (Later.drew _)
        refine wp_region_L (by kernel_rfl) ?_
        refine wpAnyL_take (i := 0) (d := some 33) (v := ?vaq0) rfl rfl (by kernel_rfl) (by kernel_rfl) (by kernel_rfl) (fun _ _ _ h => h) (by rfl) ?yaq0 ?_
        case yaq0 => (intro w' hw'; go_simp; try (with_reducible rfl))
        simp only [Act.put]; try simp only [List.setIfInBounds_toArray]; try simp only [List.set_cons_zero, List.set_cons_succ]
        refine wpAnyL_take (i := 1) (d := some 34) (v := ?vaq1) rfl rfl (by kernel_rfl) (by kernel_rfl) (by kernel_rfl) (fun _ _ _ h => h) (by rfl) ?yaq1 ?_
        case yaq1 => (intro w' hw'; go_simp; try (with_reducible rfl))
        simp only [Act.put]; try simp only [List.setIfInBounds_toArray]; try simp only [List.set_cons_zero, List.set_cons_succ]
        refine wpAnyL_take (i := 2) (d := some 35) (v := ?vaq2) rfl rfl (by kernel_rfl) (by kernel_rfl) (by kernel_rfl) (fun _ _ _ h => h) (by rfl) ?yaq2 ?_
        case yaq2 => (intro w' hw'; go_simp; try (with_reducible rfl))
        simp only [Act.put]; try simp only [List.setIfInBounds_toArray]; try simp only [List.set_cons_zero, List.set_cons_succ]
        refine wpAnyL_take (i := 3) (d := some 36) (v := ?vaq3) rfl rfl (by kernel_rfl) (by kernel_rfl) (by kernel_rfl) (fun _ _ _ h => h) (by rfl) ?yaq3 ?_
        case yaq3 => (intro w' hw'; go_simp; try (with_reducible rfl))
        simp only [Act.put]; try simp only [List.setIfInBounds_toArray]; try simp only [List.set_cons_zero, List.set_cons_succ]
        refine wpAnyL_take (i := 4) (d := some 37) (v := ?vaq4) rfl rfl (by kernel_rfl) (by kernel_rfl) (by kernel_rfl) (fun _ _ _ h => h) (by rfl) ?yaq4 ?_
        case yaq4 => (intro w' hw'; go_simp; try (with_reducible rfl))
        simp only [Act.put]; try simp only [List.setIfInBounds_toArray]; try simp only [List.set_cons_zero, List.set_cons_succ]
        refine wpAnyL_take (i := 5) (d := some 38) (v := ?vaq5) rfl rfl (by kernel_rfl) (by kernel_rfl) (by kernel_rfl) (fun _ _ _ h => h) (by rfl) ?yaq5 ?_
        case yaq5 => (intro w' hw'; go_simp; try (with_reducible rfl))
        simp only [Act.put]; try simp only [List.setIfInBounds_toArray]; try simp only [List.set_cons_zero, List.set_cons_succ]
        refine wpAnyL_take (i := 6) (d := some 39) (v := ?vaq6) rfl rfl (by kernel_rfl) (by kernel_rfl) (by kernel_rfl) (fun _ _ _ h => h) (by rfl) ?yaq6 ?_
        case yaq6 => (intro w' hw'; go_simp; try (with_reducible rfl))
        simp only [Act.put]; try simp only [List.setIfInBounds_toArray]; try simp only [List.set_cons_zero, List.set_cons_succ]
        refine wpAnyL_take (i := 7) (d := some 40) (v := ?vaq7) rfl rfl (by kernel_rfl) (by kernel_rfl) (by kernel_rfl) (fun _ _ _ h => h) (by rfl) ?yaq7 ?_
        case yaq7 => (intro w' hw'; go_simp; try (with_reducible rfl))
        simp only [Act.put]; try simp only [List.setIfInBounds_toArray]; try simp only [List.set_cons_zero, List.set_cons_succ]
        refine wpAnyL_take (i := 8) (d := some 41) (v := ?vaq8) rfl rfl (by kernel_rfl) (by kernel_rfl) (by kernel_rfl) (fun _ _ _ h => h) (by rfl) ?yaq8 ?_
        case yaq8 => (intro w' hw'; have hc := box_cell (BY.out (Lw5.out.trans hw')) 1 (.int .i64 a.n) (by rfl); go_simp; try (with_reducible rfl))
        simp only [Act.put]; try simp only [List.setIfInBounds_toArray]; try simp only [List.set_cons_zero, List.set_cons_succ]
        refine wpAnyL_only (i := 9) rfl (by kernel_rfl) (by rfl) fun K hK => ?_
        go_simp
        refine (err_no_cut _ a.n _ (NB.out _ Lw5.out)).mono ?_
        rintro e wq ⟨rfl, rfl⟩
        refine hK.out _ _ (Later.refl _) ?_
        clear hK K
        try (simp only [Act.put]; try simp only [List.setIfInBounds_toArray]; try simp only [List.set_cons_zero, List.set_cons_succ])
        refine wpAnyL_take (i := 10) (d := some 43) (v := ?vaq10) rfl rfl (by kernel_rfl) (by kernel_rfl) (by kernel_rfl) (fun _ _ _ h => h) (by rfl) ?yaq10 ?_
        case yaq10 => (intro w' hw'; go_simp; try (with_reducible rfl))
        simp only [Act.put]; try simp only [List.setIfInBounds_toArray]; try simp only [List.set_cons_zero, List.set_cons_succ]
        refine wpAnyL_take (i := 11) (d := some 44) (v := ?vaq11) rfl rfl (by kernel_rfl) (by kernel_rfl) (by kernel_rfl) (fun _ _ _ h => h) (by rfl) ?yaq11 ?_
        case yaq11 => (intro w' hw'; go_simp; try (with_reducible rfl))
        simp only [Act.put]; try simp only [List.setIfInBounds_toArray]; try simp only [List.set_cons_zero, List.set_cons_succ]
        refine wpAnyL_take (i := 12) (d := some 45) (v := ?vaq12) rfl rfl (by kernel_rfl) (by kernel_rfl) (by kernel_rfl) (fun _ _ _ h => h) (by rfl) ?yaq12 ?_
        case yaq12 => (intro w' hw'; go_simp; try (with_reducible rfl))
        simp only [Act.put]; try simp only [List.setIfInBounds_toArray]; try simp only [List.set_cons_zero, List.set_cons_succ]
        refine wpAnyL_take (i := 13) (d := some 46) (v := ?vaq13) rfl rfl (by kernel_rfl) (by kernel_rfl) (by kernel_rfl) (fun _ _ _ h => h) (by rfl) ?yaq13 ?_
        case yaq13 => (intro w' hw'; go_simp; try (with_reducible rfl))
        simp only [Act.put]; try simp only [List.setIfInBounds_toArray]; try simp only [List.set_cons_zero, List.set_cons_succ]
        refine wpAnyL_take (i := 14) (d := some 47) (v := ?vaq14) rfl rfl (by kernel_rfl) (by kernel_rfl) (by kernel_rfl) (fun _ _ _ h => h) (by rfl) ?yaq14 ?_
        case yaq14 => (intro w' hw'; go_simp; try (with_reducible rfl))
        simp only [Act.put]; try simp only [List.setIfInBounds_toArray]; try simp only [List.set_cons_zero, List.set_cons_succ]
        refine wpAnyL_take (i := 15) (d := some 48) (v := ?vaq15) rfl rfl (by kernel_rfl) (by kernel_rfl) (by kernel_rfl) (fun _ _ _ h => h) (by rfl) ?yaq15 ?_
        case yaq15 => (intro w' hw'; have hc := box_cell (BY.out (Lw5.out.trans hw')) 1 (.int .i64 a.n) (by rfl); go_simp; try (with_reducible rfl))
        simp only [Act.put]; try simp only [List.setIfInBounds_toArray]; try simp only [List.set_cons_zero, List.set_cons_succ]
        refine wpAnyL_take (i := 16) (d := some 49) (v := ?vaq16) rfl rfl (by kernel_rfl) (by kernel_rfl) (by kernel_rfl) (fun _ _ _ h => h) (by rfl) ?yaq16 ?_
        case yaq16 => (intro w' hw'; go_simp; try (with_reducible rfl))
        simp only [Act.put]; try simp only [List.setIfInBounds_toArray]; try simp only [List.set_cons_zero, List.set_cons_succ]
        refine wpAnyL_take (i := 17) (d := some 50) (v := ?vaq17) rfl rfl (by kernel_rfl) (by kernel_rfl) (by kernel_rfl) (fun _ _ _ h => h) (by rfl) ?yaq17 ?_
        case yaq17 => (intro w' hw'; have hc := box_cell (BY.out (Lw5.out.trans hw')) 12 (.slice oA no oc) (by rfl); go_simp; try (with_reducible rfl))
        simp only [Act.put]; try simp only [List.setIfInBounds_toArray]; try simp only [List.set_cons_zero, List.set_cons_succ]
        refine wpAnyL_only (i := 18) rfl (by kernel_rfl) (by rfl) fun K hK => ?_
        go_simp
        refine (err_no_join _ a.n oA no oc _ (NB.out _ Lw5.out)).mono ?_
        rintro e wq ⟨rfl, rfl⟩
        refine hK.out _ _ (Later.refl _) ?_
        clear hK K
        try (simp only [Act.put]; try simp only [List.setIfInBounds_toArray]; try simp only [List.set_cons_zero, List.set_cons_succ])
        refine wpAnyL_take (i := 19) (d := some 52) (v := ?vaq19) rfl rfl (by kernel_rfl) (by kernel_rfl) (by kernel_rfl) (fun _ _ _ h => h) (by rfl) ?yaq19 ?_
        case yaq19 => (intro w' hw'; go_simp; try (with_reducible rfl))
        simp only [Act.put]; try simp only [List.setIfInBounds_toArray]; try simp only [List.set_cons_zero, List.set_cons_succ]
        refine wpAnyL_take (i := 20) (d := some 53) (v := ?vaq20) rfl rfl (by kernel_rfl) (by kernel_rfl) (by kernel_rfl) (fun _ _ _ h => h) (by rfl) ?yaq20 ?_
        case yaq20 => (intro w' hw'; go_simp; try (with_reducible rfl))
        simp only [Act.put]; try simp only [List.setIfInBounds_toArray]; try simp only [List.set_cons_zero, List.set_cons_succ]
        refine wpAnyL_take (i := 21) (d := some 54) (v := ?vaq21) rfl rfl (by kernel_rfl) (by kernel_rfl) (by kernel_rfl) (fun _ _ _ h => h) (by rfl) ?yaq21 ?_
        case yaq21 => (intro w' hw'; go_simp; try (with_reducible rfl))
        simp only [Act.put]; try simp only [List.setIfInBounds_toArray]; try simp only [List.set_cons_zero, List.set_cons_succ]
        refine wpAnyL_take (i := 22) (d := some 55) (v := ?vaq22) rfl rfl (by kernel_rfl) (by kernel_rfl) (by kernel_rfl) (fun _ _ _ h => h) (by rfl) ?yaq22 ?_
        case yaq22 => (intro w' hw'; go_simp; try (with_reducible rfl))
        simp only [Act.put]; try simp only [List.setIfInBounds_toArray]; try simp only [List.set_cons_zero, List.set_cons_succ]
        refine wpAnyL_take (i := 23) (d := some 56) (v := ?vaq23) rfl rfl (by kernel_rfl) (by kernel_rfl) (by kernel_rfl) (fun _ _ _ h => h) (by rfl) ?yaq23 ?_
        case yaq23 => (intro w' hw'; go_simp; try (with_reducible rfl))
        simp only [Act.put]; try simp only [List.setIfInBounds_toArray]; try simp only [List.set_cons_zero, List.set_cons_succ]
        refine wpAnyL_take (i := 24) (d := some 57) (v := ?vaq24) rfl rfl (by kernel_rfl) (by kernel_rfl) (by kernel_rfl) (fun _ _ _ h => h) (by rfl) ?yaq24 ?_
        case yaq24 => (intro w' hw'; have hc := box_cell (BY.out (Lw5.out.trans hw')) 12 (.slice oA no oc) (by rfl); go_simp; try (with_reducible rfl))
        simp only [Act.put]; try simp only [List.setIfInBounds_toArray]; try simp only [List.set_cons_zero, List.set_cons_succ]
        refine wpAnyL_take (i := 25) (d := some 58) (v := ?vaq25) rfl rfl (by kernel_rfl) (by kernel_rfl) (by kernel_rfl) (fun _ _ _ h => h) (by rfl) ?yaq25 ?_
        case yaq25 => (intro w' hw'; go_simp; try (with_reducible rfl))
        simp only [Act.put]; try simp only [List.setIfInBounds_toArray]; try simp only [List.set_cons_zero, List.set_cons_succ]
        refine wpAnyL_take (i := 26) (d := some 59) (v := ?vaq26) rfl rfl (by kernel_rfl) (by kernel_rfl) (by kernel_rfl) (fun _ _ _ h => h) (by rfl) ?yaq26 ?_
        case yaq26 => (intro w' hw'; have hc := box_cell (BY.out (Lw5.out.trans hw')) 1 (.int .i64 a.n) (by rfl); go_simp; try (with_reducible rfl))
        simp only [Act.put]; try simp only [List.setIfInBounds_toArray]; try simp only [List.set_cons_zero, List.set_cons_succ]
        refine wpAnyL_only (i := 27) rfl (by kernel_rfl) (by rfl) fun K hK => ?_
        go_simp
        refine (replace_no _ a.n oA no oc _ (NB.out _ Lw5.out)).mono ?_
        rintro e wq ⟨rfl, rfl⟩
        refine hK.out _ _ (Later.refl _) ?_
        clear hK K
        try (simp only [Act.put]; try simp only [List.setIfInBounds_toArray]; try simp only [List.set_cons_zero, List.set_cons_succ])
        refine wpAnyL_take (i := 28) (d := some 61) (v := ?vaq28) rfl rfl (by kernel_rfl) (by kernel_rfl) (by kernel_rfl) (fun _ _ _ h => h) (by rfl) ?yaq28 ?_
        case yaq28 => (intro w' hw'; go_simp; try (with_reducible rfl))
        simp only [Act.put]; try simp only [List.setIfInBounds_toArray]; try simp only [List.set_cons_zero, List.set_cons_succ]
        refine wpAnyL_take (i := 29) (d := some 62) (v := ?vaq29) rfl rfl (by kernel_rfl) (by kernel_rfl) (by kernel_rfl) (fun _ _ _ h => h) (by rfl) ?yaq29 ?_
        case yaq29 => (intro w' hw'; go_simp; try (with_reducible rfl))
        simp only [Act.put]; try simp only [List.setIfInBounds_toArray]; try simp only [List.set_cons_zero, List.set_cons_succ]
        refine wpAnyL_take (i := 30) (d := some 63) (v := ?vaq30) rfl rfl (by kernel_rfl) (by kernel_rfl) (by kernel_rfl) (fun _ _ _ h => h) (by rfl) ?yaq30 ?_
        case yaq30 => (intro w' hw'; go_simp; try (with_reducible rfl))
        simp only [Act.put]; try simp only [List.setIfInBounds_toArray]; try simp only [List.set_cons_zero, List.set_cons_succ]
        refine wpAnyL_take (i := 31) (d := some 64) (v := ?vaq31) rfl rfl (by kernel_rfl) (by kernel_rfl) (by kernel_rfl) (fun _ _ _ h => h) (by rfl) ?yaq31 ?_
        case yaq31 => (intro w' hw'; go_simp; try (with_reducible rfl))
        simp only [Act.put]; try simp only [List.setIfInBounds_toArray]; try simp only [List.set_cons_zero, List.set_cons_succ]
        refine wpAnyL_take (i := 33) (d := some 66) (v := ?vaq33) rfl rfl (by kernel_rfl) (by kernel_rfl) (by kernel_rfl) (fun _ _ _ h => h) (by rfl) ?yaq33 ?_
        case yaq33 => (intro w' hw'; go_simp; try (with_reducible rfl))
        simp only [Act.put]; try simp only [List.setIfInBounds_toArray]; try simp only [List.set_cons_zero, List.set_cons_succ]
        refine wpAnyL_take (i := 36) (d := some 69) (v := ?vaq36) rfl rfl (by kernel_rfl) (by kernel_rfl) (by kernel_rfl) (fun _ _ _ h => h) (by rfl) ?yaq36 ?_
        case yaq36 => (intro w' hw'; go_simp; try (with_reducible rfl))
        simp only [Act.put]; try simp only [List.setIfInBounds_toArray]; try simp only [List.set_cons_zero, List.set_cons_succ]
        refine wpAnyL_take (i := 37) (d := some 70) (v := ?vaq37) rfl rfl (by kernel_rfl) (by kernel_rfl) (by kernel_rfl) (fun _ _ _ h => h) (by rfl) ?yaq37 ?_
        case yaq37 => (intro w' hw'; go_simp; try (with_reducible rfl))
        simp only [Act.put]; try simp only [List.setIfInBounds_toArray]; try simp only [List.set_cons_zero, List.set_cons_succ]
        refine wpAnyL_take (i := 38) (d := some 71) (v := ?vaq38) rfl rfl (by kernel_rfl) (by kernel_rfl) (by kernel_rfl) (fun _ _ _ h => h) (by rfl) ?yaq38 ?_
        case yaq38 => (intro w' hw'; have hc := box_cell (BY.out (Lw5.out.trans hw')) 1 (.int .i64 a.n) (by rfl); go_simp; try (with_reducible rfl))
        simp only [Act.put]; try simp only [List.setIfInBounds_toArray]; try simp only [List.set_cons_zero, List.set_cons_succ]
        refine wpAnyL_take (i := 42) (d := some 75) (v := ?vaq42) rfl rfl (by kernel_rfl) (by kernel_rfl) (by kernel_rfl) (fun _ _ _ h => h) (by rfl) ?yaq42 ?_
        case yaq42 => (intro w' hw'; go_simp; try (with_reducible rfl))
        simp only [Act.put]; try simp only [List.setIfInBounds_toArray]; try simp only [List.set_cons_zero, List.set_cons_succ]
        refine wpAnyL_take (i := 43) (d := some 76) (v := ?vaq43) rfl rfl (by kernel_rfl) (by kernel_rfl) (by kernel_rfl) (fun _ _ _ h => h) (by rfl) ?yaq43 ?_
        case yaq43 => (intro w' hw'; go_simp; try (with_reducible rfl))
        simp only [Act.put]; try simp only [List.setIfInBounds_toArray]; try simp only [List.set_cons_zero, List.set_cons_succ]
        refine wpAnyL_take (i := 44) (d := some 77) (v := ?vaq44) rfl rfl (by kernel_rfl) (by kernel_rfl) (by kernel_rfl) (fun _ _ _ h => h) (by rfl) ?yaq44 ?_
        case yaq44 => (intro w' hw'; have hc := box_cell (BY.out (Lw5.out.trans hw')) 1 (.int .i64 a.n) (by rfl); go_simp; try (with_reducible rfl))
        simp only [Act.put]; try simp only [List.setIfInBounds_toArray]; try simp only [List.set_cons_zero, List.set_cons_succ]
        refine wpAnyL_only (i := 32) rfl (by kernel_rfl) (by rfl) fun K hK => ?_
        go_simp
        refine (last_no _ _ (NB.out _ Lw5.out)).mono ?_
        rintro e wq ⟨rfl, rfl⟩
        refine hK.out _ _ (Later.refl _) ?_
        clear hK K
        try (simp only [Act.put]; try simp only [List.setIfInBounds_toArray]; try simp only [List.set_cons_zero, List.set_cons_succ])
        refine wpAnyL_only (i := 34) rfl (by kernel_rfl) (by rfl) fun K hK => ?_
        go_simp
        refine (committed_no _ _ (NB.out _ Lw5.out)).mono ?_
        rintro e wq ⟨rfl, rfl⟩
        refine hK.out _ _ (Later.refl _) ?_
        clear hK K
        try (simp only [Act.put]; try simp only [List.setIfInBounds_toArray]; try simp only [List.set_cons_zero, List.set_cons_succ])
        refine wpAnyL_take (i := 35) (d := some 68) (v := ?vaq35) rfl rfl (by kernel_rfl) (by kernel_rfl) (by kernel_rfl) (fun _ _ _ h => h) (by rfl) ?yaq35 ?_
        case yaq35 => (intro w' hw'; go_simp; try (with_reducible rfl))
        simp only [Act.put]; try simp only [List.setIfInBounds_toArray]; try simp only [List.set_cons_zero, List.set_cons_succ]
        refine wpAnyL_only (i := 39) rfl (by kernel_rfl) (by rfl) fun K hK => ?_
        go_simp
        refine (commit_no _ a.n _ (NB.out _ Lw5.out)).mono ?_
        rintro e w6 ⟨rfl, hbq⟩
        have Lw6 := hide (Lw5.out.trans hbq)
        have HBQ := hide hbq
        clear hbq
        refine hK.out _ _ HBQ.out ?_
        clear HBQ
        clear hK K
        try (simp only [Act.put]; try simp only [List.setIfInBounds_toArray]; try simp only [List.set_cons_zero, List.set_cons_succ])
        refine wpAnyL_take (i := 40) (d := some 73) (v := ?vaq40) rfl rfl (by kernel_rfl) (by kernel_rfl) (by kernel_rfl) (fun _ _ _ h => h) (by rfl) ?yaq40 ?_
        case yaq40 => (intro w' hw'; go_simp; try (with_reducible rfl))
        simp only [Act.put]; try simp only [List.setIfInBounds_toArray]; try simp only [List.set_cons_zero, List.set_cons_succ]
        refine wpAnyL_take (i := 41) (d := some 74) (v := ?vaq41) rfl rfl (by kernel_rfl) (by kernel_rfl) (by kernel_rfl) (fun _ _ _ h => h) (by rfl) ?yaq41 ?_
        case yaq41 => (intro w' hw'; go_simp; try (with_reducible rfl))
        simp only [Act.put]; try simp only [List.setIfInBounds_toArray]; try simp only [List.set_cons_zero, List.set_cons_succ]
        refine wpAnyL_only (i := 45) rfl (by kernel_rfl) (by rfl) fun K hK => ?_
        go_simp
        refine (since_no _ a.n _ (NB.out _ Lw6.out)).mono ?_
        rintro e w7 ⟨rfl, hbq⟩
        have Lw7 := hide (Lw6.out.trans hbq)
        have HBQ := hide hbq
        clear hbq
        refine hK.out _ _ HBQ.out ?_
        clear HBQ
        clear hK K
        try (simp only [Act.put]; try simp only [List.setIfInBounds_toArray]; try simp only [List.set_cons_zero, List.set_cons_succ])
        refine wpAnyL_take (i := 46) (d := some 79) (v := ?vaq46) rfl rfl (by kernel_rfl) (by kernel_rfl) (by kernel_rfl) (fun _ _ _ h => h) (by rfl) ?yaq46 ?_
        case yaq46 => (intro w' hw'; go_simp; try (with_reducible rfl))
        simp only [Act.put]; try simp only [List.setIfInBounds_toArray]; try simp only [List.set_cons_zero, List.set_cons_succ]
        refine wpAnyL_take (i := 47) (d := some 80) (v := ?vaq47) rfl rfl (by kernel_rfl) (by kernel_rfl) (by kernel_rfl) (fun _ _ _ h => h) (by rfl) ?yaq47 ?_
        case yaq47 => (intro w' hw'; go_simp; try (with_reducible rfl))
        simp only [Act.put]; try simp only [List.setIfInBounds_toArray]; try simp only [List.set_cons_zero, List.set_cons_succ]
        refine wpAnyL_take (i := 48) (d := some 81) (v := ?vaq48) rfl rfl (by kernel_rfl) (by kernel_rfl) (by kernel_rfl) (fun _ _ _ h => h) (by rfl) ?yaq48 ?_
        case yaq48 => (intro w' hw'; go_simp; try (with_reducible rfl))
        simp only [Act.put]; try simp only [List.setIfInBounds_toArray]; try simp only [List.set_cons_zero, List.set_cons_succ]
        refine wpAnyL_take (i := 49) (d := some 82) (v := ?vaq49) rfl rfl (by kernel_rfl) (by kernel_rfl) (by kernel_rfl) (fun _ _ _ h => h) (by rfl) ?yaq49 ?_
        case yaq49 => (intro w' hw'; go_simp; try (with_reducible rfl))
        simp only [Act.put]; try simp only [List.setIfInBounds_toArray]; try simp only [List.set_cons_zero, List.set_cons_succ]
        refine wpAnyL_done (by kernel_rfl) ?_ _
        go_wp2
        all_goals go_roundw
        case rel => exact ⟨2, by omega, by first | rfl | go_num, Lw7.out⟩
        case measure => simp [Go.RowKit.intOf]

      · go_wp2_with (fail)
        refine (lives_any _).mono ?_
        rintro e w2 ⟨rfl, hb2⟩
        have HB2 := hide hb2
        clear hb2
        go_wp2
        go_ret
        exact ⟨rfl, ((Below.refl _ _).alloc (Nat.le_refl _) _).trans ((L2.out.trans (LR.out.trans HB2.out)).mono (by simp))⟩
end Go.Proofs.Ytgjpdfolnkjhfaa
