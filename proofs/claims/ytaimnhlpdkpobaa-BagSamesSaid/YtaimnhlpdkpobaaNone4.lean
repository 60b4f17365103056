/- The walk over droverlaw04.BagNone: a bag that no call made has nothing. -/
import Derived.Test.YtaimnhlpdkpobaaLives4
import Derived.Test.YtaimnhlpdkpobaaLight
import Derived.Test.YtaimnhlpdkpobaaLit
import Derived.Test.YtaimnhlpdkpobaaOrderT
namespace Go.Proofs.Ytaimnhlpdkpobaa
open Go.RowKit Go.Maps

theorem Try.infoAct : (Try.prog.info? 44).map (fun i => (i.zero, i.size, i.bytes)) = some (some (.agg actZero), 36, 320) := by kernel_rfl

/-- One act, as the slice of one of them that a literal makes. -/
theorem acts_one {F : Nat → Prop} {w w' : World} {a : ActD} {s o i : Value} {g : Nat} (h : Lists F w a.m s o i) (hb : Below w.heap.size w w') (hg : w'.heap[g]? = some (.cells (a.cells s o i).toArray 44 (0, 0))) :
    ActsIn (fun _ => True) w' (.slice (some ⟨g, 0, none⟩) 1 1) [⟨a, s, o, i⟩] := by
  obtain ⟨h1, h2, h3⟩ := h.cell
  refine ⟨⟨rfl, ?_, some ⟨g, 0, none⟩, 1, rfl, Nat.le_refl _, by decide, (fun e => by cases e), fun _ => ⟨g, 0, rfl, trivial, lt_of_block hg, fun j v hj => ?_⟩⟩, ?_⟩
  · intro u hu
    simp only [List.flatMap_cons, List.flatMap_nil, List.append_nil] at hu
    exact act_one ⟨a, s, o, i⟩ h1 h2 h3 u hu
  · rw [Nat.zero_add, cell_of_row w' g j _ _ _ hg]
    simpa [ActV.cells] using hj
  · intro p hp
    obtain rfl : p = ⟨a, s, o, i⟩ := by simpa using hp
    exact (h.kept (Kept.of_below hb F)).mono (fun _ _ _ => trivial)

theorem index_0 (p q : Value) (w : World) : (Instr.index 73 (.agg #[p, q]) (.int .i64 0)).run Try.prog w = .ok p w := by kernel_rfl
theorem index_1 (p q : Value) (w : World) : (Instr.index 73 (.agg #[p, q]) (.int .i64 1)).run Try.prog w = .ok q w := by kernel_rfl

set_option maxHeartbeats 6000000 in
set_option maxRecDepth 100000 in
theorem law_none (F : Nat → Prop) (a : ActD) (s o i : Value) (w : World) (ha : a.wf) (h : Lists F w a.m s o i) :
    Calls Try.prog 7 #[.agg (a.cells s o i).toArray] w fun e w' => e = .returned (.bool true) ∧ Below w.heap.size w w' := by
  obtain ⟨i0, hi, hz0, hz1, hz2⟩ := info_parts Try.infoAct
  have H := hide h
  have HA := hide ha
  have BX : Hid (∀ {w' : World}, Below (w.alloc (.cells (a.cells s o i).toArray 44 (0, 0))).heap.size (w.alloc (.cells (a.cells s o i).toArray 44 (0, 0))) w' → w'.heap[w.heap.size]? = some (.cells (a.cells s o i).toArray 44 (0, 0))) :=
    fun {w'} hb => (hb.block w.heap.size (by simp)).trans (heap_alloc_new w _)
  clear h ha
  go_enter Try.func7, Try.ntmps7
  go_wp2_with (first
    | (refine wpList_load_box (by rfl) 44 _ (by rfl) w.heap.size 0 (by rfl) 44 (a.cells s o i).toArray (heap_alloc_new w _) 36 _ Try.underlying44 (by rfl) (by kernel_rfl) (a.cells s o i) (by rfl) (by rfl) ?_)
    | (refine wpList_buildSlice_one (by rfl) 22 44 _ (by rfl) i0 _ 36 Try.underlying22 hi hz0 hz1 (by decide) (by decide) (a.cells s o i).toArray (by rfl) (by rfl) ?_))
  refine (light_any (fun _ => True) _ [⟨a, s, o, i⟩] _ (acts_one H.out (((Below.refl _ _).alloc (Nat.le_refl _) _).alloc (by simp) _) (heap_alloc2_new w _ _)) (fun p hp => by rw [List.mem_singleton.1 hp]; exact HA.out)).mono ?_
  rintro e w1 ⟨b, rfl, hok, hb1⟩
  have L1 : Hid (Later (w.alloc (.cells (a.cells s o i).toArray 44 (0, 0))) w1) := Later.trans ((Below.refl _ _).alloc (Nat.le_refl _) _) hb1
  have HOK := hide hok
  clear hb1 hok hi hz0 hz1 hz2
  cases b with
  | false =>
    go_wp2_with (fail)
    refine (lives_any _).mono ?_
    rintro e w2 ⟨rfl, hb2⟩
    have HB2 := hide hb2
    clear hb2
    go_wp2
    go_ret
    exact ⟨rfl, ((Below.refl _ _).alloc (Nat.le_refl _) _).trans ((L1.out.trans HB2.out).mono (by simp))⟩
  | true =>
    go_wp2
    have ZB : Hid ((w1.alloc (.cells #[.map none, .int .i64 0, .int .i64 0] 72 (0, 0))).heap[w1.heap.size]? = some (.cells #[.map none, .int .i64 0, .int .i64 0] 72 (0, 0))) := heap_alloc_new _ _
    have L2 : Hid (Later (w.alloc (.cells (a.cells s o i).toArray 44 (0, 0))) (w1.alloc (.cells #[.map none, .int .i64 0, .int .i64 0] 72 (0, 0)))) := L1.out.trans ((Below.refl _ _).alloc (Nat.le_refl _) _)
    have BY : Hid (∀ {w' : World}, Later (w1.alloc (.cells #[.map none, .int .i64 0, .int .i64 0] 72 (0, 0))) w' → w'.heap[w.heap.size]? = some (.cells (a.cells s o i).toArray 44 (0, 0))) := fun {w'} hb => BX.out (L2.out.trans hb)
    have NB0 : Hid (∀ w' : World, Later (w1.alloc (.cells #[.map none, .int .i64 0, .int .i64 0] 72 (0, 0))) w' → NoBag w' (.pointer none)) := fun w' _ => .inl rfl
    have NB1 : Hid (∀ w' : World, Later (w1.alloc (.cells #[.map none, .int .i64 0, .int .i64 0] 72 (0, 0))) w' → NoBag w' (.pointer (some ⟨w1.heap.size, 0, none⟩))) := fun w' hb => .inr ⟨_, _, _, rfl, (Below.block hb w1.heap.size (by simp)).trans (heap_alloc_new w1 _)⟩
    clear ZB
    go_loopw [20] (fun j wr => ∃ k : Nat, k ≤ 2 ∧ j = .int .i64 (k : Int) ∧ Later (w1.alloc (.cells #[.map none, .int .i64 0, .int .i64 0] 72 (0, 0))) wr) (fun j _ => 2 - (Go.RowKit.intOf j).toNat)
    case atStart => exact ⟨0, by omega, rfl, Later.refl _⟩
    case round =>
      obtain ⟨k, hk, rfl, hlr⟩ := hrel
      have LR := hide hlr
      clear hlr
      obtain rfl | rfl | rfl : k = 0 ∨ k = 1 ∨ k = 2 := by omega

      · have NB := NB0
        have hix := index_0 (.pointer none) (.pointer (some ⟨w1.heap.size, 0, none⟩))
        go_wp2_with (refine wpList_load_box (by rfl) 42 _ (by rfl) w.heap.size 2 (by rfl) 44 (a.cells s o i).toArray (BY.out LR.out) 34 _ Try.underlying42 (by rfl) (by kernel_rfl) (a.m.cells s o i) (by rfl) (by rfl) ?_)
        refine (put_no _ a.m s o i _ (NB.out _ LR.out)).mono ?_
        rintro e wa ⟨rfl, hb⟩
        have LA := hide (LR.out.trans hb)
        have ca := box_cell (BY.out LA.out) 1 (.int .i64 a.n) (by rfl)
        clear hb hix
        go_wp2_with (fail)
        refine (take_err _ a.n 1 _ (by decide) (fun w' hb => find_not _ a.n w' (NB.out _ (LA.out.trans hb)))).mono ?_
        rintro e w2 ⟨rfl, hb⟩
        have L22 := hide (LA.out.trans hb)
        clear hb ca
        go_wp2_with (refine wpList_store_box (by rfl) 42 _ _ (by rfl) (w2.heap.size) 0 (zcells) (by rfl) (by rfl) 42 (zcells) (heap_alloc_new w2 _) (by kernel_rfl) (by exact Nat.le_of_ble_eq_true rfl) (by exact zcells_one) ?_; intro w3 hb3 hg3; have L3 := hide (Later.trans L22.out (((Below.refl _ _).alloc (Nat.le_refl _) _).grown hg3 (by simp) (fun k hk => by have := Option.some.inj hk; omega))); have c3 := box_cell (BY.out L3.out) 1 (.int .i64 a.n) (by rfl))
        clear hb3 hg3
        refine (twice_err _ a.n 1 _ (by decide) (fun w' hb => find_not _ a.n w' (NB.out _ (L3.out.trans hb)))).mono ?_
        rintro e wb ⟨rfl, hb⟩
        have LB := hide (L3.out.trans hb)
        have cb := box_cell (BY.out LB.out) 1 (.int .i64 a.n) (by rfl)
        clear hb c3
        go_wp2_with (fail)
        refine (look_any (fun _ => True) _ zeroMsg .zero a.n 1 false _ (fun w' hb => find_not _ a.n w' (NB.out _ (LB.out.trans hb))) (zeroMsg_at _ _) zero_ok (by decide)).mono ?_
        rintro e w4 ⟨v4, rfl, hv4, hb⟩
        obtain ⟨s4, o4, i4, rfl, hl4⟩ := hv4
        obtain ⟨k1, k2, k3⟩ := hl4.cell
        have L4 := hide (LB.out.trans hb)
        clear hb cb hl4
        go_wp2_with (refine wpList_store_box (by rfl) 42 _ _ (by rfl) (w4.heap.size) 0 ((MsgD.zero.cells s4 o4 i4).toArray) (by rfl) (by rfl) 42 (zcells) (heap_alloc_new w4 _) (by kernel_rfl) (by exact Nat.le_of_ble_eq_true rfl) (by exact MsgD.zero.one k1 k2 k3) ?_; intro w5 hb5 hg5; have L5 := hide (Later.trans L4.out (((Below.refl _ _).alloc (Nat.le_refl _) _).grown hg5 (by simp) (fun k hk => by have := Option.some.inj hk; omega))); clear hb5 hg5)
        have L5 : Hid (Later _ w5.drew) := L5.out.trans (Later.drew _)
        refine wp_region_L (by kernel_rfl) ?_
        refine wpAnyL_take (i := 0) (d := some 51) (v := ?vap0) rfl rfl (by kernel_rfl) (by kernel_rfl) (by kernel_rfl) (fun _ _ _ h => h) (by rfl) ?yap0 ?_
        case yap0 => (intro w' hw'; go_simp; try (with_reducible rfl))
        simp only [Act.put, List.setIfInBounds_toArray, List.set_cons_zero, List.set_cons_succ]
        refine wpAnyL_take (i := 1) (d := some 52) (v := ?vap1) rfl rfl (by kernel_rfl) (by kernel_rfl) (by kernel_rfl) (fun _ _ _ h => h) (by rfl) ?yap1 ?_
        case yap1 => (intro w' hw'; go_simp; try (with_reducible rfl))
        simp only [Act.put, List.setIfInBounds_toArray, List.set_cons_zero, List.set_cons_succ]
        refine wpAnyL_take (i := 2) (d := some 53) (v := ?vap2) rfl rfl (by kernel_rfl) (by kernel_rfl) (by kernel_rfl) (fun _ _ _ h => h) (by rfl) ?yap2 ?_
        case yap2 => (intro w' hw'; go_simp; try (with_reducible rfl))
        simp only [Act.put, List.setIfInBounds_toArray, List.set_cons_zero, List.set_cons_succ]
        refine wpAnyL_take (i := 3) (d := some 54) (v := ?vap3) rfl rfl (by kernel_rfl) (by kernel_rfl) (by kernel_rfl) (fun _ _ _ h => h) (by rfl) ?yap3 ?_
        case yap3 => (intro w' hw'; go_simp; try (with_reducible rfl))
        simp only [Act.put, List.setIfInBounds_toArray, List.set_cons_zero, List.set_cons_succ]
        refine wpAnyL_take (i := 4) (d := some 55) (v := ?vap4) rfl rfl (by kernel_rfl) (by kernel_rfl) (by kernel_rfl) (fun _ _ _ h => h) (by rfl) ?yap4 ?_
        case yap4 => (intro w' hw'; go_simp; try (with_reducible rfl))
        simp only [Act.put, List.setIfInBounds_toArray, List.set_cons_zero, List.set_cons_succ]
        refine wpAnyL_take (i := 5) (d := some 56) (v := ?vap5) rfl rfl (by kernel_rfl) (by kernel_rfl) (by kernel_rfl) (fun _ _ _ h => h) (by rfl) ?yap5 ?_
        case yap5 => (intro w' hw'; go_simp; try (with_reducible rfl))
        simp only [Act.put, List.setIfInBounds_toArray, List.set_cons_zero, List.set_cons_succ]
        refine wpAnyL_take (i := 6) (d := some 57) (v := ?vap6) rfl rfl (by kernel_rfl) (by kernel_rfl) (by kernel_rfl) (fun _ _ _ h => h) (by rfl) ?yap6 ?_
        case yap6 => (intro w' hw'; go_simp; try (with_reducible rfl))
        simp only [Act.put, List.setIfInBounds_toArray, List.set_cons_zero, List.set_cons_succ]
        refine wpAnyL_take (i := 7) (d := some 58) (v := ?vap7) rfl rfl (by kernel_rfl) (by kernel_rfl) (by kernel_rfl) (fun _ _ _ h => h) (by rfl) ?yap7 ?_
        case yap7 => (intro w' hw'; go_simp; try (with_reducible rfl))
        simp only [Act.put, List.setIfInBounds_toArray, List.set_cons_zero, List.set_cons_succ]
        refine wpAnyL_take (i := 8) (d := some 59) (v := ?vap8) rfl rfl (by kernel_rfl) (by kernel_rfl) (by kernel_rfl) (fun _ _ _ h => h) (by rfl) ?yap8 ?_
        case yap8 => (intro w' hw'; go_simp; try (with_reducible rfl))
        simp only [Act.put, List.setIfInBounds_toArray, List.set_cons_zero, List.set_cons_succ]
        refine wpAnyL_take (i := 9) (d := some 60) (v := ?vap9) rfl rfl (by kernel_rfl) (by kernel_rfl) (by kernel_rfl) (fun _ _ _ h => h) (by rfl) ?yap9 ?_
        case yap9 => (intro w' hw'; go_simp; try (with_reducible rfl))
        simp only [Act.put, List.setIfInBounds_toArray, List.set_cons_zero, List.set_cons_succ]
        refine wpAnyL_take (i := 10) (d := some 61) (v := ?vap10) rfl rfl (by kernel_rfl) (by kernel_rfl) (by kernel_rfl) (fun _ _ _ h => h) (by rfl) ?yap10 ?_
        case yap10 => (intro w' hw'; go_simp; try (with_reducible rfl))
        simp only [Act.put, List.setIfInBounds_toArray, List.set_cons_zero, List.set_cons_succ]
        refine wpAnyL_take (i := 11) (d := some 62) (v := ?vap11) rfl rfl (by kernel_rfl) (by kernel_rfl) (by kernel_rfl) (fun _ _ _ h => h) (by rfl) ?yap11 ?_
        case yap11 => (intro w' hw'; go_simp; try (with_reducible rfl))
        simp only [Act.put, List.setIfInBounds_toArray, List.set_cons_zero, List.set_cons_succ]
        refine wpAnyL_take (i := 12) (d := some 63) (v := ?vap12) rfl rfl (by kernel_rfl) (by kernel_rfl) (by kernel_rfl) (fun _ _ _ h => h) (by rfl) ?yap12 ?_
        case yap12 => (intro w' hw'; go_simp; try (with_reducible rfl))
        simp only [Act.put, List.setIfInBounds_toArray, List.set_cons_zero, List.set_cons_succ]
        refine wpAnyL_take (i := 13) (d := some 64) (v := ?vap13) rfl rfl (by kernel_rfl) (by kernel_rfl) (by kernel_rfl) (fun _ _ _ h => h) (by rfl) ?yap13 ?_
        case yap13 => (intro w' hw'; go_simp; try (with_reducible rfl))
        simp only [Act.put, List.setIfInBounds_toArray, List.set_cons_zero, List.set_cons_succ]
        refine wpAnyL_take (i := 14) (d := some 65) (v := ?vap14) rfl rfl (by kernel_rfl) (by kernel_rfl) (by kernel_rfl) (fun _ _ _ h => h) (by rfl) ?yap14 ?_
        case yap14 => (intro w' hw'; go_simp; try (with_reducible rfl))
        simp only [Act.put, List.setIfInBounds_toArray, List.set_cons_zero, List.set_cons_succ]
        refine wpAnyL_take (i := 17) (d := some 68) (v := ?vap17) rfl rfl (by kernel_rfl) (by kernel_rfl) (by kernel_rfl) (fun _ _ _ h => h) (by rfl) ?yap17 ?_
        case yap17 => (intro w' hw'; go_simp; try (with_reducible rfl))
        simp only [Act.put, List.setIfInBounds_toArray, List.set_cons_zero, List.set_cons_succ]
        refine wpAnyL_take (i := 18) (d := some 69) (v := ?vap18) rfl rfl (by kernel_rfl) (by kernel_rfl) (by kernel_rfl) (fun _ _ _ h => h) (by rfl) ?yap18 ?_
        case yap18 => (intro w' hw'; go_simp; try (with_reducible rfl))
        simp only [Act.put, List.setIfInBounds_toArray, List.set_cons_zero, List.set_cons_succ]
        refine wpAnyL_take (i := 19) (d := some 70) (v := ?vap19) rfl rfl (by kernel_rfl) (by kernel_rfl) (by kernel_rfl) (fun _ _ _ h => h) (by rfl) ?yap19 ?_
        case yap19 => (intro w' hw'; have hc := box_cell (BY.out (L5.out.trans hw')) 1 (.int .i64 a.n) (by rfl); go_simp; try (with_reducible rfl))
        simp only [Act.put, List.setIfInBounds_toArray, List.set_cons_zero, List.set_cons_succ]
        refine wpAnyL_take (i := 23) (d := some 74) (v := ?vap23) rfl rfl (by kernel_rfl) (by kernel_rfl) (by kernel_rfl) (fun _ _ _ h => h) (by rfl) ?yap23 ?_
        case yap23 => (intro w' hw'; go_simp; try (with_reducible rfl))
        simp only [Act.put, List.setIfInBounds_toArray, List.set_cons_zero, List.set_cons_succ]
        refine wpAnyL_take (i := 24) (d := some 75) (v := ?vap24) rfl rfl (by kernel_rfl) (by kernel_rfl) (by kernel_rfl) (fun _ _ _ h => h) (by rfl) ?yap24 ?_
        case yap24 => (intro w' hw'; go_simp; try (with_reducible rfl))
        simp only [Act.put, List.setIfInBounds_toArray, List.set_cons_zero, List.set_cons_succ]
        refine wpAnyL_take (i := 25) (d := some 76) (v := ?vap25) rfl rfl (by kernel_rfl) (by kernel_rfl) (by kernel_rfl) (fun _ _ _ h => h) (by rfl) ?yap25 ?_
        case yap25 => (intro w' hw'; have hc := box_cell (BY.out (L5.out.trans hw')) 1 (.int .i64 a.n) (by rfl); go_simp; try (with_reducible rfl))
        simp only [Act.put, List.setIfInBounds_toArray, List.set_cons_zero, List.set_cons_succ]
        refine wpAnyL_only (i := 15) rfl (by kernel_rfl) (by rfl) fun K hK => ?_
        go_simp
        refine (ids_no _ _ (NB.out _ L5.out)).mono ?_
        rintro e w6 ⟨rfl, rfl⟩
        refine hK.out _ _ (Later.refl _) ?_
        clear hK K
        try simp only [Act.put, List.setIfInBounds_toArray, List.set_cons_zero, List.set_cons_succ]
        refine wpAnyL_take (i := 16) (d := some 67) (v := ?vap16) rfl rfl (by kernel_rfl) (by kernel_rfl) (by kernel_rfl) (fun _ _ _ h => h) (by rfl) ?yap16 ?_
        case yap16 => (intro w' hw'; go_simp; try (with_reducible rfl))
        simp only [Act.put, List.setIfInBounds_toArray, List.set_cons_zero, List.set_cons_succ]
        refine wpAnyL_only (i := 20) rfl (by kernel_rfl) (by rfl) fun K hK => ?_
        go_simp
        refine (to_no _ a.n _ (NB.out _ L5.out)).mono ?_
        rintro e w7 ⟨rfl, hb7⟩
        have L7 := hide (L5.out.trans hb7)
        have HB7 := hide hb7
        clear hb7
        refine hK.out _ _ HB7.out ?_
        clear hK K
        try simp only [Act.put, List.setIfInBounds_toArray, List.set_cons_zero, List.set_cons_succ]
        refine wpAnyL_take (i := 21) (d := some 72) (v := ?vap21) rfl rfl (by kernel_rfl) (by kernel_rfl) (by kernel_rfl) (fun _ _ _ h => h) (by rfl) ?yap21 ?_
        case yap21 => (intro w' hw'; go_simp; try (with_reducible rfl))
        simp only [Act.put, List.setIfInBounds_toArray, List.set_cons_zero, List.set_cons_succ]
        refine wpAnyL_take (i := 22) (d := some 73) (v := ?vap22) rfl rfl (by kernel_rfl) (by kernel_rfl) (by kernel_rfl) (fun _ _ _ h => h) (by rfl) ?yap22 ?_
        case yap22 => (intro w' hw'; go_simp; try (with_reducible rfl))
        simp only [Act.put, List.setIfInBounds_toArray, List.set_cons_zero, List.set_cons_succ]
        refine wpAnyL_only (i := 26) rfl (by kernel_rfl) (by rfl) fun K hK => ?_
        go_simp
        refine (clear_no _ a.n _ (NB.out _ L7.out)).mono ?_
        rintro e w8 ⟨rfl, hb8⟩
        have L8 := hide (L7.out.trans hb8)
        have HB8 := hide hb8
        clear hb8
        refine hK.out _ _ HB8.out ?_
        clear hK K
        try simp only [Act.put, List.setIfInBounds_toArray, List.set_cons_zero, List.set_cons_succ]
        refine wpAnyL_take (i := 27) (d := some 78) (v := ?vap27) rfl rfl (by kernel_rfl) (by kernel_rfl) (by kernel_rfl) (fun _ _ _ h => h) (by rfl) ?yap27 ?_
        case yap27 => (intro w' hw'; go_simp; try (with_reducible rfl))
        simp only [Act.put, List.setIfInBounds_toArray, List.set_cons_zero, List.set_cons_succ]
        refine wpAnyL_take (i := 28) (d := some 79) (v := ?vap28) rfl rfl (by kernel_rfl) (by kernel_rfl) (by kernel_rfl) (fun _ _ _ h => h) (by rfl) ?yap28 ?_
        case yap28 => (intro w' hw'; go_simp; try (with_reducible rfl))
        simp only [Act.put, List.setIfInBounds_toArray, List.set_cons_zero, List.set_cons_succ]
        refine wpAnyL_take (i := 29) (d := some 80) (v := ?vap29) rfl rfl (by kernel_rfl) (by kernel_rfl) (by kernel_rfl) (fun _ _ _ h => h) (by rfl) ?yap29 ?_
        case yap29 => (intro w' hw'; go_simp; try (with_reducible rfl))
        simp only [Act.put, List.setIfInBounds_toArray, List.set_cons_zero, List.set_cons_succ]
        refine wpAnyL_done (by kernel_rfl) ?_ _
        go_wp2
        go_roundw
        case rel => exact ⟨0 + 1, by omega, by go_num, L8.out⟩
        case measure => simp [Go.RowKit.intOf]

      · have NB := NB1
        have hix := index_1 (.pointer none) (.pointer (some ⟨w1.heap.size, 0, none⟩))
        go_wp2_with (refine wpList_load_box (by rfl) 42 _ (by rfl) w.heap.size 2 (by rfl) 44 (a.cells s o i).toArray (BY.out LR.out) 34 _ Try.underlying42 (by rfl) (by kernel_rfl) (a.m.cells s o i) (by rfl) (by rfl) ?_)
        refine (put_no _ a.m s o i _ (NB.out _ LR.out)).mono ?_
        rintro e wa ⟨rfl, hb⟩
        have LA := hide (LR.out.trans hb)
        have ca := box_cell (BY.out LA.out) 1 (.int .i64 a.n) (by rfl)
        clear hb hix
        go_wp2_with (fail)
        refine (take_err _ a.n 1 _ (by decide) (fun w' hb => find_not _ a.n w' (NB.out _ (LA.out.trans hb)))).mono ?_
        rintro e w2 ⟨rfl, hb⟩
        have L22 := hide (LA.out.trans hb)
        clear hb ca
        go_wp2_with (refine wpList_store_box (by rfl) 42 _ _ (by rfl) (w2.heap.size) 0 (zcells) (by rfl) (by rfl) 42 (zcells) (heap_alloc_new w2 _) (by kernel_rfl) (by exact Nat.le_of_ble_eq_true rfl) (by exact zcells_one) ?_; intro w3 hb3 hg3; have L3 := hide (Later.trans L22.out (((Below.refl _ _).alloc (Nat.le_refl _) _).grown hg3 (by simp) (fun k hk => by have := Option.some.inj hk; omega))); have c3 := box_cell (BY.out L3.out) 1 (.int .i64 a.n) (by rfl))
        clear hb3 hg3
        refine (twice_err _ a.n 1 _ (by decide) (fun w' hb => find_not _ a.n w' (NB.out _ (L3.out.trans hb)))).mono ?_
        rintro e wb ⟨rfl, hb⟩
        have LB := hide (L3.out.trans hb)
        have cb := box_cell (BY.out LB.out) 1 (.int .i64 a.n) (by rfl)
        clear hb c3
        go_wp2_with (fail)
        refine (look_any (fun _ => True) _ zeroMsg .zero a.n 1 false _ (fun w' hb => find_not _ a.n w' (NB.out _ (LB.out.trans hb))) (zeroMsg_at _ _) zero_ok (by decide)).mono ?_
        rintro e w4 ⟨v4, rfl, hv4, hb⟩
        obtain ⟨s4, o4, i4, rfl, hl4⟩ := hv4
        obtain ⟨k1, k2, k3⟩ := hl4.cell
        have L4 := hide (LB.out.trans hb)
        clear hb cb hl4
        go_wp2_with (refine wpList_store_box (by rfl) 42 _ _ (by rfl) (w4.heap.size) 0 ((MsgD.zero.cells s4 o4 i4).toArray) (by rfl) (by rfl) 42 (zcells) (heap_alloc_new w4 _) (by kernel_rfl) (by exact Nat.le_of_ble_eq_true rfl) (by exact MsgD.zero.one k1 k2 k3) ?_; intro w5 hb5 hg5; have L5 := hide (Later.trans L4.out (((Below.refl _ _).alloc (Nat.le_refl _) _).grown hg5 (by simp) (fun k hk => by have := Option.some.inj hk; omega))); clear hb5 hg5)
        have L5 : Hid (Later _ w5.drew) := L5.out.trans (Later.drew _)
        refine wp_region_L (by kernel_rfl) ?_
        refine wpAnyL_take (i := 0) (d := some 51) (v := ?vaq0) rfl rfl (by kernel_rfl) (by kernel_rfl) (by kernel_rfl) (fun _ _ _ h => h) (by rfl) ?yaq0 ?_
        case yaq0 => (intro w' hw'; go_simp; try (with_reducible rfl))
        simp only [Act.put, List.setIfInBounds_toArray, List.set_cons_zero, List.set_cons_succ]
        refine wpAnyL_take (i := 1) (d := some 52) (v := ?vaq1) rfl rfl (by kernel_rfl) (by kernel_rfl) (by kernel_rfl) (fun _ _ _ h => h) (by rfl) ?yaq1 ?_
        case yaq1 => (intro w' hw'; go_simp; try (with_reducible rfl))
        simp only [Act.put, List.setIfInBounds_toArray, List.set_cons_zero, List.set_cons_succ]
        refine wpAnyL_take (i := 2) (d := some 53) (v := ?vaq2) rfl rfl (by kernel_rfl) (by kernel_rfl) (by kernel_rfl) (fun _ _ _ h => h) (by rfl) ?yaq2 ?_
        case yaq2 => (intro w' hw'; go_simp; try (with_reducible rfl))
        simp only [Act.put, List.setIfInBounds_toArray, List.set_cons_zero, List.set_cons_succ]
        refine wpAnyL_take (i := 3) (d := some 54) (v := ?vaq3) rfl rfl (by kernel_rfl) (by kernel_rfl) (by kernel_rfl) (fun _ _ _ h => h) (by rfl) ?yaq3 ?_
        case yaq3 => (intro w' hw'; go_simp; try (with_reducible rfl))
        simp only [Act.put, List.setIfInBounds_toArray, List.set_cons_zero, List.set_cons_succ]
        refine wpAnyL_take (i := 4) (d := some 55) (v := ?vaq4) rfl rfl (by kernel_rfl) (by kernel_rfl) (by kernel_rfl) (fun _ _ _ h => h) (by rfl) ?yaq4 ?_
        case yaq4 => (intro w' hw'; go_simp; try (with_reducible rfl))
        simp only [Act.put, List.setIfInBounds_toArray, List.set_cons_zero, List.set_cons_succ]
        refine wpAnyL_take (i := 5) (d := some 56) (v := ?vaq5) rfl rfl (by kernel_rfl) (by kernel_rfl) (by kernel_rfl) (fun _ _ _ h => h) (by rfl) ?yaq5 ?_
        case yaq5 => (intro w' hw'; go_simp; try (with_reducible rfl))
        simp only [Act.put, List.setIfInBounds_toArray, List.set_cons_zero, List.set_cons_succ]
        refine wpAnyL_take (i := 6) (d := some 57) (v := ?vaq6) rfl rfl (by kernel_rfl) (by kernel_rfl) (by kernel_rfl) (fun _ _ _ h => h) (by rfl) ?yaq6 ?_
        case yaq6 => (intro w' hw'; go_simp; try (with_reducible rfl))
        simp only [Act.put, List.setIfInBounds_toArray, List.set_cons_zero, List.set_cons_succ]
        refine wpAnyL_take (i := 7) (d := some 58) (v := ?vaq7) rfl rfl (by kernel_rfl) (by kernel_rfl) (by kernel_rfl) (fun _ _ _ h => h) (by rfl) ?yaq7 ?_
        case yaq7 => (intro w' hw'; go_simp; try (with_reducible rfl))
        simp only [Act.put, List.setIfInBounds_toArray, List.set_cons_zero, List.set_cons_succ]
        refine wpAnyL_take (i := 8) (d := some 59) (v := ?vaq8) rfl rfl (by kernel_rfl) (by kernel_rfl) (by kernel_rfl) (fun _ _ _ h => h) (by rfl) ?yaq8 ?_
        case yaq8 => (intro w' hw'; go_simp; try (with_reducible rfl))
        simp only [Act.put, List.setIfInBounds_toArray, List.set_cons_zero, List.set_cons_succ]
        refine wpAnyL_take (i := 9) (d := some 60) (v := ?vaq9) rfl rfl (by kernel_rfl) (by kernel_rfl) (by kernel_rfl) (fun _ _ _ h => h) (by rfl) ?yaq9 ?_
        case yaq9 => (intro w' hw'; go_simp; try (with_reducible rfl))
        simp only [Act.put, List.setIfInBounds_toArray, List.set_cons_zero, List.set_cons_succ]
        refine wpAnyL_take (i := 10) (d := some 61) (v := ?vaq10) rfl rfl (by kernel_rfl) (by kernel_rfl) (by kernel_rfl) (fun _ _ _ h => h) (by rfl) ?yaq10 ?_
        case yaq10 => (intro w' hw'; go_simp; try (with_reducible rfl))
        simp only [Act.put, List.setIfInBounds_toArray, List.set_cons_zero, List.set_cons_succ]
        refine wpAnyL_take (i := 11) (d := some 62) (v := ?vaq11) rfl rfl (by kernel_rfl) (by kernel_rfl) (by kernel_rfl) (fun _ _ _ h => h) (by rfl) ?yaq11 ?_
        case yaq11 => (intro w' hw'; go_simp; try (with_reducible rfl))
        simp only [Act.put, List.setIfInBounds_toArray, List.set_cons_zero, List.set_cons_succ]
        refine wpAnyL_take (i := 12) (d := some 63) (v := ?vaq12) rfl rfl (by kernel_rfl) (by kernel_rfl) (by kernel_rfl) (fun _ _ _ h => h) (by rfl) ?yaq12 ?_
        case yaq12 => (intro w' hw'; go_simp; try (with_reducible rfl))
        simp only [Act.put, List.setIfInBounds_toArray, List.set_cons_zero, List.set_cons_succ]
        refine wpAnyL_take (i := 13) (d := some 64) (v := ?vaq13) rfl rfl (by kernel_rfl) (by kernel_rfl) (by kernel_rfl) (fun _ _ _ h => h) (by rfl) ?yaq13 ?_
        case yaq13 => (intro w' hw'; go_simp; try (with_reducible rfl))
        simp only [Act.put, List.setIfInBounds_toArray, List.set_cons_zero, List.set_cons_succ]
        refine wpAnyL_take (i := 14) (d := some 65) (v := ?vaq14) rfl rfl (by kernel_rfl) (by kernel_rfl) (by kernel_rfl) (fun _ _ _ h => h) (by rfl) ?yaq14 ?_
        case yaq14 => (intro w' hw'; go_simp; try (with_reducible rfl))
        simp only [Act.put, List.setIfInBounds_toArray, List.set_cons_zero, List.set_cons_succ]
        refine wpAnyL_take (i := 17) (d := some 68) (v := ?vaq17) rfl rfl (by kernel_rfl) (by kernel_rfl) (by kernel_rfl) (fun _ _ _ h => h) (by rfl) ?yaq17 ?_
        case yaq17 => (intro w' hw'; go_simp; try (with_reducible rfl))
        simp only [Act.put, List.setIfInBounds_toArray, List.set_cons_zero, List.set_cons_succ]
        refine wpAnyL_take (i := 18) (d := some 69) (v := ?vaq18) rfl rfl (by kernel_rfl) (by kernel_rfl) (by kernel_rfl) (fun _ _ _ h => h) (by rfl) ?yaq18 ?_
        case yaq18 => (intro w' hw'; go_simp; try (with_reducible rfl))
        simp only [Act.put, List.setIfInBounds_toArray, List.set_cons_zero, List.set_cons_succ]
        refine wpAnyL_take (i := 19) (d := some 70) (v := ?vaq19) rfl rfl (by kernel_rfl) (by kernel_rfl) (by kernel_rfl) (fun _ _ _ h => h) (by rfl) ?yaq19 ?_
        case yaq19 => (intro w' hw'; have hc := box_cell (BY.out (L5.out.trans hw')) 1 (.int .i64 a.n) (by rfl); go_simp; try (with_reducible rfl))
        simp only [Act.put, List.setIfInBounds_toArray, List.set_cons_zero, List.set_cons_succ]
        refine wpAnyL_take (i := 23) (d := some 74) (v := ?vaq23) rfl rfl (by kernel_rfl) (by kernel_rfl) (by kernel_rfl) (fun _ _ _ h => h) (by rfl) ?yaq23 ?_
        case yaq23 => (intro w' hw'; go_simp; try (with_reducible rfl))
        simp only [Act.put, List.setIfInBounds_toArray, List.set_cons_zero, List.set_cons_succ]
        refine wpAnyL_take (i := 24) (d := some 75) (v := ?vaq24) rfl rfl (by kernel_rfl) (by kernel_rfl) (by kernel_rfl) (fun _ _ _ h => h) (by rfl) ?yaq24 ?_
        case yaq24 => (intro w' hw'; go_simp; try (with_reducible rfl))
        simp only [Act.put, List.setIfInBounds_toArray, List.set_cons_zero, List.set_cons_succ]
        refine wpAnyL_take (i := 25) (d := some 76) (v := ?vaq25) rfl rfl (by kernel_rfl) (by kernel_rfl) (by kernel_rfl) (fun _ _ _ h => h) (by rfl) ?yaq25 ?_
        case yaq25 => (intro w' hw'; have hc := box_cell (BY.out (L5.out.trans hw')) 1 (.int .i64 a.n) (by rfl); go_simp; try (with_reducible rfl))
        simp only [Act.put, List.setIfInBounds_toArray, List.set_cons_zero, List.set_cons_succ]
        refine wpAnyL_only (i := 15) rfl (by kernel_rfl) (by rfl) fun K hK => ?_
        go_simp
        refine (ids_no _ _ (NB.out _ L5.out)).mono ?_
        rintro e w6 ⟨rfl, rfl⟩
        refine hK.out _ _ (Later.refl _) ?_
        clear hK K
        try simp only [Act.put, List.setIfInBounds_toArray, List.set_cons_zero, List.set_cons_succ]
        refine wpAnyL_take (i := 16) (d := some 67) (v := ?vaq16) rfl rfl (by kernel_rfl) (by kernel_rfl) (by kernel_rfl) (fun _ _ _ h => h) (by rfl) ?yaq16 ?_
        case yaq16 => (intro w' hw'; go_simp; try (with_reducible rfl))
        simp only [Act.put, List.setIfInBounds_toArray, List.set_cons_zero, List.set_cons_succ]
        refine wpAnyL_only (i := 20) rfl (by kernel_rfl) (by rfl) fun K hK => ?_
        go_simp
        refine (to_no _ a.n _ (NB.out _ L5.out)).mono ?_
        rintro e w7 ⟨rfl, hb7⟩
        have L7 := hide (L5.out.trans hb7)
        have HB7 := hide hb7
        clear hb7
        refine hK.out _ _ HB7.out ?_
        clear hK K
        try simp only [Act.put, List.setIfInBounds_toArray, List.set_cons_zero, List.set_cons_succ]
        refine wpAnyL_take (i := 21) (d := some 72) (v := ?vaq21) rfl rfl (by kernel_rfl) (by kernel_rfl) (by kernel_rfl) (fun _ _ _ h => h) (by rfl) ?yaq21 ?_
        case yaq21 => (intro w' hw'; go_simp; try (with_reducible rfl))
        simp only [Act.put, List.setIfInBounds_toArray, List.set_cons_zero, List.set_cons_succ]
        refine wpAnyL_take (i := 22) (d := some 73) (v := ?vaq22) rfl rfl (by kernel_rfl) (by kernel_rfl) (by kernel_rfl) (fun _ _ _ h => h) (by rfl) ?yaq22 ?_
        case yaq22 => (intro w' hw'; go_simp; try (with_reducible rfl))
        simp only [Act.put, List.setIfInBounds_toArray, List.set_cons_zero, List.set_cons_succ]
        refine wpAnyL_only (i := 26) rfl (by kernel_rfl) (by rfl) fun K hK => ?_
        go_simp
        refine (clear_no _ a.n _ (NB.out _ L7.out)).mono ?_
        rintro e w8 ⟨rfl, hb8⟩
        have L8 := hide (L7.out.trans hb8)
        have HB8 := hide hb8
        clear hb8
        refine hK.out _ _ HB8.out ?_
        clear hK K
        try simp only [Act.put, List.setIfInBounds_toArray, List.set_cons_zero, List.set_cons_succ]
        refine wpAnyL_take (i := 27) (d := some 78) (v := ?vaq27) rfl rfl (by kernel_rfl) (by kernel_rfl) (by kernel_rfl) (fun _ _ _ h => h) (by rfl) ?yaq27 ?_
        case yaq27 => (intro w' hw'; go_simp; try (with_reducible rfl))
        simp only [Act.put, List.setIfInBounds_toArray, List.set_cons_zero, List.set_cons_succ]
        refine wpAnyL_take (i := 28) (d := some 79) (v := ?vaq28) rfl rfl (by kernel_rfl) (by kernel_rfl) (by kernel_rfl) (fun _ _ _ h => h) (by rfl) ?yaq28 ?_
        case yaq28 => (intro w' hw'; go_simp; try (with_reducible rfl))
        simp only [Act.put, List.setIfInBounds_toArray, List.set_cons_zero, List.set_cons_succ]
        refine wpAnyL_take (i := 29) (d := some 80) (v := ?vaq29) rfl rfl (by kernel_rfl) (by kernel_rfl) (by kernel_rfl) (fun _ _ _ h => h) (by rfl) ?yaq29 ?_
        case yaq29 => (intro w' hw'; go_simp; try (with_reducible rfl))
        simp only [Act.put, List.setIfInBounds_toArray, List.set_cons_zero, List.set_cons_succ]
        refine wpAnyL_done (by kernel_rfl) ?_ _
        go_wp2
        go_roundw
        case rel => exact ⟨1 + 1, by omega, by go_num, L8.out⟩
        case measure => simp [Go.RowKit.intOf]
      · go_wp2_with (fail)
        refine (lives_any _).mono ?_
        rintro e w2 ⟨rfl, hb2⟩
        have HB2 := hide hb2
        clear hb2
        go_wp2
        go_ret
        exact ⟨rfl, ((Below.refl _ _).alloc (Nat.le_refl _) _).trans (((L2.out.trans LR.out).trans HB2.out).mono (by simp))⟩
end Go.Proofs.Ytaimnhlpdkpobaa
