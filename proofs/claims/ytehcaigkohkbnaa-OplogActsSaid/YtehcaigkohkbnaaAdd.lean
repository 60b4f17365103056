/- Add of package oplog. -/
import Derived.Test.YtehcaigkohkbnaaLogPut
import Derived.Test.YtehcaigkohkbnaaOrderV
import Derived.Test.YtehcaigkohkbnaaLitW
import Derived.Test.YtehcaigkohkbnaaCopyOp
namespace Go.Proofs.Ytehcaigkohkbnaa
open Go.RowKit

theorem add_no (p : Value) (o : OpD) (s : Value) (w : World) (h : NoLog w p) : Calls Try.prog 28 #[p, .agg (o.cells s).toArray] w fun e w' => e = .returned (.tuple #[.int .i64 0, .int .i64 1]) ∧ Below w.heap.size w w' := by
  obtain ⟨W, hW⟩ : ∃ W, W = w.alloc (.cells (o.cells s).toArray 33 (0, 0)) := ⟨_, rfl⟩
  have BW : Hid (Below w.heap.size w W) := by rw [hW]; exact (Below.refl _ _).alloc (Nat.le_refl _) _
  have C := hide (made_no p W (h.later BW.out))
  have hp : ∃ a, p = .pointer a := by rcases h with rfl | ⟨g, rfl, _⟩ <;> exact ⟨_, rfl⟩
  obtain ⟨a, rfl⟩ := hp
  clear h
  unfold OpD.cells at hW ⊢
  go_enter Try.func28, Try.ntmps28
  go_wp2_with (fail)
  rw [← hW]
  clear hW
  refine C.out.mono ?_
  rintro e w1 ⟨rfl, rfl⟩
  go_wp2
  go_ret2
  exact ⟨rfl, BW.out⟩

section
variable {S F : Nat → Prop} {l k base c : Nat} {v : Value} {ps : List (OpD × Value)}
theorem add_full (o : OpD) (s : Value) (w : World) (h : LogAt S w l k base v ps c) (hl : ps.length = 2000) : Calls Try.prog 28 #[.pointer (some ⟨l, 0, none⟩), .agg (o.cells s).toArray] w fun e w' => e = .returned (.tuple #[.int .i64 0, .int .i64 7]) ∧ Below w.heap.size w w' := by
  obtain ⟨W, hW⟩ : ∃ W, W = w.alloc (.cells (o.cells s).toArray 33 (0, 0)) := ⟨_, rfl⟩
  have BW : Hid (Below w.heap.size w W) := by rw [hW]; exact (Below.refl _ _).alloc (Nat.le_refl _) _
  obtain ⟨A, cp, rfl, h1, h2⟩ := h.parts.shape
  have C := hide (made_yes W (h.later BW.out))
  have c0 := (h.later BW.out).lcell
  obtain ⟨k0, k1, _, _⟩ := (h.later BW.out).parts.cells
  rw [hl] at k0
  clear h hl
  unfold OpD.cells at hW ⊢
  go_enter Try.func28, Try.ntmps28
  go_wp2_with (fail)
  rw [← hW]
  clear hW
  refine C.out.mono ?_
  rintro e w1 ⟨rfl, rfl⟩
  go_wp2
  go_ret2
  exact ⟨rfl, BW.out⟩

/-- What Add leaves. -/
def Added (S : Nat → Prop) (w : World) (l k base : Nat) (ps : List (OpD × Value)) (c : Nat) (o : OpD) (e : Ending) (w' : World) : Prop :=
  ∃ v' s', e = .returned (.tuple #[.int .i64 ((ps.length + 1 : Nat) : Int), .int .i64 0]) ∧ LogAt (Grows S w w') w' l k base v' (ps ++ [(o, s')]) c ∧ Turned S w w'

set_option maxHeartbeats 2000000 in
set_option maxRecDepth 100000 in
theorem add_yes (o : OpD) (s : Value) (w : World) (h : LogAt S w l k base v ps c) (hs : StepsAt F w s o.steps) (ho : o.steps.length ≤ 1000000) (hlt : ps.length < 2000) :
    Calls Try.prog 28 #[.pointer (some ⟨l, 0, none⟩), .agg (o.cells s).toArray] w (Added S w l k base ps c o) := by
  obtain ⟨i0, hi, hz0, hz1, hz2⟩ := info_parts Try.infoOp
  obtain ⟨A, cp, rfl, h1, h2⟩ := h.parts.shape
  obtain ⟨sA, sc, rfl, _, _, _⟩ := FlatAt.shape hs
  obtain ⟨W, hW⟩ : ∃ W, W = w.alloc (.cells (o.cells (.slice sA o.steps.length sc)).toArray 33 (0, 0)) := ⟨_, rfl⟩
  have BW : Hid (Below w.heap.size w W) := by rw [hW]; exact (Below.refl _ _).alloc (Nat.le_refl _) _
  have szW : W.heap.size = w.heap.size + 1 := by rw [hW]; simp
  have XB : Hid (W.heap[w.heap.size]? = some (.cells (o.cells (.slice sA o.steps.length sc)).toArray 33 (0, 0))) := by rw [hW]; exact heap_alloc_new _ _
  have HL := hide h
  have HW := hide (h.later BW.out)
  have C0 := hide (made_yes W HW.out)
  have C1 := hide (fun w' (hb : Below W.heap.size W w') => copyop_own F o _ w' ((hs.kept (Kept.of_below BW.out F)).kept (Kept.of_below hb F)) ho)
  have c0 := HW.out.lcell
  obtain ⟨k0, k1, _, _⟩ := HW.out.parts.cells
  have X1 := hide HW.out.cell
  have X2 := hide HW.out.parts.kept
  have hlk : l ≠ k := h.ne
  have HWN : Hid (some w.heap.size ≠ (Value.slice A ps.length cp).ownBlock) := fun e => by have := own_in h.parts.own w.heap.size e.symm; omega
  have hlw : l < w.heap.size := lt_of_block h.cell
  have hkw : k < w.heap.size := lt_of_block h.parts.kept
  have hbw : base ≤ w.heap.size := h.parts.base
  have HO := hide ho
  clear h hs ho
  unfold maxLen at h2
  unfold OpD.cells at hW ⊢
  go_enter Try.func28, Try.ntmps28
  go_wp2_with (fail)
  rw [← hW]
  clear hW
  refine C0.out.mono ?_
  rintro e w1 ⟨rfl, rfl⟩
  go_wp2
  refine wp_region_V (fun a b => a.grownBy b (Value.slice A ps.length cp).ownBlock) (fun j => j == 17) (by kernel_rfl) ?_
  refine wpAnyV_take (pre_grown _) (i := 0) (d := some 18) (v := ?vaa0) rfl rfl (by kernel_rfl) (by kernel_rfl) (by kernel_rfl) (by kernel_rfl) (by kernel_rfl) (fun _ _ _ h => h) (by rfl) ?yaa0 ?_
  case yaa0 => (intro w' hw'; go_simp; try (with_reducible rfl))
  simp only [Act.put]; try simp only [List.setIfInBounds_toArray]; try simp only [List.set_cons_zero, List.set_cons_succ]
  refine wpAnyV_take (pre_grown _) (i := 1) (d := some 19) (v := ?vaa1) rfl rfl (by kernel_rfl) (by kernel_rfl) (by kernel_rfl) (by kernel_rfl) (by kernel_rfl) (fun _ _ _ h => h) (by rfl) ?yaa1 ?_
  case yaa1 => (intro w' hw'; go_simp; try (with_reducible rfl))
  simp only [Act.put]; try simp only [List.setIfInBounds_toArray]; try simp only [List.set_cons_zero, List.set_cons_succ]
  refine wpAnyV_take (pre_grown _) (i := 2) (d := some 20) (v := ?vaa2) rfl rfl (by kernel_rfl) (by kernel_rfl) (by kernel_rfl) (by kernel_rfl) (by kernel_rfl) (fun _ _ _ h => h) (by rfl) ?yaa2 ?_
  case yaa2 => (intro w' hw'; go_simp; try (with_reducible rfl))
  simp only [Act.put]; try simp only [List.setIfInBounds_toArray]; try simp only [List.set_cons_zero, List.set_cons_succ]
  refine wpAnyV_take (pre_grown _) (i := 3) (d := some 21) (v := .pointer (some ⟨k, 0, none⟩)) rfl rfl (by kernel_rfl) (by kernel_rfl) (by kernel_rfl) (by kernel_rfl) (by kernel_rfl) (fun _ _ _ h => h) (by rfl) ?yaa3 ?_
  case yaa3 => (intro w' hw'; have hc0 := cell_of_row w' l 0 _ _ _ ((World.grownBy.block hw' l (lt_of_block X1.out) HW.out.l_ne).trans X1.out); simp only [List.getElem?_toArray, List.getElem?_cons_zero] at hc0; go_simp; try (with_reducible rfl))
  simp only [Act.put]; try simp only [List.setIfInBounds_toArray]; try simp only [List.set_cons_zero, List.set_cons_succ]
  refine wpAnyV_take (pre_grown _) (i := 4) (d := some 22) (v := ?vaa4) rfl rfl (by kernel_rfl) (by kernel_rfl) (by kernel_rfl) (by kernel_rfl) (by kernel_rfl) (fun _ _ _ h => h) (by rfl) ?yaa4 ?_
  case yaa4 => (intro w' hw'; go_simp; try (with_reducible rfl))
  simp only [Act.put]; try simp only [List.setIfInBounds_toArray]; try simp only [List.set_cons_zero, List.set_cons_succ]
  refine wpAnyV_take (pre_grown _) (i := 5) (d := some 23) (v := ?vaa5) rfl rfl (by kernel_rfl) (by kernel_rfl) (by kernel_rfl) (by kernel_rfl) (by kernel_rfl) (fun _ _ _ h => h) (by rfl) ?yaa5 ?_
  case yaa5 => (intro w' hw'; go_simp; try (with_reducible rfl))
  simp only [Act.put]; try simp only [List.setIfInBounds_toArray]; try simp only [List.set_cons_zero, List.set_cons_succ]
  refine wpAnyV_take (pre_grown _) (i := 6) (d := some 24) (v := ?vaa6) rfl rfl (by kernel_rfl) (by kernel_rfl) (by kernel_rfl) (by kernel_rfl) (by kernel_rfl) (fun _ _ _ h => h) (by rfl) ?yaa6 ?_
  case yaa6 => (intro w' hw'; go_simp; try (with_reducible rfl))
  simp only [Act.put]; try simp only [List.setIfInBounds_toArray]; try simp only [List.set_cons_zero, List.set_cons_succ]
  refine wpAnyV_take (pre_grown _) (i := 7) (d := some 25) (v := .pointer (some ⟨k, 0, none⟩)) rfl rfl (by kernel_rfl) (by kernel_rfl) (by kernel_rfl) (by kernel_rfl) (by kernel_rfl) (fun _ _ _ h => h) (by rfl) ?yaa7 ?_
  case yaa7 => (intro w' hw'; have hc0 := cell_of_row w' l 0 _ _ _ ((World.grownBy.block hw' l (lt_of_block X1.out) HW.out.l_ne).trans X1.out); simp only [List.getElem?_toArray, List.getElem?_cons_zero] at hc0; go_simp; try (with_reducible rfl))
  simp only [Act.put]; try simp only [List.setIfInBounds_toArray]; try simp only [List.set_cons_zero, List.set_cons_succ]
  refine wpAnyV_take (pre_grown _) (i := 8) (d := some 26) (v := ?vaa8) rfl rfl (by kernel_rfl) (by kernel_rfl) (by kernel_rfl) (by kernel_rfl) (by kernel_rfl) (fun _ _ _ h => h) (by rfl) ?yaa8 ?_
  case yaa8 => (intro w' hw'; go_simp; try (with_reducible rfl))
  simp only [Act.put]; try simp only [List.setIfInBounds_toArray]; try simp only [List.set_cons_zero, List.set_cons_succ]
  refine wpAnyV_take (pre_grown _) (i := 9) (d := some 27) (v := ?vaa9) rfl rfl (by kernel_rfl) (by kernel_rfl) (by kernel_rfl) (by kernel_rfl) (by kernel_rfl) (fun _ _ _ h => h) (by rfl) ?yaa9 ?_
  case yaa9 => (intro w' hw'; go_simp; try (with_reducible rfl))
  simp only [Act.put]; try simp only [List.setIfInBounds_toArray]; try simp only [List.set_cons_zero, List.set_cons_succ]
  refine wpAnyV_take (pre_grown _) (i := 10) (d := some 28) (v := .slice A ps.length cp) rfl rfl (by kernel_rfl) (by kernel_rfl) (by kernel_rfl) (by kernel_rfl) (by kernel_rfl) (fun _ _ _ h => h) (by rfl) ?yaa10 ?_
  case yaa10 => (intro w' hw'; have hc1 := cell_of_row w' k 0 _ _ _ ((World.grownBy.block hw' k (lt_of_block X2.out) HW.out.parts.k_ne).trans X2.out); simp only [List.getElem?_toArray, List.getElem?_cons_zero] at hc1; go_simp; try (with_reducible rfl))
  simp only [Act.put]; try simp only [List.setIfInBounds_toArray]; try simp only [List.set_cons_zero, List.set_cons_succ]
  refine wpAnyV_take (pre_grown _) (i := 11) (d := some 29) (v := .agg (o.cells (.slice sA o.steps.length sc)).toArray) rfl rfl (by kernel_rfl) (by kernel_rfl) (by kernel_rfl) (by kernel_rfl) (by kernel_rfl) (fun _ _ _ h => h) (by rfl) ?yaa11 ?_
  case yaa11 => (intro w' hw'; exact exec_load_box 33 _ (by rfl) w.heap.size 0 (by rfl) 33 _ ((World.grownBy.block hw' w.heap.size (lt_of_block XB.out) HWN.out).trans XB.out) 10 _ Try.underlying33 (by rfl) (by kernel_rfl) (o.cells (.slice sA o.steps.length sc)) (by rfl) (by rfl))
  simp only [Act.put]; try simp only [List.setIfInBounds_toArray]; try simp only [List.set_cons_zero, List.set_cons_succ]
  refine wpAnyV_only (pre_grown _) (i := 12) rfl (by kernel_rfl) (by rfl) fun K hK => ?_
  go_simp
  refine (C1.out W.drew ((Below.refl _ _).drew)).mono ?_
  rintro e w5 ⟨s5, rfl, hs5, hb5⟩
  have HS5 := hide hs5
  have HB5 := hide hb5
  have hsz5 : W.heap.size ≤ w5.heap.size := hb5.size
  clear hs5 hb5
  refine hK.out _ _ (grown_later HB5.out _) ?_
  clear hK K
  try (simp only [Act.put]; try simp only [List.setIfInBounds_toArray]; try simp only [List.set_cons_zero, List.set_cons_succ])
  refine wpAnyV_only (pre_grown _) (i := 13) rfl (by kernel_rfl) (by rfl) fun K hK => ?_
  refine wp_buildSlice_one 39 33 _ (by rfl) i0 _ 10 Try.underlying39 hi hz0 hz1 (by decide) (by decide) (o.cells s5).toArray (by rfl) (by rfl) ?_
  refine hK.out _ _ (grown_later ((Below.refl _ _).alloc (Nat.le_refl _) _) _) ?_
  clear hK K
  try (simp only [Act.put]; try simp only [List.setIfInBounds_toArray]; try simp only [List.set_cons_zero, List.set_cons_succ])
  refine wpAnyV_only (pre_grown _) (i := 14) rfl (by kernel_rfl) (by rfl) fun K hK => ?_
  refine wp_append_flat _ _ 39 (by rfl) base 33 i0 _ 10 96 Try.underlying39 hi hz0 hz1 hz2 rfl (by decide) (.slice A ps.length cp) ps.length (opcells ps) (by rfl) (own_kept HW.out.parts.own fun q hq => (heap_alloc_old _ _ (by have := own_in HL.out.parts.own q hq; omega)).trans (HB5.out.block q (by have := own_in HL.out.parts.own q hq; show q < W.heap.size; omega))) w5.heap.size 1 1 (o.cells s5).toArray.toList (by rfl) (fun _ => True) (flat_one w5 33 10 _ rfl (o.one (FlatAt.oneCell HS5.out.1)) _ trivial) (by decide) (by unfold maxLen; omega) (by omega) (by simp; omega) ?_
  intro v7 w7 ho7 hg7 hv7
  obtain ⟨A7, c7, rfl, hc7⟩ := own_slice ho7
  have HO7 := hide ho7
  have HG7 := hide hg7
  have HV7 := hide hv7
  clear ho7 hg7 hv7
  have X7 : Hid (w7.heap[k]? = some (.cells #[.slice A ps.length cp, .int .i64 (c : Int)] 104 (0, 0))) := (HG7.out.block k (by simp; omega) HW.out.parts.k_ne).trans ((heap_alloc_old _ _ (by omega)).trans ((HB5.out.block k (by show k < W.heap.size; omega)).trans X2.out))
  refine hK.out _ _ HG7.out ?_
  clear hK K
  try (simp only [Act.put]; try simp only [List.setIfInBounds_toArray]; try simp only [List.set_cons_zero, List.set_cons_succ])
  refine wpAnyV_take (pre_grown _) (i := 15) (d := some 33) (v := ?vaa15) rfl rfl (by kernel_rfl) (by kernel_rfl) (by kernel_rfl) (by kernel_rfl) (by kernel_rfl) (fun _ _ _ h => h) (by rfl) ?yaa15 ?_
  case yaa15 => (intro w' hw'; go_simp; try (with_reducible rfl))
  simp only [Act.put]; try simp only [List.setIfInBounds_toArray]; try simp only [List.set_cons_zero, List.set_cons_succ]
  refine wpAnyV_take (pre_grown _) (i := 16) (d := some 34) (v := ?vaa16) rfl rfl (by kernel_rfl) (by kernel_rfl) (by kernel_rfl) (by kernel_rfl) (by kernel_rfl) (fun _ _ _ h => h) (by rfl) ?yaa16 ?_
  case yaa16 => (intro w' hw'; go_simp; try (with_reducible rfl))
  simp only [Act.put]; try simp only [List.setIfInBounds_toArray]; try simp only [List.set_cons_zero, List.set_cons_succ]
  refine wpAnyV_write (i := 17) rfl rfl (by kernel_rfl) (by rfl) fun K hK => ?_
  have k7 := cell_of_row w7 k 0 _ _ _ X7.out
  have f7 := frozen_of_row w7 k 0 _ _ X7.out
  simp only [List.getElem?_toArray, List.getElem?_cons_zero] at k7
  go_simp
  refine hK.out _ _ ?_
  clear hK K
  try simp only [Act.put]
  refine wpAnyV_done (by kernel_rfl) ?_ _
  have HT8 : Hid (∀ i, i < w.heap.size → i ≠ k → some i ≠ (Value.slice A ps.length cp).ownBlock → (w7.setCell ⟨k, 0, none⟩ (.slice A7 (ps.length + 1) c7)).heap[i]? = w.heap[i]?) := fun i hi e1 e2 =>
    (heap_setCell_other _ _ _ _ e1).trans ((HG7.out.block i (by simp; omega) e2).trans ((heap_alloc_old _ _ (by omega)).trans ((HB5.out.block i (by show i < W.heap.size; omega)).trans (BW.out.block i hi))))
  have hsz7 := HG7.out.size
  have hsz6 : (w5.alloc (.cells (o.cells s5).toArray 33 (0, 0))).heap.size = w5.heap.size + 1 := by simp
  have hcl7 : w7.cell? ⟨l, 0, none⟩ = some (.pointer (some ⟨k, 0, none⟩)) := by
    have hb : w7.heap[l]? = _ := (HG7.out.block l (by simp; omega) HW.out.l_ne).trans ((heap_alloc_old _ _ (by omega)).trans ((HB5.out.block l (by show l < W.heap.size; omega)).trans X1.out))
    exact cell_of_row w7 l 0 _ _ _ hb
  go_wp2
  go_ret2
  refine ⟨.slice A7 (ps.length + 1) c7, s5, rfl, ?_, ?_⟩
  · have hown8 : (w7.setCell ⟨k, 0, none⟩ (.slice A7 (ps.length + 1) c7)).ownsRow base 33 10 (.slice A7 (ps.length + 1) c7) (ps ++ [(o, s5)]).length (opcells (ps ++ [(o, s5)])) := by
      rw [List.length_append, opcells_append, opcells_one]
      refine own_kept HO7.out fun q hq => heap_setCell_other _ _ _ _ fun e => ?_
      subst e
      rcases HV7.out with e2 | e2
      · rw [hq] at e2
        exact HW.out.parts.k_ne e2
      · rw [hq] at e2
        have := Option.some.inj e2
        omega
    have hv7 : ∀ q, (Value.slice A7 (ps.length + 1) c7).ownBlock = some q → (Value.slice A ps.length cp).ownBlock = some q ∨ w.heap.size ≤ q := fun q hq => by
      rcases HV7.out with e2 | e2
      · exact .inl (e2.symm.trans hq)
      · rw [hq] at e2
        have := Option.some.inj e2
        exact .inr (by omega)
    have hS5 := HS5.out.1
    have hsz8 : (w7.setCell ⟨k, 0, none⟩ (.slice A7 (ps.length + 1) c7)).heap.size = w7.heap.size := by simp [World.setCell]
    refine HL.out.put (HT8.out l hlw hlk HL.out.l_ne) (HL.out.parts.put (heap_setCell_same w7 k 0 _ _ _ X7.out) hown8 ?_ hv7 (by have := HL.out.parts.com; simp; omega) (by simp; omega) ?_ (by omega))
    · intro q hq
      rcases List.mem_append.1 hq with hq | hq
      · exact HL.out.parts.old_steps HT8.out (by omega) hv7 q hq
      · obtain rfl : q = (o, s5) := by simpa using hq
        have h1 : StepsAt (fun i => (w.heap.size ≤ i ∧ i < w7.heap.size) ∧ i ≠ k ∧ some i ≠ (Value.slice A7 (ps.length + 1) c7).ownBlock ∧ some i ≠ (Value.slice A ps.length cp).ownBlock) w5 s5 o.steps := hS5.mono fun i hi hf => by
          have hf' : W.heap.size ≤ i := hf
          refine ⟨⟨by omega, by omega⟩, by omega, fun e => ?_, fun e => ?_⟩
          · rcases HV7.out with e2 | e2
            · rw [← e] at e2
              have := own_in HL.out.parts.own i e2.symm
              omega
            · rw [← e] at e2
              have := Option.some.inj e2
              omega
          · have := own_in HL.out.parts.own i e.symm
            omega
        refine (h1.kept ⟨by omega, fun i hi hf => (heap_setCell_other _ _ _ _ hf.2.1).trans ((HG7.out.block i (by simp; omega) hf.2.2.2).trans (heap_alloc_old _ _ hi))⟩).mono fun i _ hf => ⟨.inr ⟨hf.1.1, by rw [hsz8]; exact hf.1.2⟩, hf.2.1, hf.2.2.1⟩
    · intro p hp
      rcases List.mem_append.1 hp with hp | hp
      · exact HL.out.parts.small p hp
      · obtain rfl : p = (o, s5) := by simpa using hp
        exact HO.out
  · have o1 := HB5.out
    have o2 := HG7.out
    refine ⟨?_, ?_, ?_, ?_, fun i hi hn => HT8.out i hi (fun e => hn (by rw [e]; exact HL.out.parts.inn.1)) fun e => hn (HL.out.parts.inn.2 i e.symm)⟩
    · exact (o2.os.trans (o1.os)).trans BW.out.os
    · exact (o2.tape.trans (o1.tape)).trans BW.out.tape
    · exact (o2.output.trans (o1.output)).trans BW.out.output
    · simp [World.setCell]
      omega
end
end Go.Proofs.Ytehcaigkohkbnaa
