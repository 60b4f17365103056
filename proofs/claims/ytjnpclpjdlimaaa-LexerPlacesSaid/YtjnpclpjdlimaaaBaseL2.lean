/- Texts merged: Token, LitW, AppendAt, Tokens, Name, RefB, RefT, Bld, TextW, Lives12, Same12, Back12, OpenG, Arg12. -/
import Derived.Test.YtjnpclpjdlimaaaBaseL1
import Derived.Shelf.Strconv.Clone
import Derived.Shelf.Strings.BuilderK
import Derived.Test.YtjnpclpjdlimaaaProg
import Derived.WalkKit
import Derived.Laws.StructEq
import Derived.Deep.Slices
import Derived.ChangeArms
import Derived.SizedLaws
import Derived.ShutString
import Derived.ProofKit
import Derived.OpenShut
import Derived.ChangeMaps5
/- A token made. -/
namespace Go.Proofs.Ytjnpclpjdlimaaa
open Go.RowKit

section
variable {w : World}
theorem clone_any (s : ByteArray) (w : World) (h : s.size ≤ 10000) : Calls Try.prog 33 #[.string s] w fun e w' => e = .returned (.string s) ∧ Later w w' := by
  have C := hide (Any.stringslite_Clone (P := Try.prog) (ρ := Try.cloneA_ren) { Try.cloneA with } s w (by omega))
  go_enter Try.func33, Try.ntmps33
  go_wp2_with (fail)
  refine C.out.mono ?_
  rintro e w1 ⟨rfl, hl⟩
  have HL : Hid (Later w w1) := hl
  clear C hl
  go_wp2
  go_ret
  exact ⟨rfl, HL.out⟩
theorem cells4 {W : World} {g : Nat} {t : TypeId} {a b c d : Value} (h : W.heap[g]? = some (.cells #[a, b, c, d] t (0, 0))) : W.cell? ⟨g, 0, none⟩ = some a ∧ W.cell? ⟨g, 1, none⟩ = some b ∧ W.cell? ⟨g, 2, none⟩ = some c ∧ W.cell? ⟨g, 3, none⟩ = some d :=
  ⟨by simpa using cell_of_row W g 0 _ _ _ h, by simpa using cell_of_row W g 1 _ _ _ h, by simpa using cell_of_row W g 2 _ _ _ h, by simpa using cell_of_row W g 3 _ _ _ h⟩
def zeroTok : Array Value := #[.int .i64 0, .string ⟨#[]⟩, .int .i64 0, .int .i64 0]

set_option maxHeartbeats 4000000 in
set_option maxRecDepth 100000 in
theorem token_any (p : PartD) (l : List UInt8) (n : Nat) (hd : p.k = 2 → ∀ c ∈ l, digitB c.toNat = true) (hl : l.length ≤ 3000) :
    Calls Try.prog 23 #[.agg p.cells.toArray, .string ⟨l.toArray⟩, .int .i64 (n : Int)] w fun e w' => e = .returned (.agg (Tok.mk p.k l (if p.k = 2 then valF l else 0) n).cells.toArray) ∧ Later w w' := by
  obtain ⟨W, hW⟩ : ∃ W, W = (w.alloc (.cells p.cells.toArray 47 (0, 0))).alloc (.cells zeroTok 36 (0, 0)) := ⟨_, rfl⟩
  have L0 : Hid (Later w W) := by rw [hW]; exact ((Below.refl _ _).alloc (Nat.le_refl _) _).alloc (by simp) _
  have X1 : Hid (W.heap[w.heap.size]? = some (.cells p.cells.toArray 47 (0, 0))) := by rw [hW]; exact heap_alloc2_old w _ _
  have X2 : Hid (W.heap[w.heap.size + 1]? = some (.cells zeroTok 36 (0, 0))) := by rw [hW]; exact heap_alloc2_new w _ _
  have d0 : W.cell? ⟨w.heap.size, 0, none⟩ = some (.int .i64 (p.k : Int)) := (cell_of_row _ w.heap.size 0 _ _ _ X1.out).trans (by simp [PartD.cells])
  have D0 := hide d0
  have HD := hide hd
  have hsize : (⟨l.toArray⟩ : ByteArray).size ≤ 10000 := by simp [ByteArray.size]; omega
  obtain ⟨k, bb, gg, fb, fg⟩ := p
  have HV := fun (h : k = 2) W' => hide (value_any (w := W') l (HD.out h) hl)
  obtain ⟨s, hs⟩ : ∃ s : ByteArray, (⟨l.toArray⟩ : ByteArray) = s := ⟨_, rfl⟩
  unfold Tok.cells
  simp only at D0 HV ⊢
  rw [hs] at hsize HV ⊢
  have CC := fun W' => clone_any s W' hsize
  have HW := hide hW
  clear hW d0 hd hs hsize HD
  unfold PartD.cells SetV.val at *
  have HT : Hid (#[.int .i64 (k : Int), .string s, .int .i64 0, .int .i64 (n : Int)] = #[Value.int .i64 (k : Int), .string s, .int .i64 0, .int .i64 (n : Int)]) := rfl
  simp only at *
  go_enter Try.func23, Try.ntmps23
  go_wp2_with (fail)
  rw [← zeroTok, ← HW.out]
  refine wp_region_V Later (fun j => j == 7) (by kernel_rfl) ?_
  refine wpAnyV_take pre_later (i := 0) (d := some 8) (v := ?vaa0) rfl rfl (by kernel_rfl) (by kernel_rfl) (by kernel_rfl) (by kernel_rfl) (by kernel_rfl) (fun _ _ _ h => h) (by rfl) ?yaa0 ?_
  case yaa0 => (intro w' hw'; go_simp; try (with_reducible rfl))
  simp only [Act.put]; try simp only [List.setIfInBounds_toArray]; try simp only [List.set_cons_zero, List.set_cons_succ]
  refine wpAnyV_take pre_later (i := 1) (d := some 9) (v := ?vaa1) rfl rfl (by kernel_rfl) (by kernel_rfl) (by kernel_rfl) (by kernel_rfl) (by kernel_rfl) (fun _ _ _ h => h) (by rfl) ?yaa1 ?_
  case yaa1 => (intro w' hw'; have y := later_cell hw' (later_cell (Later.drew _) D0.out); go_simp; try (with_reducible rfl))
  simp only [Act.put]; try simp only [List.setIfInBounds_toArray]; try simp only [List.set_cons_zero, List.set_cons_succ]
  refine wpAnyV_take pre_later (i := 2) (d := some 10) (v := ?vaa2) rfl rfl (by kernel_rfl) (by kernel_rfl) (by kernel_rfl) (by kernel_rfl) (by kernel_rfl) (fun _ _ _ h => h) (by rfl) ?yaa2 ?_
  case yaa2 => (intro w' hw'; go_simp; try (with_reducible rfl))
  simp only [Act.put]; try simp only [List.setIfInBounds_toArray]; try simp only [List.set_cons_zero, List.set_cons_succ]
  refine wpAnyV_take pre_later (i := 4) (d := some 12) (v := ?vaa4) rfl rfl (by kernel_rfl) (by kernel_rfl) (by kernel_rfl) (by kernel_rfl) (by kernel_rfl) (fun _ _ _ h => h) (by rfl) ?yaa4 ?_
  case yaa4 => (intro w' hw'; go_simp; try (with_reducible rfl))
  simp only [Act.put]; try simp only [List.setIfInBounds_toArray]; try simp only [List.set_cons_zero, List.set_cons_succ]
  refine wpAnyV_two (i := 3) (j := 6) rfl rfl (by kernel_rfl) (by rfl) (by rfl) (fun K hK => ?_) (fun K hK => ?_)
  · go_simp
    refine (CC _).mono ?_
    rintro e w1 ⟨rfl, hl1⟩
    have L1 := hide ((L0.out.trans (Later.drew _)).trans hl1)
    have D1 := hide (later_cell ((Later.drew _).trans hl1) D0.out)
    have XB1 := hide ((Below.block ((Later.drew _).trans hl1) (w.heap.size + 1) (lt_of_block X2.out)).trans X2.out)
    refine hK.out _ _ hl1 ?_
    clear hl1
    clear hK K
    try (simp only [Act.put]; try simp only [List.setIfInBounds_toArray]; try simp only [List.set_cons_zero, List.set_cons_succ])
    refine wpAnyV_take pre_later (i := 5) (d := some 13) (v := ?vaax5) rfl rfl (by kernel_rfl) (by kernel_rfl) (by kernel_rfl) (by kernel_rfl) (by kernel_rfl) (fun _ _ _ h => h) (by rfl) ?yaax5 ?_
    case yaax5 => (intro w' hw'; go_simp; try (with_reducible rfl))
    simp only [Act.put]; try simp only [List.setIfInBounds_toArray]; try simp only [List.set_cons_zero, List.set_cons_succ]
    refine wpAnyV_only pre_later (i := 6) rfl (by kernel_rfl) (by rfl) fun K hK => ?_
    go_simp
    obtain ⟨w2, hw2⟩ : ∃ w2, w2 = w1.alloc (.cells zeroTok 36 (0, 0)) := ⟨_, rfl⟩
    obtain ⟨g, hg⟩ : ∃ g, g = w1.heap.size := ⟨_, rfl⟩
    have M2 : Hid (Later w1 w2) := by rw [hw2]; exact (Below.refl _ _).alloc (Nat.le_refl _) _
    have XA : Hid (w2.heap[g]? = some (.cells zeroTok 36 (0, 0))) := by rw [hw2, hg]; exact heap_alloc_new _ _
    have L2 := hide ((L1.out).trans M2.out)
    have D2 := hide (later_cell M2.out D1.out)
    have XB0 := hide ((Below.block M2.out (w.heap.size + 1) (lt_of_block XB1.out)).trans XB1.out)
    have hgw : Hid (w.heap.size + 1 < g) := by rw [hg]; exact lt_of_block XB1.out
    have e1 := hw2.symm
    have e2 := hg.symm
    unfold zeroTok at e1
    simp only [e2, e1]
    refine hK.out _ _ M2.out ?_
    clear hw2 hg e1 e2
    clear hK K
    try (simp only [Act.put]; try simp only [List.setIfInBounds_toArray]; try simp only [List.set_cons_zero, List.set_cons_succ])
    refine wpAnyV_write (i := 7) rfl rfl (by kernel_rfl) (by rfl) fun K hK => ?_
    refine wp_store_box 36 _ _ (by rfl) g 0 #[.int .i64 (k : Int), .string s, .int .i64 0, .int .i64 (n : Int)] (by rfl) (by rfl) 36 _ XA.out (by kernel_rfl) (by exact Nat.le_of_ble_eq_true rfl) (by simp [Value.oneCell']) ?_
    intro w3 hb3 hg3
    have HB3 : Hid (w3.heap[g]? = some (.cells #[.int .i64 (k : Int), .string s, .int .i64 0, .int .i64 (n : Int)] 36 (0, 0))) := hb3
    have HG3 := hide hg3
    clear hb3 hg3
    refine hK.out _ _ ?_
    clear hK K
    try simp only [Act.put]
    refine wpAnyV_done (by kernel_rfl) ?_ _
    have D3 : Hid (w3.cell? ⟨w.heap.size, 0, none⟩ = some (.int .i64 (k : Int))) := (World.cell?_of_block (HG3.out.block w.heap.size (by have := lt_of_block XB0.out; omega) (by intro e; have := Option.some.inj e; have := hgw.out; omega))).trans D2.out
    have XB3 : Hid (w3.heap[w.heap.size + 1]? = some (.cells zeroTok 36 (0, 0))) := (HG3.out.block _ (lt_of_block XB0.out) (by intro e; have := Option.some.inj e; have := hgw.out; omega)).trans XB0.out
    have L3 : Hid (Later w w3) := Below.trans L2.out (below_grown (B := w.heap.size) HG3.out (by have := hgw.out; omega) (by have := lt_of_block XB0.out; omega))
    have d3 := D3.out
    obtain ⟨c0, c1, c2, c3⟩ := cells4 HB3.out
    have f2 := frozen_of_row w3 g 2 _ _ HB3.out
    by_cases hk : k = 2
    · have hkb : ((k : Int) == 2) = true := by rw [beq_iff_eq]; omega
      have CV := HV hk w3
      go_wp2_with (fail)
      refine CV.out.mono ?_
      rintro e w4 ⟨rfl, hl4⟩
      have X4 := hide ((Below.block hl4 g (lt_of_block HB3.out)).trans HB3.out)
      have Y4 := hide ((Below.block hl4 (w.heap.size + 1) (lt_of_block XB3.out)).trans XB3.out)
      have e4 := hide (later_cell hl4 D3.out)
      have L4 := hide (L3.out.trans hl4)
      clear hl4 CV c0 c1 c2 c3 f2 d3
      obtain ⟨c0, c1, c2, c3⟩ := cells4 X4.out
      have f2 := frozen_of_row w4 g 2 _ _ X4.out
      have Y5 : Hid ((w4.setCell ⟨g, 2, none⟩ (.int .i64 (valF l : Int))).heap[w.heap.size + 1]? = some (.cells zeroTok 36 (0, 0))) := ((grown_set w4 g 2 _).block _ (lt_of_block Y4.out) (by intro e; have := Option.some.inj e; have := hgw.out; omega)).trans Y4.out
      have L5 : Hid (Later w (w4.setCell ⟨g, 2, none⟩ (.int .i64 (valF l : Int)))) := Below.trans L4.out (below_grown (B := w.heap.size) (grown_set w4 g 2 _) (by have := hgw.out; omega) (by have := Below.size L4.out; omega))
      go_wp2_with (refine wpList_store_box (by rfl) 36 _ _ (by rfl) (w.heap.size + 1) 0 #[.int .i64 2, .string s, .int .i64 (valF l : Int), .int .i64 (n : Int)] (by rfl) (by rfl) 36 _ Y5.out (by kernel_rfl) (by exact Nat.le_of_ble_eq_true rfl) (by simp [Value.oneCell']) ?_; intro w7 hb7 hg7)
      refine bodyPost_ret (results_cell_row Try.results23 _ _ (w.heap.size + 1) 36 _ (0, 0) _ (by rfl) hb7 Try.underlying36 (by rfl) (by kernel_rfl)) (by rfl) ⟨by simp [putAt, zeroTok], ?_⟩
      exact Below.trans L5.out (below_grown (B := w.heap.size) hg7 (by omega) (by have := Below.size L5.out; omega))
    · have hkb : ((k : Int) == 2) = false := by rw [beq_eq_false_iff_ne]; omega
      go_wp2_with (refine wpList_store_box (by rfl) 36 _ _ (by rfl) (w.heap.size + 1) 0 #[.int .i64 ((k : Int)), .string s, .int .i64 0, .int .i64 (n : Int)] (by rfl) (by rfl) 36 _ XB3.out (by kernel_rfl) (by exact Nat.le_of_ble_eq_true rfl) (by simp [Value.oneCell']) ?_; intro w7 hb7 hg7)
      refine bodyPost_ret (results_cell_row Try.results23 _ _ (w.heap.size + 1) 36 _ (0, 0) _ (by rfl) hb7 Try.underlying36 (by rfl) (by kernel_rfl)) (by rfl) ⟨by simp [putAt, zeroTok], ?_⟩
      exact Below.trans L3.out (below_grown (B := w.heap.size) hg7 (by omega) (by have := Below.size L3.out; omega))
  · go_simp
    obtain ⟨w2, hw2⟩ : ∃ w2, w2 = (W.alloc (.cells zeroTok 36 (0, 0))).drew := ⟨_, rfl⟩
    obtain ⟨g, hg⟩ : ∃ g, g = W.heap.size := ⟨_, rfl⟩
    have M2 : Hid (Later W.drew w2) := by have b : Later W w2 := (by rw [hw2]; exact ((Below.refl _ _).alloc (Nat.le_refl _) _).drew); exact ⟨b.os, b.tape, b.output, b.size, b.block⟩
    have XA : Hid (w2.heap[g]? = some (.cells zeroTok 36 (0, 0))) := by rw [hw2, hg]; exact heap_alloc_new _ _
    have L2 := hide ((L0.out.trans (Later.drew _)).trans M2.out)
    have D2 := hide (later_cell M2.out (later_cell (Later.drew _) D0.out))
    have XB0 := hide ((Below.block ((Later.drew _).trans M2.out) (w.heap.size + 1) (lt_of_block X2.out)).trans X2.out)
    have hgw : Hid (w.heap.size + 1 < g) := by rw [hg]; exact lt_of_block X2.out
    have e1 := hw2.symm
    have e2 := hg.symm
    unfold zeroTok at e1
    simp only [e2, e1]
    refine hK.out _ _ M2.out ?_
    clear hw2 hg e1 e2
    clear hK K
    try (simp only [Act.put]; try simp only [List.setIfInBounds_toArray]; try simp only [List.set_cons_zero, List.set_cons_succ])
    refine wpAnyV_only pre_later (i := 3) rfl (by kernel_rfl) (by rfl) fun K hK => ?_
    go_simp
    refine (CC _).mono ?_
    rintro e w1 ⟨rfl, hl1⟩
    have L1 := hide ((L2.out).trans hl1)
    have XA1 := hide ((Below.block hl1 g (lt_of_block XA.out)).trans XA.out)
    have D1 := hide (later_cell hl1 D2.out)
    have XB1 := hide ((Below.block hl1 (w.heap.size + 1) (lt_of_block XB0.out)).trans XB0.out)
    refine hK.out _ _ hl1 ?_
    clear hl1
    clear hK K
    try (simp only [Act.put]; try simp only [List.setIfInBounds_toArray]; try simp only [List.set_cons_zero, List.set_cons_succ])
    refine wpAnyV_take pre_later (i := 5) (d := some 13) (v := ?vaay5) rfl rfl (by kernel_rfl) (by kernel_rfl) (by kernel_rfl) (by kernel_rfl) (by kernel_rfl) (fun _ _ _ h => h) (by rfl) ?yaay5 ?_
    case yaay5 => (intro w' hw'; go_simp; try (with_reducible rfl))
    simp only [Act.put]; try simp only [List.setIfInBounds_toArray]; try simp only [List.set_cons_zero, List.set_cons_succ]
    refine wpAnyV_write (i := 7) rfl rfl (by kernel_rfl) (by rfl) fun K hK => ?_
    refine wp_store_box 36 _ _ (by rfl) g 0 #[.int .i64 (k : Int), .string s, .int .i64 0, .int .i64 (n : Int)] (by rfl) (by rfl) 36 _ XA1.out (by kernel_rfl) (by exact Nat.le_of_ble_eq_true rfl) (by simp [Value.oneCell']) ?_
    intro w3 hb3 hg3
    have HB3 : Hid (w3.heap[g]? = some (.cells #[.int .i64 (k : Int), .string s, .int .i64 0, .int .i64 (n : Int)] 36 (0, 0))) := hb3
    have HG3 := hide hg3
    clear hb3 hg3
    refine hK.out _ _ ?_
    clear hK K
    try simp only [Act.put]
    refine wpAnyV_done (by kernel_rfl) ?_ _
    have D3 : Hid (w3.cell? ⟨w.heap.size, 0, none⟩ = some (.int .i64 (k : Int))) := (World.cell?_of_block (HG3.out.block w.heap.size (by have := lt_of_block XB1.out; omega) (by intro e; have := Option.some.inj e; have := hgw.out; omega))).trans D1.out
    have XB3 : Hid (w3.heap[w.heap.size + 1]? = some (.cells zeroTok 36 (0, 0))) := (HG3.out.block _ (lt_of_block XB1.out) (by intro e; have := Option.some.inj e; have := hgw.out; omega)).trans XB1.out
    have L3 : Hid (Later w w3) := Below.trans L1.out (below_grown (B := w.heap.size) HG3.out (by have := hgw.out; omega) (by have := lt_of_block XB1.out; omega))
    have d3 := D3.out
    obtain ⟨c0, c1, c2, c3⟩ := cells4 HB3.out
    have f2 := frozen_of_row w3 g 2 _ _ HB3.out
    by_cases hk : k = 2
    · have hkb : ((k : Int) == 2) = true := by rw [beq_iff_eq]; omega
      have CV := HV hk w3
      go_wp2_with (fail)
      refine CV.out.mono ?_
      rintro e w4 ⟨rfl, hl4⟩
      have X4 := hide ((Below.block hl4 g (lt_of_block HB3.out)).trans HB3.out)
      have Y4 := hide ((Below.block hl4 (w.heap.size + 1) (lt_of_block XB3.out)).trans XB3.out)
      have e4 := hide (later_cell hl4 D3.out)
      have L4 := hide (L3.out.trans hl4)
      clear hl4 CV c0 c1 c2 c3 f2 d3
      obtain ⟨c0, c1, c2, c3⟩ := cells4 X4.out
      have f2 := frozen_of_row w4 g 2 _ _ X4.out
      have Y5 : Hid ((w4.setCell ⟨g, 2, none⟩ (.int .i64 (valF l : Int))).heap[w.heap.size + 1]? = some (.cells zeroTok 36 (0, 0))) := ((grown_set w4 g 2 _).block _ (lt_of_block Y4.out) (by intro e; have := Option.some.inj e; have := hgw.out; omega)).trans Y4.out
      have L5 : Hid (Later w (w4.setCell ⟨g, 2, none⟩ (.int .i64 (valF l : Int)))) := Below.trans L4.out (below_grown (B := w.heap.size) (grown_set w4 g 2 _) (by have := hgw.out; omega) (by have := Below.size L4.out; omega))
      go_wp2_with (refine wpList_store_box (by rfl) 36 _ _ (by rfl) (w.heap.size + 1) 0 #[.int .i64 2, .string s, .int .i64 (valF l : Int), .int .i64 (n : Int)] (by rfl) (by rfl) 36 _ Y5.out (by kernel_rfl) (by exact Nat.le_of_ble_eq_true rfl) (by simp [Value.oneCell']) ?_; intro w7 hb7 hg7)
      refine bodyPost_ret (results_cell_row Try.results23 _ _ (w.heap.size + 1) 36 _ (0, 0) _ (by rfl) hb7 Try.underlying36 (by rfl) (by kernel_rfl)) (by rfl) ⟨by simp [putAt, zeroTok], ?_⟩
      exact Below.trans L5.out (below_grown (B := w.heap.size) hg7 (by omega) (by have := Below.size L5.out; omega))
    · have hkb : ((k : Int) == 2) = false := by rw [beq_eq_false_iff_ne]; omega
      go_wp2_with (refine wpList_store_box (by rfl) 36 _ _ (by rfl) (w.heap.size + 1) 0 #[.int .i64 ((k : Int)), .string s, .int .i64 0, .int .i64 (n : Int)] (by rfl) (by rfl) 36 _ XB3.out (by kernel_rfl) (by exact Nat.le_of_ble_eq_true rfl) (by simp [Value.oneCell']) ?_; intro w7 hb7 hg7)
      refine bodyPost_ret (results_cell_row Try.results23 _ _ (w.heap.size + 1) 36 _ (0, 0) _ (by rfl) hb7 Try.underlying36 (by rfl) (by kernel_rfl)) (by rfl) ⟨by simp [putAt, zeroTok], ?_⟩
      exact Below.trans L3.out (below_grown (B := w.heap.size) hg7 (by omega) (by have := Below.size L3.out; omega))
end
end Go.Proofs.Ytjnpclpjdlimaaa
/- A literal slice of one struct, and append of such a slice to a row, at an operation of a region that draws its order. -/
namespace Go.Proofs.Ytjnpclpjdlimaaa
open Go.RowKit

section
variable {P : Program} {w : World} {op : Oper} {a : Act} {K : Act → World → Prop} {Q : Exit → Act → World → Prop}
theorem wp_buildSlice_one (t e : TypeId) (x : Operand) (ho : op.op = .buildSlice t 1 #[(0, x)]) (i : TypeInfo) (z : Value) (k : Nat) (ht : P.underlying t = some (.slice e)) (hi : P.info? e = some i) (hz : i.zero = some z) (hs : i.size = k) (hk : 0 < k) (hk2 : k ≤ 16777216)
    (cells : Array Value) (hx : a.eval x = .agg cells) (hc : cells.size = k)
    (h : K (a.put op.dst (.slice (some ⟨w.heap.size, 0, none⟩) 1 1)) (w.alloc (.cells cells e (0, 0)))) : op.wp P a w K Q := by
  have hr := run_buildSlice_one (P := P) (w := w) t e i z k ht hi hz hs hk hk2 cells hc
  unfold Oper.wp
  simp [execOp, ho, hx, hr, Result.andThen]
  exact h
/-- A literal slice of one struct is a slice of it, in a new block. -/
theorem flat_one (w : World) (e k : Nat) (cells : Array Value) (hc : cells.size = k) (h1 : ∀ u ∈ cells.toList, u.oneCell' = true) (F : Nat → Prop) (hF : F w.heap.size) :
    FlatAt F (w.alloc (.cells cells e (0, 0))) k (.slice (some ⟨w.heap.size, 0, none⟩) 1 1) 1 cells.toList := by
  have hb : (w.alloc (.cells cells e (0, 0))).heap[w.heap.size]? = some (.cells cells e (0, 0)) := heap_alloc_new _ _
  refine ⟨by simp [hc], h1, some ⟨w.heap.size, 0, none⟩, 1, rfl, Nat.le_refl _, by unfold maxLen; omega, (fun h => by cases h), fun _ => ⟨w.heap.size, 0, rfl, hF, lt_of_block hb, fun j u hj => ?_⟩⟩
  rw [cell_of_row _ _ _ _ _ _ hb, Nat.zero_add]
  simpa using hj
theorem wp_append_flat (s x : Operand) (t : TypeId)
    (ho : op.op = .call { callee := .builtin .append, args := #[s, x], argTypes := #[t, t] })
    (base : Nat) (e : TypeId) (i : TypeInfo) (z : Value) (k bytes : Nat) (ht : P.underlying t = some (.slice e)) (hi : P.info? e = some i) (hz : i.zero = some z)
    (hsize : i.size = k) (hby : i.bytes = bytes) (hzs : z.cells.size = k) (hk : 0 < k)
    (v : Value) (n : Nat) (xs : List Value) (hs : a.eval s = v) (hown : w.ownsRow base e k v n xs)
    (g c m : Nat) (ys : List Value) (hx : a.eval x = .slice (some ⟨g, 0, none⟩) m c) (F : Nat → Prop) (hl : FlatAt F w k (.slice (some ⟨g, 0, none⟩) m c) m ys) (hm : 0 < m) (hroom : n + m ≤ maxLen) (hbytes : (n + m) * bytes ≤ 140737488355328) (hbase : base ≤ w.heap.size)
    (h : ∀ v' w', w'.ownsRow base e k v' (n + m) (xs ++ ys) → w.grownBy w' v.ownBlock → (v'.ownBlock = v.ownBlock ∨ v'.ownBlock = some w.heap.size) → K (a.put op.dst v') w') : op.wp P a w K Q := by
  obtain ⟨hlen, h1, A', c', hv, h3, h4, h5, h6⟩ := hl
  obtain ⟨rfl, rfl⟩ : some ⟨g, 0, none⟩ = A' ∧ c = c' := by injection hv with e1 _ e3; exact ⟨e1, e3⟩
  obtain ⟨v', w', hr, h2, h3, _, h5⟩ := run_append_own_at (P := P) w base t op.type e i z k bytes ht hi hz hsize hby hzs hk v n xs hown ⟨g, 0, none⟩ m c ys hlen
      (fun j u hu => by
        obtain ⟨b, off, h, _, _, hr⟩ := h6 hm
        injection h with h
        injection h with e1 e2
        subst e1 e2
        rw [Addr.add_lit]
        exact hr j u hu) h1 hroom hbytes hbase
  unfold Oper.wp execOp
  simp only [ho, resolve, invoke, builtin, Sem.run_bind, Sem.run_pure, Result.andThen_ok, List.map_toArray, List.map_cons, List.map_nil, hs, hx, hr]
  exact h v' w' h2 h3 h5
end
end Go.Proofs.Ytjnpclpjdlimaaa
/- Append of a slice of structs to a row of the call's own, and where the row lies behind it. -/
namespace Go.Proofs.Ytjnpclpjdlimaaa
open Go.RowKit
section
variable {P : Program} {w : World}
theorem wpList_append_flat_to {ops : Array Oper} {rest : List Oper} {o : Oper} {a : Act} {Q : Exit → Act → World → Prop} (hgd : o.guard = none) (s x : Operand) (t : TypeId)
    (ho : o.op = .call { callee := .builtin .append, args := #[s, x], argTypes := #[t, t] })
    (base : Nat) (e : TypeId) (i : TypeInfo) (z : Value) (k bytes : Nat) (ht : P.underlying t = some (.slice e)) (hi : P.info? e = some i) (hz : i.zero = some z)
    (hsize : i.size = k) (hby : i.bytes = bytes) (hzs : z.cells.size = k) (hk : 0 < k)
    (v : Value) (n : Nat) (xs : List Value) (hs : a.eval s = v) (hown : w.ownsRow base e k v n xs)
    (g c m : Nat) (ys : List Value) (hx : a.eval x = .slice (some ⟨g, 0, none⟩) m c) (F : Nat → Prop) (hl : FlatAt F w k (.slice (some ⟨g, 0, none⟩) m c) m ys) (hm : 0 < m) (hroom : n + m ≤ maxLen) (hbytes : (n + m) * bytes ≤ 140737488355328) (hbase : base ≤ w.heap.size)
    (h : ∀ v' w', w'.ownsRow base e k v' (n + m) (xs ++ ys) → w.grownBy w' v.ownBlock → (v'.ownBlock = v.ownBlock ∨ v'.ownBlock = some w.heap.size) → wpList P ops Q rest (a.put o.dst v') w') : wpList P ops Q (o :: rest) a w :=
  wpList_plain hgd fun _ hK => wp_append_flat s x t ho base e i z k bytes ht hi hz hsize hby hzs hk v n xs hs hown g c m ys hx F hl hm hroom hbytes hbase (fun v' w' h1 h2 h3 => hK _ _ (h v' w' h1 h2 h3))
end
end Go.Proofs.Ytjnpclpjdlimaaa
/- The tokens of a text: the call. -/
namespace Go.Proofs.Ytjnpclpjdlimaaa
open Go.RowKit

theorem own_stays {w w' : World} {base e k n : Nat} {v : Value} {xs : List Value} (h : w.ownsRow base e k v n xs) (hk : ∀ q, v.ownBlock = some q → w'.heap[q]? = w.heap[q]?) : w'.ownsRow base e k v n xs := by
  obtain ⟨h1, h2⟩ := h
  refine ⟨h1, ?_⟩
  rcases h2 with h2 | ⟨g, cap, cur, rfl, hg, hh, h3⟩
  · exact .inl h2
  · exact .inr ⟨g, cap, cur, rfl, hg, (hk g rfl).trans hh, h3⟩
theorem own_later {w w' : World} {base e k n : Nat} {v : Value} {xs : List Value} (h : w.ownsRow base e k v n xs) (hl : Later w w') : w'.ownsRow base e k v n xs := own_stays h fun q hq => Below.block hl q (h.lt q hq).2
theorem own_type {w : World} {base e k n q : Nat} {v : Value} {xs : List Value} (h : w.ownsRow base e k v n xs) (hq : v.ownBlock = some q) : ∃ cs, w.heap[q]? = some (.cells cs e (0, 0)) := by
  rcases h.2 with ⟨rfl, _⟩ | ⟨g, cap, cur, rfl, _, hh, _⟩
  · simp [Value.ownBlock] at hq
  · simp [Value.ownBlock] at hq
    subst hq
    exact ⟨_, hh⟩
/-- A row stays where one block of another type is turned. -/
theorem own_apart {w w' : World} {base e k n g t : Nat} {v : Value} {xs : List Value} {cs : Array Value} (h : w.ownsRow base e k v n xs) (hg : w.heap[g]? = some (.cells cs t (0, 0))) (hne : e ≠ t) (hw : w.grownBy w' (some g)) : w'.ownsRow base e k v n xs :=
  own_stays h fun q hq => hw.block q (h.lt q hq).2 (fun e2 => by
    obtain ⟨c2, h2⟩ := own_type h hq
    have := Option.some.inj e2
    subst this
    rw [h2] at hg
    injection hg with hg
    injection hg with _ ht
    exact hne ht)
theorem apart_own {w : World} {base e k n g t : Nat} {v : Value} {xs : List Value} {cs : Array Value} (h : w.ownsRow base e k v n xs) (hg : w.heap[g]? = some (.cells cs t (0, 0))) (hne : e ≠ t) : some g ≠ v.ownBlock := fun e2 => by
  obtain ⟨c2, h2⟩ := own_type h e2.symm
  rw [h2] at hg
  injection hg with hg
  injection hg with _ ht
  exact hne ht

/-- A row of tokens, of the call's own. -/
def TokRow (base : Nat) (w : World) (v : Value) (ts : List Tok) : Prop := w.ownsRow base 36 4 v ts.length (ts.flatMap Tok.cells)
theorem tok_cells_len (ts : List Tok) : (ts.flatMap Tok.cells).length = ts.length * 4 := flat_len Tok.cells 4 ts fun _ _ => rfl
theorem TokRow.nil_ (base : Nat) (w : World) : TokRow base w (.slice none 0 0) [] := World.ownsRow_nil w base _ 4
theorem info_tok : (Try.prog.info? 36).map (fun i => (i.zero, i.size, i.bytes)) = some (some (.agg #[.int .i64 0, .string ⟨#[]⟩, .int .i64 0, .int .i64 0]), 4, 40) := by kernel_rfl
/-- What Tokens answers. -/
def Told (w : World) (l : List UInt8) (e : Ending) (w' : World) : Prop :=
  ∃ v, e = .returned (.tuple #[v, .int .i64 ((answer l).2.1 : Int), .int .i64 ((answer l).2.2 : Int)]) ∧ TokRow w.heap.size w' v (answer l).1 ∧ Later w w'

theorem sort_at {l : List PartD} (h : l.map (fun p => (p.k, p.fb, p.fg)) = sorts) {j : Nat} {p : PartD} (hp : l[j]? = some p) : sorts[j]? = some (p.k, p.fb, p.fg) := by
  rw [← h, List.getElem?_map, hp]
  rfl
theorem sorts_go : ∀ (kk : Nat) (q : Nat × (Nat → Bool) × (Nat → Bool)), kk ≠ 0 → kk ≤ 5 → sorts[kk - 1]? = some q → q.1 = (if kk ≤ 3 then kk else 0) ∧ q.2.2 = goB kk := by
  intro kk q h0 h5 hq
  have : kk = 1 ∨ kk = 2 ∨ kk = 3 ∨ kk = 4 ∨ kk = 5 := by omega
  rcases this with rfl | rfl | rfl | rfl | rfl <;> (obtain rfl := Option.some.inj hq; exact ⟨rfl, funext fun c => rfl⟩)

theorem extract_list (s : ByteArray) (i j : Nat) : s.extract i j = ⟨((s.data.toList.drop i).take (j - i)).toArray⟩ := by
  have := ByteArray.extract_mk s.data.toList i j
  simpa using this
theorem kind_two {b : Nat} (h : kindB b = 2) : digitB b = true := by
  unfold kindB at h
  by_cases h1 : smallB b = true
  · simp [h1] at h
  · by_cases h2 : digitB b = true
    · exact h2
    · simp [h1, h2] at h
      repeat' split at h
      all_goals simp at h
/-- The number that a pointer leads to. -/
def ptrInt (v : Value) (w : World) : Nat := match v with
  | .pointer (some p) => match w.cell? p with
    | some (.int _ n) => n.toNat
    | _ => 0
  | _ => 0

theorem drop_next {L r : List UInt8} {b : UInt8} {a : Nat} (h : L.drop a = b :: r) (k : Nat) : L.drop (a + ((more k r).length + 1)) = rest k r := by
  rw [← List.drop_drop, h, List.drop_succ_cons]
  have e := List.drop_left (l₁ := more k r) (l₂ := rest k r)
  rwa [more_rest] at e
/-- Behind a round: the place is turned in its box, and a new box takes it over. -/
theorem round_next {w1 wr W : World} {g a a' : Nat} {v : Value} {acc : List Tok} {L : List UInt8} {z : Int} (cg : wr.cell? ⟨g, 0, none⟩ = some (.int .i64 (a : Int))) (hg : ∃ x, W.heap[g]? = some (.cells #[x] 3 (0, 0))) (hge : w1.heap.size ≤ g) (hrow : TokRow w1.heap.size W v acc) (hl : Later w1 W)
    (hz : z = (a' : Int)) (haa : a < a') (haL : a' ≤ L.length) (hacc : acc.length ≤ a') (hto : ahead acc (toks (L.drop a') a') = toks L 0) :
    (∃ (g_1 a_1 : Nat) (acc : List Tok), Value.pointer (some ⟨W.heap.size, 0, none⟩) = .pointer (some ⟨g_1, 0, none⟩) ∧ a_1 ≤ L.length ∧ acc.length ≤ a_1 ∧ ahead acc (toks (L.drop a_1) a_1) = toks L 0 ∧
      ((W.setCell ⟨g, 0, none⟩ (.int .i64 z)).alloc (.cells #[.int .i64 z] 3 (0, 0))).heap[g_1]? = some (.cells #[.int .i64 (a_1 : Int)] 3 (0, 0)) ∧ w1.heap.size ≤ g_1 ∧ TokRow w1.heap.size ((W.setCell ⟨g, 0, none⟩ (.int .i64 z)).alloc (.cells #[.int .i64 z] 3 (0, 0))) v acc ∧ Later w1 ((W.setCell ⟨g, 0, none⟩ (.int .i64 z)).alloc (.cells #[.int .i64 z] 3 (0, 0)))) ∧
    L.length - ptrInt (.pointer (some ⟨W.heap.size, 0, none⟩)) ((W.setCell ⟨g, 0, none⟩ (.int .i64 z)).alloc (.cells #[.int .i64 z] 3 (0, 0))) < L.length - ptrInt (.pointer (some ⟨g, 0, none⟩)) wr := by
  subst hz
  obtain ⟨x, hg⟩ := hg
  have hn : ((W.setCell ⟨g, 0, none⟩ (.int .i64 (a' : Int))).alloc (.cells #[.int .i64 (a' : Int)] 3 (0, 0))).heap[W.heap.size]? = some (.cells #[.int .i64 (a' : Int)] 3 (0, 0)) := by
    have := heap_alloc_new (W.setCell ⟨g, 0, none⟩ (.int .i64 (a' : Int))) (.cells #[.int .i64 (a' : Int)] 3 (0, 0))
    simpa using this
  have hsz := Below.size hl
  have hset := grown_set W g 0 (.int .i64 (a' : Int))
  have hl2 : Later w1 (W.setCell ⟨g, 0, none⟩ (.int .i64 (a' : Int))) := Below.trans hl (below_grown (B := w1.heap.size) hset hge hsz)
  refine ⟨⟨W.heap.size, a', acc, rfl, haL, hacc, hto, hn, hsz, (own_apart hrow hg (by decide) hset).alloc _, hl2.alloc (Below.size hl2) _⟩, ?_⟩
  have e1 : ptrInt (.pointer (some ⟨g, 0, none⟩)) wr = a := by simp [ptrInt, cg]
  have e2 : ptrInt (.pointer (some ⟨W.heap.size, 0, none⟩)) ((W.setCell ⟨g, 0, none⟩ (.int .i64 (a' : Int))).alloc (.cells #[.int .i64 (a' : Int)] 3 (0, 0))) = a' := by
    have := cell_of_row _ W.heap.size 0 _ _ _ hn
    unfold ptrInt
    simp only [this]
    simp
  rw [e1, e2]
  omega

section
variable {w : World}
set_option maxHeartbeats 8000000 in
set_option maxRecDepth 100000 in
theorem tokens_any (s : ByteArray) (hs : s.size ≤ 9223372036854775807) : Calls Try.prog 9 #[.string s] w (Told w s.data.toList) := by
  obtain ⟨L, hL⟩ : ∃ L, L = s.data.toList := ⟨_, rfl⟩
  have hlen : L.length = s.size := by rw [hL, Array.length_toList]; rfl
  rw [← hL]
  have HL := hide hL
  have HLEN := hide hlen
  have X0 := hide (heap_alloc_new w (.cells #[.string s] 9 (0, 0)))
  have L0 : Hid (Later w (w.alloc (.cells #[.string s] 9 (0, 0)))) := (Below.refl _ _).alloc (Nat.le_refl _) _
  by_cases hbig : 400 < L.length
  · have h400 : 400 < (s.size : Int) := by omega
    clear hL hlen
    go_enter Try.func9, Try.ntmps9
    go_wp2
    go_ret3
    have e : answer L = ([], 0, 12) := by unfold answer; rw [if_pos hbig]
    unfold Told
    rw [e]
    exact ⟨_, rfl, TokRow.nil_ _ _, L0.out⟩
  · have h400 : ¬ 400 < (s.size : Int) := by omega
    have hn400 : L.length ≤ 400 := by omega
    obtain ⟨i0, hi, hz0, hz1, hz2⟩ := info_parts info_tok
    have HI := hide hi
    have HZ0 := hide hz0
    have HZ1 := hide hz1
    have HZ2 := hide hz2
    clear hL hlen hbig hi hz0 hz1 hz2
    go_enter Try.func9, Try.ntmps9
    go_wp2_with (fail)
    refine (parts_any (w := w.alloc (.cells #[.string s] 9 (0, 0)))).mono ?_
    rintro e w1 ⟨A, rfl, ⟨l, hp, hsorts⟩, hl1⟩
    have HP := hide hp
    have HSO := hide hsorts
    have X1 := hide ((Below.block hl1 w.heap.size (lt_of_block X0.out)).trans X0.out)
    have L1 := hide (L0.out.trans hl1)
    clear hp hsorts hl1 X0 L0 h400
    go_wp2_with (fail)
    go_loopw [5, 7] (fun v5 v7 wr => ∃ (g a : Nat) (acc : List Tok), v7 = .pointer (some ⟨g, 0, none⟩) ∧ a ≤ L.length ∧ acc.length ≤ a ∧ ahead acc (toks (L.drop a) a) = toks L 0 ∧ wr.heap[g]? = some (.cells #[.int .i64 (a : Int)] 3 (0, 0)) ∧ w1.heap.size ≤ g ∧ TokRow w1.heap.size wr v5 acc ∧ Later w1 wr) (fun _ v7 wr => L.length - ptrInt v7 wr)
    case atStart =>
      refine ⟨w1.heap.size, 0, [], rfl, by omega, by simp, ?_, heap_alloc_new _ _, Nat.le_refl _, TokRow.nil_ _ _, (Below.refl _ _).alloc (Nat.le_refl _) _⟩
      rw [List.drop_zero]
      exact ahead_nil _ (toks_none _ _)
    case round =>
      obtain ⟨g, a, acc, rfl, ha, hacc, hto, hg, hge, hrow, hlat⟩ := hrel
      have HTO := hide hto
      have HG := hide hg
      have HGE := hide hge
      have HR := hide hrow
      have HLA := hide hlat
      have cg : wr.cell? ⟨g, 0, none⟩ = some (.int .i64 (a : Int)) := by simpa using cell_of_row wr g 0 _ _ _ hg
      have cs : wr.cell? ⟨w.heap.size, 0, none⟩ = some (.string s) := cell_later X1.out hlat
      have HCG := hide cg
      clear hto hg hge hrow hlat
      by_cases hlt : a < L.length
      · obtain ⟨b, hb⟩ : ∃ b, L[a]? = some b := ⟨_, List.getElem?_eq_getElem hlt⟩
        have hd : L.drop a = b :: L.drop (a + 1) := by
          rw [List.drop_eq_getElem_cons hlt]
          rw [List.getElem?_eq_getElem hlt] at hb
          injection hb with hb
          rw [hb]
        have hls : (a : Int) < (s.size : Int) := by have := HLEN.out; omega
        have C := hide (index_sorts cs cg (by have := HLEN.out; omega) (by rw [← HL.out]; exact hb) (HP.out.later HLA.out) HSO.out rfl)
        have HD := hide hd
        obtain ⟨r, hr⟩ : ∃ r, L.drop (a + 1) = r := ⟨_, rfl⟩
        rw [hr] at HD
        have HRR := hide hr
        clear hb hd hr
        obtain ⟨kk, hkk⟩ : ∃ kk, kindB b.toNat = kk := ⟨_, rfl⟩
        rw [hkk] at C
        have HK := hide hkk
        clear hkk
        cases kk with
        | zero =>
          go_wp2_with (fail)
          refine C.out.mono ?_
          rintro e w2 ⟨rfl, hl2⟩
          have cg2 := later_cell hl2 cg
          have HL2 := hide (HLA.out.trans hl2)
          clear hl2 C cg cs
          rw [show ((0 : Nat) : Int) - 1 = -1 from rfl]
          go_wp2_with (fail)
          go_region
          go_wp2_with (fail)
          go_ret3
          have hto := HTO.out
          rw [HD.out, toks_bad r a HK.out] at hto
          have e : answer L = ([], a, 11) := by
            unfold answer
            rw [if_neg (by omega), ← hto]
            rfl
          unfold Told
          rw [e]
          exact ⟨_, rfl, TokRow.nil_ _ _, L1.out.trans (HL2.out.trans (Later.drew _))⟩
        | succ j =>
          rw [show ((j + 1 : Nat) : Int) - 1 = (j : Int) from by omega] at C
          go_wp2_with (fail)
          refine C.out.mono ?_
          rintro e w2 ⟨rfl, hl2⟩
          have hj5 : j < 5 := by
            have := kind_cases b.toNat
            have := HK.out
            omega
          obtain ⟨pb, poff, p, rfl, _, hpj, hpbl, hprow, hsb, hsg⟩ := (HP.out.later (HLA.out.trans hl2)).at_ hj5
          obtain ⟨c0, c1, c2⟩ := range3 hprow
          obtain ⟨hk3, hgo⟩ := sorts_go (j + 1) _ (by omega) (by omega) (sort_at HSO.out hpj)
          simp only at hk3 hgo
          have HK3 := hide hk3
          have HGO := hide hgo
          have HSG := hide hsg
          have cg2 := later_cell hl2 cg
          have cs2 := later_cell hl2 cs
          have HR2 := hide (own_later HR.out hl2)
          have HG2 := hide ((Below.block hl2 g (lt_of_block HG.out)).trans HG.out)
          have HL2 := hide (HLA.out.trans hl2)
          have hj0 : (0 : Int) ≤ (j : Int) := by omega
          have hj5' : (j : Int) < 5 := by omega
          obtain ⟨k, pb1, pg1, fb, fg⟩ := p
          simp only [SetV.val] at c0 c1 c2
          simp only at HK3 HGO HSG
          clear hk3 hgo hsg hsb hprow hpj hl2 C cg cs HR HG
          obtain ⟨W2, hW2⟩ : ∃ W2, W2 = w2.alloc (.cells #[.int .i64 (k : Int), .func (.func pb1.F) #[] pb1.cs, .func (.func pg1.F) #[] pg1.cs] 47 (0, 0)) := ⟨_, rfl⟩
          obtain ⟨g2, hg2⟩ : ∃ g2, g2 = w2.heap.size := ⟨_, rfl⟩
          have XP : Hid (W2.heap[g2]? = some (.cells #[.int .i64 (k : Int), .func (.func pb1.F) #[] pb1.cs, .func (.func pg1.F) #[] pg1.cs] 47 (0, 0))) := by rw [hW2, hg2]; exact heap_alloc_new _ _
          have M2 : Hid (Later w2 W2) := by rw [hW2]; exact (Below.refl _ _).alloc (Nat.le_refl _) _
          have cg3 := later_cell M2.out cg2
          have cs3 := later_cell M2.out cs2
          have HR3 := hide (own_later HR2.out M2.out)
          have HG3 := hide ((Below.block M2.out g (lt_of_block HG2.out)).trans HG2.out)
          have HL3 := hide (HL2.out.trans M2.out)
          have HSG3 := hide (HSG.out.later M2.out)
          have HW2 := hide hW2.symm
          have HG2E := hide hg2.symm
          clear hW2 hg2
          go_wp2_with (fail)
          have hw2 := HW2.out
          have hg2e := HG2E.out
          simp only [hw2, hg2e]
          clear hw2 hg2e c0 c1 c2 cg2 cs2 HR2 HG2 HL2 HSG HW2 HG2E M2
          obtain ⟨m, hm⟩ : ∃ m, (more (j + 1) r).length = m := ⟨_, rfl⟩
          have hrl : r.length + 1 + a = L.length := by
            have := congrArg List.length HD.out
            simp at this
            omega
          have hmr : m ≤ r.length := by
            have := rest_len (j + 1) r
            omega
          have CL := hide (length_any (w := W2.drew) ⟨k, pb1, pg1, fb, fg⟩ b r (HSG3.out.later (Later.drew _)) (by omega))
          have hlenv : (r.takeWhile (fun c => fg c.toNat)).length = m := by rw [HGO.out]; exact hm
          rw [hlenv] at CL
          have HM := hide hm
          have hale : a ≤ s.size := by have := HLEN.out; omega
          have hex : s.extract a s.size = ⟨(b :: r).toArray⟩ := by
            rw [extract_list, ← HL.out, HD.out, List.take_of_length_le (by have := HLEN.out; simp; omega)]
          have HEX := hide hex
          have HALE := hide hale
          have hwr : IntKind.i64.wrap ((a : Int) + ((m : Int) + 1)) = ((a + (m + 1) : Nat) : Int) := by
            rw [wrap_small _ (by omega) (by omega)]
            omega
          unfold PartD.cells SetV.val at CL
          simp only at CL
          have HWR := hide hwr
          clear hm hlenv hex hwr hale
          refine wp_region_L (by kernel_rfl) ?_
          refine wpAnyL_take (i := 0) (d := some 29) (v := ?vaa0) rfl rfl (by kernel_rfl) (by kernel_rfl) (by kernel_rfl) (fun _ _ _ h => h) (by rfl) ?yaa0 ?_
          case yaa0 => (intro w' hw'; have y := later_cell ((Later.drew _).trans hw') cg3; go_simp; try (with_reducible rfl))
          simp only [Act.put]; try simp only [List.setIfInBounds_toArray]; try simp only [List.set_cons_zero, List.set_cons_succ]
          refine wpAnyL_take (i := 1) (d := some 30) (v := .agg #[.int .i64 (k : Int), .func (.func pb1.F) #[] pb1.cs, .func (.func pg1.F) #[] pg1.cs]) rfl rfl (by kernel_rfl) (by kernel_rfl) (by kernel_rfl) (fun _ _ _ h => h) (by rfl) ?yaa1 ?_
          case yaa1 => (intro w' hw'; exact exec_load_box 47 _ (by rfl) g2 0 (by rfl) 47 _ ((Below.block ((Later.drew _).trans hw') g2 (lt_of_block XP.out)).trans XP.out) 3 _ Try.underlying47 (by rfl) (by kernel_rfl) [.int .i64 (k : Int), .func (.func pb1.F) #[] pb1.cs, .func (.func pg1.F) #[] pg1.cs] (by rfl) (by rfl))
          simp only [Act.put]; try simp only [List.setIfInBounds_toArray]; try simp only [List.set_cons_zero, List.set_cons_succ]
          refine wpAnyL_take (i := 2) (d := some 31) (v := ?vaa2) rfl rfl (by kernel_rfl) (by kernel_rfl) (by kernel_rfl) (fun _ _ _ h => h) (by rfl) ?yaa2 ?_
          case yaa2 => (intro w' hw'; have y := later_cell ((Later.drew _).trans hw') cs3; go_simp; try (with_reducible rfl))
          simp only [Act.put]; try simp only [List.setIfInBounds_toArray]; try simp only [List.set_cons_zero, List.set_cons_succ]
          refine wpAnyL_take (i := 3) (d := some 32) (v := ?vaa3) rfl rfl (by kernel_rfl) (by kernel_rfl) (by kernel_rfl) (fun _ _ _ h => h) (by rfl) ?yaa3 ?_
          case yaa3 => (intro w' hw'; have y := later_cell ((Later.drew _).trans hw') cg3; go_simp; try (with_reducible rfl))
          simp only [Act.put]; try simp only [List.setIfInBounds_toArray]; try simp only [List.set_cons_zero, List.set_cons_succ]
          refine wpAnyL_take (i := 4) (d := some 33) (v := .string ⟨(b :: r).toArray⟩) rfl rfl (by kernel_rfl) (by kernel_rfl) (by kernel_rfl) (fun _ _ _ h => h) (by rfl) ?yaa4 ?_
          case yaa4 => (intro w' hw'; go_simp; rw [if_pos HALE.out, HEX.out])
          simp only [Act.put]; try simp only [List.setIfInBounds_toArray]; try simp only [List.set_cons_zero, List.set_cons_succ]
          refine wpAnyL_only (i := 5) rfl (by kernel_rfl) (by rfl) fun K hK => ?_
          go_simp
          refine CL.out.mono ?_
          rintro e w3 ⟨rfl, hl3⟩
          have M3 := hide ((Later.drew W2).trans hl3)
          refine hK.out _ _ hl3 ?_
          clear hl3
          clear hK K
          try (simp only [Act.put]; try simp only [List.setIfInBounds_toArray]; try simp only [List.set_cons_zero, List.set_cons_succ])
          refine wpAnyL_take (i := 6) (d := some 35) (v := .int .i64 ((a + (m + 1) : Nat) : Int)) rfl rfl (by kernel_rfl) (by kernel_rfl) (by kernel_rfl) (fun _ _ _ h => h) (by rfl) ?yaa6 ?_
          case yaa6 => (intro w' hw'; go_simp; rw [HWR.out]; omega)
          simp only [Act.put]; try simp only [List.setIfInBounds_toArray]; try simp only [List.set_cons_zero, List.set_cons_succ]
          refine wpAnyL_take (i := 7) (d := some 10) (v := ?vaa7) rfl rfl (by kernel_rfl) (by kernel_rfl) (by kernel_rfl) (fun _ _ _ h => h) (by rfl) ?yaa7 ?_
          case yaa7 => (intro w' hw'; go_simp; try (with_reducible rfl))
          simp only [Act.put]; try simp only [List.setIfInBounds_toArray]; try simp only [List.set_cons_zero, List.set_cons_succ]
          refine wpAnyL_done (by kernel_rfl) ?_ _
          have XP3 := hide ((Below.block M3.out g2 (lt_of_block XP.out)).trans XP.out)
          have HR4 := hide (own_later HR3.out M3.out)
          have HG4 := hide ((Below.block M3.out g (lt_of_block HG3.out)).trans HG3.out)
          have HL4 := hide (HL3.out.trans M3.out)
          have cg4 := later_cell M3.out cg3
          have cs4 := later_cell M3.out cs3
          have fg4 : w3.frozen? ⟨g, 0, none⟩ = false := frozen_of_row w3 g 0 _ _ HG4.out
          have ck4 : w3.cell? ⟨g2, 0, none⟩ = some (.int .i64 (k : Int)) := by simpa using cell_of_row w3 g2 0 _ _ _ XP3.out
          clear XP HR3 HG3 HL3 cg3 cs3 M3 CL HSG3
          have HTN := hide (toks_cons (b := b) r a (by rw [HK.out]; omega))
          by_cases hj3 : j + 1 ≤ 3
          · have hk : k = j + 1 := by rw [HK3.out, if_pos hj3]
            subst hk
            have hkb : (((j + 1 : Nat) : Int) == 0) = false := by rw [beq_eq_false_iff_ne]; omega
            go_wp2_with (fail)
            obtain ⟨T, hT⟩ : ∃ T, T = tokOf (j + 1) b r a := ⟨_, rfl⟩
            have HT := hide hT
            have CT := hide (token_any (w := w3.drew) ⟨j + 1, pb1, pg1, fb, fg⟩ (b :: more (j + 1) r) a (fun h2 => by
              simp only at h2
              have hk2 := HK.out
              rw [h2] at hk2 ⊢
              intro c hc
              rcases List.mem_cons.1 hc with rfl | hc
              · exact kind_two hk2
              · have := more_all 2 r c hc
                simpa [goB] using this) (by have := HM.out; simp; omega))
            have hTc : (Tok.mk (j + 1) (b :: more (j + 1) r) (if j + 1 = 2 then valF (b :: more (j + 1) r) else 0) a) = T := hT.symm
            simp only [hTc] at CT
            have hex2 : s.extract a (a + (m + 1)) = ⟨(b :: more (j + 1) r).toArray⟩ := by
              rw [extract_list, ← HL.out, HD.out, show a + (m + 1) - a = m + 1 from by omega, List.take_succ_cons]
              have e := List.take_left (l₁ := more (j + 1) r) (l₂ := rest (j + 1) r)
              rw [more_rest, HM.out] at e
              rw [e]
            have HEX2 := hide hex2
            unfold PartD.cells SetV.val at CT
            simp only at CT
            clear hT hTc hex2
            refine wp_region_V Later (fun j => j == 9) (by kernel_rfl) ?_
            refine wpAnyV_take pre_later (i := 0) (d := some 39) (v := ?vab0) rfl rfl (by kernel_rfl) (by kernel_rfl) (by kernel_rfl) (by kernel_rfl) (by kernel_rfl) (fun _ _ _ h => h) (by rfl) ?yab0 ?_
            case yab0 => (intro w' hw'; go_simp; try (with_reducible rfl))
            simp only [Act.put]; try simp only [List.setIfInBounds_toArray]; try simp only [List.set_cons_zero, List.set_cons_succ]
            refine wpAnyV_take pre_later (i := 1) (d := some 40) (v := .agg #[.int .i64 ((j + 1 : Nat) : Int), .func (.func pb1.F) #[] pb1.cs, .func (.func pg1.F) #[] pg1.cs]) rfl rfl (by kernel_rfl) (by kernel_rfl) (by kernel_rfl) (by kernel_rfl) (by kernel_rfl) (fun _ _ _ h => h) (by rfl) ?yab1 ?_
            case yab1 => (intro w' hw'; exact exec_load_box 47 _ (by rfl) g2 0 (by rfl) 47 _ ((Below.block ((Later.drew _).trans hw') g2 (lt_of_block XP3.out)).trans XP3.out) 3 _ Try.underlying47 (by rfl) (by kernel_rfl) [.int .i64 ((j + 1 : Nat) : Int), .func (.func pb1.F) #[] pb1.cs, .func (.func pg1.F) #[] pg1.cs] (by rfl) (by rfl))
            simp only [Act.put]; try simp only [List.setIfInBounds_toArray]; try simp only [List.set_cons_zero, List.set_cons_succ]
            refine wpAnyV_take pre_later (i := 2) (d := some 41) (v := ?vab2) rfl rfl (by kernel_rfl) (by kernel_rfl) (by kernel_rfl) (by kernel_rfl) (by kernel_rfl) (fun _ _ _ h => h) (by rfl) ?yab2 ?_
            case yab2 => (intro w' hw'; have y := later_cell ((Later.drew _).trans hw') cs4; go_simp; try (with_reducible rfl))
            simp only [Act.put]; try simp only [List.setIfInBounds_toArray]; try simp only [List.set_cons_zero, List.set_cons_succ]
            refine wpAnyV_take pre_later (i := 3) (d := some 42) (v := ?vab3) rfl rfl (by kernel_rfl) (by kernel_rfl) (by kernel_rfl) (by kernel_rfl) (by kernel_rfl) (fun _ _ _ h => h) (by rfl) ?yab3 ?_
            case yab3 => (intro w' hw'; have y := later_cell ((Later.drew _).trans hw') cg4; go_simp; try (with_reducible rfl))
            simp only [Act.put]; try simp only [List.setIfInBounds_toArray]; try simp only [List.set_cons_zero, List.set_cons_succ]
            refine wpAnyV_take pre_later (i := 4) (d := some 43) (v := ?vab4) rfl rfl (by kernel_rfl) (by kernel_rfl) (by kernel_rfl) (by kernel_rfl) (by kernel_rfl) (fun _ _ _ h => h) (by rfl) ?yab4 ?_
            case yab4 => (intro w' hw'; go_simp; try (with_reducible rfl))
            simp only [Act.put]; try simp only [List.setIfInBounds_toArray]; try simp only [List.set_cons_zero, List.set_cons_succ]
            refine wpAnyV_take pre_later (i := 5) (d := some 44) (v := .string ⟨(b :: more (j + 1) r).toArray⟩) rfl rfl (by kernel_rfl) (by kernel_rfl) (by kernel_rfl) (by kernel_rfl) (by kernel_rfl) (fun _ _ _ h => h) (by rfl) ?yab5 ?_
            case yab5 => (intro w' hw'; go_simp; rw [if_pos ⟨by omega, by have := HLEN.out; omega⟩, if_pos (by omega), show ((a : Int) + ((m : Int) + 1)).toNat = a + (m + 1) from by omega, HEX2.out])
            simp only [Act.put]; try simp only [List.setIfInBounds_toArray]; try simp only [List.set_cons_zero, List.set_cons_succ]
            refine wpAnyV_take pre_later (i := 6) (d := some 45) (v := ?vab6) rfl rfl (by kernel_rfl) (by kernel_rfl) (by kernel_rfl) (by kernel_rfl) (by kernel_rfl) (fun _ _ _ h => h) (by rfl) ?yab6 ?_
            case yab6 => (intro w' hw'; have y := later_cell ((Later.drew _).trans hw') cg4; go_simp; try (with_reducible rfl))
            simp only [Act.put]; try simp only [List.setIfInBounds_toArray]; try simp only [List.set_cons_zero, List.set_cons_succ]
            refine wpAnyV_only pre_later (i := 7) rfl (by kernel_rfl) (by rfl) fun K hK => ?_
            go_simp
            refine CT.out.mono ?_
            rintro e w4 ⟨rfl, hl4⟩
            have M4 := hide ((Later.drew w3).trans hl4)
            refine hK.out _ _ hl4 ?_
            clear hl4
            clear hK K
            try (simp only [Act.put]; try simp only [List.setIfInBounds_toArray]; try simp only [List.set_cons_zero, List.set_cons_succ])
            refine wpAnyV_only pre_later (i := 8) rfl (by kernel_rfl) (by rfl) fun K hK => ?_
            refine wp_buildSlice_one 23 36 _ (by rfl) i0 _ 4 Try.underlying23 HI.out HZ0.out HZ1.out (by omega) (by omega) T.cells.toArray (by rfl) (by rfl) ?_
            obtain ⟨w5, hw5⟩ : ∃ w5, w5 = w4.alloc (.cells T.cells.toArray 36 (0, 0)) := ⟨_, rfl⟩
            have F5 : Hid (FlatAt (fun _ => True) w5 4 (.slice (some ⟨w4.heap.size, 0, none⟩) 1 1) 1 T.cells) := by rw [hw5]; exact flat_one w4 36 4 T.cells.toArray (by rfl) (by simpa using T.one) _ trivial
            have M5 : Hid (Later w4 w5) := by rw [hw5]; exact (Below.refl _ _).alloc (Nat.le_refl _) _
            rw [← hw5]
            refine hK.out _ _ M5.out (?_ : wpAnyV _ _ _ _ _ _ _ _ (Act.put _ (some 47) _) _)
            clear hw5
            clear hK K
            try (simp only [Act.put]; try simp only [List.setIfInBounds_toArray]; try simp only [List.set_cons_zero, List.set_cons_succ])
            refine wpAnyV_write (i := 9) rfl rfl (by kernel_rfl) (by rfl) fun K hK => ?_
            refine wp_append_flat _ _ 23 (by rfl) w1.heap.size 36 i0 _ 4 40 Try.underlying23 HI.out HZ0.out HZ1.out HZ2.out (by rfl) (by omega) u5 acc.length (acc.flatMap Tok.cells) (by rfl) (own_later (own_later HR4.out M4.out) M5.out) w4.heap.size 1 1 T.cells (by rfl) _ F5.out (by omega) (by unfold maxLen; omega) (by omega) (by have := Below.size HL4.out; have := Below.size M4.out; have := Below.size M5.out; omega) ?_
            intro v6 w6 ho6 hg6 _
            have HR6 : Hid (TokRow w1.heap.size w6 v6 (acc ++ [T])) := by
              show World.ownsRow _ _ _ _ _ _ _
              rw [List.length_append, List.flatMap_append]
              simpa using ho6
            have HG6 := hide hg6
            clear ho6 hg6
            refine hK.out _ _ (?_ : wpAnyV _ _ _ _ _ _ _ _ (Act.put _ (some 48) _) _)
            clear hK K
            try (simp only [Act.put]; try simp only [List.setIfInBounds_toArray]; try simp only [List.set_cons_zero, List.set_cons_succ])
            refine wpAnyV_pure pre_later (i := 10) (d := some 5) (v := ?vab10) rfl rfl (by kernel_rfl) (by kernel_rfl) (by kernel_rfl) (by kernel_rfl) (fun _ _ _ h => h) (by rfl) ?yab10 ?_
            case yab10 => (intro w'; go_simp; try (with_reducible rfl))
            simp only [Act.put]; try simp only [List.setIfInBounds_toArray]; try simp only [List.set_cons_zero, List.set_cons_succ]
            refine wpAnyV_done (by kernel_rfl) ?_ _
            have HR5 := hide (own_later (own_later HR4.out M4.out) M5.out)
            have HG5 := hide ((Below.block M5.out g (by have := Below.size M4.out; have := lt_of_block HG4.out; omega)).trans ((Below.block M4.out g (lt_of_block HG4.out)).trans HG4.out))
            have hg7 := HG6.out.block g (lt_of_block HG5.out) (apart_own HR5.out HG5.out (by decide))
            have HG7 := hide (hg7.trans HG5.out)
            have cg7 : w6.cell? ⟨g, 0, none⟩ = some (.int .i64 (a : Int)) := by simpa using cell_of_row w6 g 0 _ _ _ HG7.out
            have fg7 : w6.frozen? ⟨g, 0, none⟩ = false := frozen_of_row w6 g 0 _ _ HG7.out
            have HL5 := hide (HL4.out.trans (M4.out.trans M5.out))
            have HL7 : Hid (Later w1 w6) := Below.trans HL5.out (later_own HR5.out (Below.size HL5.out) HG6.out)
            clear hg7 HR5 HG5 HL5 M4 M5 cg4 cs4 ck4 fg4 CT HR4 HG4 HL4
            go_wp2_with (fail)
            refine round_next HCG.out ⟨_, HG7.out⟩ HGE.out HR6.out HL7.out (a' := a + (m + 1)) (by omega) (by omega) (by omega) (by simp; omega) ?_
            have hto := HTO.out
            rw [HD.out, HTN.out, HK.out, if_pos hj3, ← HT.out, HM.out, ahead_ahead] at hto
            rw [← hto, ← HM.out, drop_next HD.out (j + 1), HM.out, show a + (m + 1) = a + 1 + m from by omega]
          · have hk : k = 0 := by rw [HK3.out, if_neg hj3]
            subst hk
            go_wp2_with (fail)
            refine round_next HCG.out ⟨_, HG4.out⟩ HGE.out HR4.out HL4.out (a' := a + (m + 1)) (by omega) (by omega) (by omega) (by omega) ?_
            have hto := HTO.out
            rw [HD.out, HTN.out, HK.out, if_neg hj3, HM.out, ahead_ahead, List.append_nil] at hto
            rw [← hto, ← HM.out, drop_next HD.out (j + 1), HM.out, show a + (m + 1) = a + 1 + m from by omega]
      · have hls : ¬ (a : Int) < (s.size : Int) := by have := HLEN.out; omega
        go_wp2_with (fail)
        go_ret3
        have hae : a = L.length := by omega
        have hto := HTO.out
        rw [hae, List.drop_length, toks_nil] at hto
        have e : answer L = (acc, 0, 0) := by
          unfold answer
          rw [if_neg (by omega), ← hto]
          simp [ahead]
        unfold Told
        rw [e]
        exact ⟨_, rfl, own_base HR.out (Below.size L1.out), L1.out.trans HLA.out⟩
end
end Go.Proofs.Ytjnpclpjdlimaaa
/- A name, told by a range over the text. -/
namespace Go.Proofs.Ytjnpclpjdlimaaa
open Go.RowKit

theorem small_part {c : Nat} (h : smallB c = true) : partB c = true := by simp [partB, h]
theorem part_low {c : Nat} (h : partB c = true) : c < 128 := by
  simp only [partB, smallB, digitB, Bool.or_eq_true, Bool.and_eq_true, decide_eq_true_eq, beq_iff_eq] at h
  omega
theorem high_no {c : Nat} (h : 128 ≤ c) : smallB c = false ∧ partB c = false := by
  have h2 : partB c = false := by
    cases h3 : partB c with
    | false => rfl
    | true => have := part_low h3; omega
  refine ⟨?_, h2⟩
  cases h3 : smallB c with
  | false => rfl
  | true => rw [small_part h3] at h2; cases h2
theorem nameF_iff (L : List UInt8) : nameF L = true ↔ 1 ≤ L.length ∧ L.length ≤ 16 ∧ (∀ c, L[0]? = some c → smallB c.toNat = true) ∧ ∀ c ∈ L, partB c.toNat = true := by
  cases L with
  | nil => simp [nameF]
  | cons b r =>
    simp only [nameF, Bool.and_eq_true, decide_eq_true_eq, List.all_eq_true, List.length_cons, List.getElem?_cons_zero, List.mem_cons]
    constructor
    · rintro ⟨h1, h2, h3⟩
      refine ⟨by omega, by omega, ?_, ?_⟩
      · rintro c ⟨⟩
        exact h2
      · rintro c (rfl | hc)
        · exact small_part h2
        · exact h3 c hc
    · rintro ⟨_, h1, h2, h3⟩
      exact ⟨by omega, h2 b rfl, fun c hc => h3 c (.inr hc)⟩
theorem nameF_not {L : List UInt8} {c : UInt8} {q : Nat} (h : L[q]? = some c) (hp : partB c.toNat = false) : nameF L = false := by
  cases hn : nameF L with
  | false => rfl
  | true =>
    have := ((nameF_iff L).1 hn).2.2.2 c (List.mem_of_getElem? h)
    rw [this] at hp
    cases hp
theorem nameF_not0 {L : List UInt8} {c : UInt8} (h : L[0]? = some c) (hp : smallB c.toNat = false) : nameF L = false := by
  cases hn : nameF L with
  | false => rfl
  | true =>
    have := ((nameF_iff L).1 hn).2.2.1 c h
    rw [this] at hp
    cases hp

section
variable {w : World}
/-- What a range over a text tells at a place. -/
theorem next_at (wr : World) (g pos : Nat) (s : ByteArray) (c : UInt8) (hit : wr.heap[g]? = some (.stringIter s pos)) (hp : pos < s.size) (hc : s.data.toList[pos]? = some c) :
    ∃ x wd : Nat, (∀ ty, (Instr.next (.pointer (some ⟨g, 0, none⟩)) true ty).run Try.prog wr = .ok (.tuple #[.bool true, .int .i64 (pos : Int), .int .i32 (x : Int)]) (wr.iterAt g s (pos + wd))) ∧ smallB x = smallB c.toNat ∧ partB x = partB c.toNat ∧ x < 2147483648 ∧ (partB c.toNat = true → wd = 1) := by
  obtain ⟨c', hc', hx, h256⟩ := byte_at s pos hp
  obtain rfl : c = c' := by rw [hc] at hc'; injection hc'
  by_cases h : c.toNat < 128
  · refine ⟨c.toNat, 1, fun ty => ?_, rfl, rfl, by omega, fun _ => rfl⟩
    rw [Lib.run_next_ascii_at wr g s pos ty hit hp (by rw [hx]; exact h), hx]
  · refine ⟨(Utf8.decode s pos).1, (Utf8.decode s pos).2, fun ty => Lib.run_next_any_at wr g s pos ty hit hp, ?_, ?_, ?_, ?_⟩
    · rw [(high_no (decode_high s pos hp (by rw [hx]; omega)).1).1, (high_no (c := c.toNat) (by omega)).1]
    · rw [(high_no (decode_high s pos hp (by rw [hx]; omega)).1).2, (high_no (c := c.toNat) (by omega)).2]
    · have := decode_le s pos
      omega
    · intro h2
      rw [(high_no (c := c.toNat) (by omega)).2] at h2
      cases h2

set_option maxHeartbeats 4000000 in
set_option maxRecDepth 100000 in
theorem name_any (s : ByteArray) : Calls Try.prog 13 #[.string s] w fun e w' => e = .returned (.bool (nameF s.data.toList)) ∧ Later w w' := by
  obtain ⟨L, hL⟩ : ∃ L, L = s.data.toList := ⟨_, rfl⟩
  have hlen : L.length = s.size := by rw [hL, Array.length_toList]; rfl
  rw [← hL]
  have HL := hide hL
  have HLEN := hide hlen
  have L0 := hide (Later.refl w)
  by_cases h1 : s.size < 1
  · have hb : (s.size : Int) < 1 := by omega
    have hf : nameF L = false := by
      cases hn : nameF L with
      | false => rfl
      | true => have := ((nameF_iff L).1 hn).1; omega
    rw [hf]
    clear hL hlen hf
    go_enter Try.func13, Try.ntmps13
    go_wp2
    go_ret
    exact ⟨rfl, L0.out⟩
  · have hb : ¬ (s.size : Int) < 1 := by omega
    by_cases h2 : 16 < s.size
    · have hb2 : 16 < (s.size : Int) := by omega
      have hf : nameF L = false := by
        cases hn : nameF L with
        | false => rfl
        | true => have := ((nameF_iff L).1 hn).2.1; omega
      rw [hf]
      clear hL hlen hf
      go_enter Try.func13, Try.ntmps13
      go_wp2
      go_ret
      exact ⟨rfl, L0.out⟩
    · have hb2 : ¬ 16 < (s.size : Int) := by omega
      clear hL hlen
      go_enter Try.func13, Try.ntmps13
      go_wp2_with (fail)
      refine (letter_any (w := w)).mono ?_
      rintro e w1 ⟨v1, rfl, hs1, hl1⟩
      have S1 := hide hs1
      have L1 := hide hl1
      clear hs1 hl1
      go_wp2_with (fail)
      refine (ofName_any (w := w1)).mono ?_
      rintro e w2 ⟨v2, rfl, hs2, hl2⟩
      have S2 := hide hs2
      have S12 := hide (S1.out.later hl2)
      have L2 := hide (L1.out.trans hl2)
      have eg1 := S1.out.1
      have eg2 := hs2.1
      unfold Enters at eg1 eg2
      clear hs2 hl2 S1 L1
      obtain ⟨F1, cs1⟩ := v1
      obtain ⟨F2, cs2⟩ := v2
      simp only [SetV.val]
      simp only at eg1 eg2
      go_wp2_with (fail)
      go_loopw [] (fun wr => ∃ pos : Nat, pos ≤ L.length ∧ (∀ c ∈ L.take pos, partB c.toNat = true) ∧ (0 < pos → ∀ c, L[0]? = some c → smallB c.toNat = true) ∧ wr.heap[w2.heap.size]? = some (.stringIter s pos) ∧ Later w2 wr) (fun wr => s.size - wr.iterPos w2.heap.size)
      case atStart => exact ⟨0, by omega, by simp, by simp, World.iter_heap w2 s 0, (Below.refl _ _).alloc (Nat.le_refl _) _⟩
      case round =>
        obtain ⟨pos, hpl, hall, hfirst, hit, hlat⟩ := hrel
        have HA := hide hall
        have HF := hide hfirst
        have HL2 := hide hlat
        have HIT := hide hit
        clear hall hfirst hlat
        have hsz : w2.heap.size < wr.heap.size := (Array.getElem?_eq_some_iff.1 hit).1
        by_cases hp : pos < s.size
        · obtain ⟨c, hc⟩ : ∃ c, L[pos]? = some c := ⟨_, List.getElem?_eq_getElem (by have := HLEN.out; omega)⟩
          obtain ⟨x, wd, hnx, hsm, hpa, hx, hw1⟩ := next_at wr w2.heap.size pos s c hit hp (by rw [← HL.out]; exact hc)
          have LW : Hid (Later w2 (wr.iterAt w2.heap.size s (pos + wd))) := Lib.below_iterAt HL2.out (Nat.le_refl _) s (pos + wd)
          have C1 := hide (S12.out.2 (wr.iterAt w2.heap.size s (pos + wd)) x LW.out hx)
          have HC := hide hc
          have HW := hide hw1
          have HIT2 := hide (Lib.iterAt_heap wr w2.heap.size s pos (pos + wd) hit)
          rw [hsm] at C1
          obtain ⟨W3, hW3⟩ : ∃ W3, W3 = wr.iterAt w2.heap.size s (pos + wd) := ⟨_, rfl⟩
          rw [← hW3] at hnx LW C1 HIT2
          have CP : ∀ W', Later W3 W' → Calls Try.prog F2 (#[.int .i32 (x : Int)] ++ cs2) W' fun e w' => e = .returned (.bool (partB c.toNat)) ∧ Later W' w' := fun W' h => by
            rw [← hpa]
            exact S2.out.2 W' x (LW.out.trans h) hx
          have HCP := hide CP
          have hitsz : w2.heap.size < W3.heap.size := (Array.getElem?_eq_some_iff.1 HIT2.out).1
          clear hit hc hw1 hsm hpa hW3 CP
          by_cases hp0 : pos = 0
          · have hpb : ((pos : Int) == 0) = true := by rw [beq_iff_eq]; omega
            have HP0 := hide hp0
            clear hp0
            cases hf1 : smallB c.toNat with
            | false =>
              rw [hf1] at C1
              go_wp2_with (fail)
              refine C1.out.mono ?_
              rintro e w4 ⟨rfl, hl4⟩
              go_wp2_with (fail)
              go_ret
              exact ⟨ret_bool (nameF_not0 (by rw [← HP0.out]; exact HC.out) hf1).symm, L2.out.trans (LW.out.trans hl4)⟩
            | true =>
              have hf2 := small_part hf1
              rw [hf1] at C1
              go_wp2_with (fail)
              refine C1.out.mono ?_
              rintro e w4 ⟨rfl, hl4⟩
              have C2 := hide (HCP.out w4 hl4)
              rw [hf2] at C2
              have HL4 := hide hl4
              clear hl4
              go_wp2_with (fail)
              refine C2.out.mono ?_
              rintro e w5 ⟨rfl, hl5'⟩
              have hl5 := HL4.out.trans hl5'
              go_wp2_with (fail)
              go_roundw
              case rel =>
                have hwd := HW.out hf2
                subst hwd
                refine ⟨pos + 1, by have := HLEN.out; omega, ?_, ?_, (Below.block hl5 _ hitsz).trans HIT2.out, LW.out.trans hl5⟩
                · intro y hy
                  rw [List.take_add_one, HC.out] at hy
                  simp only [Option.toList_some, List.mem_append, List.mem_singleton] at hy
                  rcases hy with hy | rfl
                  · exact HA.out y hy
                  · exact hf2
                · exact fun _ y hy => by rw [← HP0.out, HC.out] at hy; injection hy with hy; rw [← hy]; exact hf1
              case measure =>
                have hwd := HW.out hf2
                subst hwd
                have e1 : wr.iterPos w2.heap.size = pos := by simp only [World.iterPos, HIT.out]
                have e2 : w5.iterPos w2.heap.size = pos + 1 := by simp only [World.iterPos, (Below.block hl5 _ hitsz).trans HIT2.out]
                rw [e1, e2]
                omega
          · have hpb : ((pos : Int) == 0) = false := by rw [beq_eq_false_iff_ne]; omega
            have C2 := hide (HCP.out W3 (Later.refl _))
            have HP0 := hide hp0
            clear hp0
            cases hf2 : partB c.toNat with
            | false =>
              rw [hf2] at C2
              go_wp2_with (fail)
              refine C2.out.mono ?_
              rintro e w4 ⟨rfl, hl4⟩
              go_wp2_with (fail)
              go_ret
              exact ⟨ret_bool (nameF_not HC.out hf2).symm, L2.out.trans (LW.out.trans hl4)⟩
            | true =>
              rw [hf2] at C2
              go_wp2_with (fail)
              refine C2.out.mono ?_
              rintro e w5 ⟨rfl, hl5⟩
              go_wp2_with (fail)
              go_roundw
              case rel =>
                have hwd := HW.out hf2
                subst hwd
                refine ⟨pos + 1, by have := HLEN.out; omega, ?_, ?_, (Below.block hl5 _ hitsz).trans HIT2.out, LW.out.trans hl5⟩
                · intro y hy
                  rw [List.take_add_one, HC.out] at hy
                  simp only [Option.toList_some, List.mem_append, List.mem_singleton] at hy
                  rcases hy with hy | rfl
                  · exact HA.out y hy
                  · exact hf2
                · exact fun _ => HF.out (by have := HP0.out; omega)
              case measure =>
                have hwd := HW.out hf2
                subst hwd
                have e1 : wr.iterPos w2.heap.size = pos := by simp only [World.iterPos, HIT.out]
                have e2 : w5.iterPos w2.heap.size = pos + 1 := by simp only [World.iterPos, (Below.block hl5 _ hitsz).trans HIT2.out]
                rw [e1, e2]
                omega
        · have hnx : ∀ ty, (Instr.next (.pointer (some ⟨w2.heap.size, 0, none⟩)) true ty).run Try.prog wr = _ := fun ty => Lib.run_next_end_at wr w2.heap.size s pos ty hit hp
          have hf : nameF L = true := by
            have hpe : pos = L.length := by have := HLEN.out; omega
            rw [nameF_iff]
            refine ⟨by have := HLEN.out; omega, by have := HLEN.out; omega, HF.out (by have := HLEN.out; omega), ?_⟩
            have := HA.out
            rwa [hpe, List.take_length] at this
          go_wp2_with (fail)
          go_ret
          exact ⟨ret_bool hf.symm, L2.out.trans HL2.out⟩
end
end Go.Proofs.Ytjnpclpjdlimaaa
/- The document's kinds of bytes, and its names. -/
namespace Go.Proofs.Ytjnpclpjdlimaaa
open Go.RowKit

section
variable {w : World}
theorem refSmall_any (b : Nat) : Calls Try.prog 17 #[.int .u8 (b : Int)] w fun e w' => e = .returned (.bool (smallB b)) ∧ w' = w := by
  unfold smallB
  go_enter Try.func17, Try.ntmps17
  by_cases h1 : 97 ≤ b
  · by_cases h2 : b ≤ 122
    · have e1 : (97 : Int) ≤ (b : Int) := by omega
      have e2 : (b : Int) ≤ 122 := by omega
      go_wp2
      go_ret
      exact ⟨ret_bool (by simp [h1, h2]), rfl⟩
    · have e1 : (97 : Int) ≤ (b : Int) := by omega
      have e2 : ¬ (b : Int) ≤ 122 := by omega
      go_wp2
      go_ret
      exact ⟨ret_bool (by simp), rfl⟩
  · have e1 : ¬ (97 : Int) ≤ (b : Int) := by omega
    go_wp2
    go_ret
    exact ⟨ret_bool (by simp), rfl⟩
theorem refDigit_any (b : Nat) : Calls Try.prog 18 #[.int .u8 (b : Int)] w fun e w' => e = .returned (.bool (digitB b)) ∧ w' = w := by
  unfold digitB
  go_enter Try.func18, Try.ntmps18
  by_cases h1 : 48 ≤ b
  · by_cases h2 : b ≤ 57
    · have e1 : (48 : Int) ≤ (b : Int) := by omega
      have e2 : (b : Int) ≤ 57 := by omega
      go_wp2
      go_ret
      exact ⟨ret_bool (by simp [h1, h2]), rfl⟩
    · have e1 : (48 : Int) ≤ (b : Int) := by omega
      have e2 : ¬ (b : Int) ≤ 57 := by omega
      go_wp2
      go_ret
      exact ⟨ret_bool (by simp), rfl⟩
  · have e1 : ¬ (48 : Int) ≤ (b : Int) := by omega
    go_wp2
    go_ret
    exact ⟨ret_bool (by simp), rfl⟩
set_option maxHeartbeats 1000000 in
theorem refPart_any (b : Nat) : Calls Try.prog 24 #[.int .u8 (b : Int)] w fun e w' => e = .returned (.bool (partB b)) ∧ w' = w := by
  unfold partB
  have CS := hide (refSmall_any (w := w) b)
  have CD := hide (refDigit_any (w := w) b)
  obtain ⟨p, hp⟩ : ∃ p, smallB b = p := ⟨_, rfl⟩
  obtain ⟨q, hq⟩ : ∃ q, digitB b = q := ⟨_, rfl⟩
  rw [hp] at CS ⊢
  rw [hq] at CD ⊢
  clear hp hq
  have e45 : (b == 45) = ((b : Int) == 45) := by rw [Bool.eq_iff_iff, beq_iff_eq, beq_iff_eq]; omega
  have e95 : (b == 95) = ((b : Int) == 95) := by rw [Bool.eq_iff_iff, beq_iff_eq, beq_iff_eq]; omega
  rw [e45, e95]
  clear e45 e95
  go_enter Try.func24, Try.ntmps24
  go_wp2_with (fail)
  refine CS.out.mono ?_
  rintro e w1 ⟨rfl, rfl⟩
  cases p with
  | true =>
    go_wp2_with (fail)
    go_ret
    exact ⟨ret_bool (by simp), rfl⟩
  | false =>
    go_wp2_with (fail)
    refine CD.out.mono ?_
    rintro e w1 ⟨rfl, rfl⟩
    cases q with
    | true =>
      go_wp2_with (fail)
      go_ret
      exact ⟨ret_bool (by simp), rfl⟩
    | false =>
      cases h45 : ((b : Int) == 45) with
      | true =>
        go_wp2_with (fail)
        go_ret
        exact ⟨ret_bool (by rw [h45]; simp), rfl⟩
      | false =>
        go_wp2_with (fail)
        go_ret
        exact ⟨ret_bool (by rw [h45]; simp), rfl⟩

/-- A text at a place. -/
theorem idx_at (s : ByteArray) (q : Nat) (c : UInt8) (hq : q < s.size) (hc : s.data.toList[q]? = some c) (W : World) : (Instr.index 9 (.string s) (.int .i64 (q : Int))).run Try.prog W = .ok (.int .u8 (c.toNat : Int)) W := by
  obtain ⟨c', hc', hx, _⟩ := byte_at s q hq
  obtain rfl : c = c' := by rw [hc] at hc'; injection hc'
  rw [run_index_string (P := Try.prog) W 9 s .i64 (q : Int) Try.underlying9, dif_pos ⟨by omega, by omega⟩]
  have e : (q : Int).toNat = q := by omega
  simp only [e, hx]

set_option maxHeartbeats 2000000 in
theorem refName_any (s : ByteArray) : Calls Try.prog 14 #[.string s] w fun e w' => e = .returned (.bool (nameF s.data.toList)) ∧ Later w w' := by
  obtain ⟨L, hL⟩ : ∃ L, L = s.data.toList := ⟨_, rfl⟩
  have hlen : L.length = s.size := by rw [hL, Array.length_toList]; rfl
  rw [← hL]
  have HL := hide hL
  have HLEN := hide hlen
  have L0 := hide (Later.refl w)
  by_cases h1 : s.size < 1
  · have hb : (s.size : Int) < 1 := by omega
    have hf : nameF L = false := by
      cases hn : nameF L with
      | false => rfl
      | true => have := ((nameF_iff L).1 hn).1; omega
    rw [hf]
    clear hL hlen hf
    go_enter Try.func14, Try.ntmps14
    go_wp2
    go_ret
    exact ⟨rfl, L0.out⟩
  · have hb : ¬ (s.size : Int) < 1 := by omega
    by_cases h2 : 16 < s.size
    · have hb2 : 16 < (s.size : Int) := by omega
      have hf : nameF L = false := by
        cases hn : nameF L with
        | false => rfl
        | true => have := ((nameF_iff L).1 hn).2.1; omega
      rw [hf]
      clear hL hlen hf
      go_enter Try.func14, Try.ntmps14
      go_wp2
      go_ret
      exact ⟨rfl, L0.out⟩
    · have hb2 : ¬ 16 < (s.size : Int) := by omega
      obtain ⟨c0, hc0⟩ : ∃ c, L[0]? = some c := ⟨_, List.getElem?_eq_getElem (by omega)⟩
      have hi0 : ∀ W : World, (Instr.index 9 (.string s) (.int .i64 0)).run Try.prog W = .ok (.int .u8 (c0.toNat : Int)) W := fun W => by
        have := idx_at s 0 c0 (by omega) (by rw [← hL]; exact hc0) W
        exact this
      have HC0 := hide hc0
      have CS := hide (refSmall_any (w := w) c0.toNat)
      clear hL hlen hc0
      cases hs : smallB c0.toNat with
      | false =>
        rw [hs] at CS
        have hf := nameF_not0 HC0.out hs
        rw [hf]
        clear hf hs
        go_enter Try.func14, Try.ntmps14
        go_wp2_with (fail)
        refine CS.out.mono ?_
        rintro e w1 ⟨rfl, rfl⟩
        go_wp2_with (fail)
        go_ret
        exact ⟨rfl, L0.out⟩
      | true =>
        rw [hs] at CS
        have HS := hide hs
        clear hs
        go_enter Try.func14, Try.ntmps14
        go_wp2_with (fail)
        refine CS.out.mono ?_
        rintro e w1 ⟨rfl, rfl⟩
        clear hi0 CS
        go_wp2_with (fail)
        go_loopw [3] (fun v wr => wr = w1 ∧ ∃ q : Nat, v = .int .i64 (q : Int) ∧ q ≤ L.length ∧ ∀ c ∈ L.take q, partB c.toNat = true) (fun v _ => L.length - (intOf v).toNat)
        case atStart => exact ⟨rfl, 0, rfl, by omega, by simp⟩
        case round =>
          obtain ⟨rfl, q, rfl, hq, hall⟩ := hrel
          have HA := hide hall
          clear hall
          by_cases hlt : q < L.length
          · obtain ⟨c, hc⟩ : ∃ c, L[q]? = some c := ⟨_, List.getElem?_eq_getElem hlt⟩
            have hls : (q : Int) < (s.size : Int) := by have := HLEN.out; omega
            have hi : ∀ W : World, (Instr.index 9 (.string s) (.int .i64 (q : Int))).run Try.prog W = .ok (.int .u8 (c.toNat : Int)) W := idx_at s q c (by omega) (by rw [← HL.out]; exact hc)
            have CP := hide (refPart_any (w := wr) c.toNat)
            have HC := hide hc
            clear hc
            cases hp : partB c.toNat with
            | false =>
              rw [hp] at CP
              have hf := nameF_not HC.out hp
              have HF := hide hf
              clear hf hp
              go_wp2_with (fail)
              refine CP.out.mono ?_
              rintro e w1 ⟨rfl, rfl⟩
              go_wp2_with (fail)
              go_ret
              exact ⟨ret_bool HF.out.symm, L0.out⟩
            | true =>
              rw [hp] at CP
              have HP := hide hp
              clear hp
              go_wp2_with (fail)
              refine CP.out.mono ?_
              rintro e w1 ⟨rfl, rfl⟩
              go_wp2_with (fail)
              go_roundw
              case rel =>
                refine ⟨trivial, q + 1, by go_num, by omega, ?_⟩
                intro y hy
                rw [List.take_add_one, HC.out] at hy
                simp only [Option.toList_some, List.mem_append, List.mem_singleton] at hy
                rcases hy with hy | rfl
                · exact HA.out y hy
                · exact HP.out
              case measure => simp [intOf]; omega
          · have hls : ¬ (q : Int) < (s.size : Int) := by have := HLEN.out; omega
            have hf : nameF L = true := by
              rw [nameF_iff]
              refine ⟨by have := HLEN.out; omega, by have := HLEN.out; omega, fun c hc => ?_, ?_⟩
              · rw [HC0.out] at hc
                injection hc with hc
                rw [← hc]
                exact HS.out
              · have := HA.out
                rwa [List.take_of_length_le (by omega)] at this
            go_wp2_with (fail)
            go_ret
            exact ⟨rfl, L0.out⟩
end
end Go.Proofs.Ytjnpclpjdlimaaa
/- The document's tokens. -/
namespace Go.Proofs.Ytjnpclpjdlimaaa
open Go.RowKit

/-- A row of the document's tokens, of the call's own. -/
def RTokRow (base : Nat) (w : World) (v : Value) (ts : List Tok) : Prop := w.ownsRow base 51 4 v ts.length (ts.flatMap Tok.cells)
theorem info_rtok : (Try.prog.info? 51).map (fun i => (i.zero, i.size, i.bytes)) = some (some (.agg #[.int .i64 0, .string ⟨#[]⟩, .int .i64 0, .int .i64 0]), 4, 40) := by kernel_rfl
/-- What the document's Tokens answers. -/
def RTold (w : World) (l : List UInt8) (e : Ending) (w' : World) : Prop :=
  ∃ v, e = .returned (.tuple #[v, .int .i64 ((answer l).2.1 : Int), .int .i64 ((answer l).2.2 : Int)]) ∧ RTokRow w.heap.size w' v (answer l).1 ∧ Later w w'

/-- The tests by which the document tells what a byte begins. -/
structure Tests (b : Nat) (blank hash small digit sign : Bool) : Prop where
  blank : (((b : Int) == 32) || ((b : Int) == 9) || ((b : Int) == 10)) = blank
  hash : ((b : Int) == 35) = hash
  small : smallB b = small
  digit : digitB b = digit
  sign : (((b : Int) == 123) || ((b : Int) == 125) || ((b : Int) == 59)) = sign
theorem take_cons {k : Nat} {b : UInt8} (r : List UInt8) (h : goB k b.toNat = true) : (List.takeWhile (fun c => goB k c.toNat) (b :: r)).length = (more k r).length + 1 := by
  rw [List.takeWhile_cons_of_pos (by simpa using h)]
  rfl
theorem ibeq (b n : Nat) : ((b : Int) == (n : Int)) = (b == n) := by
  rw [Bool.eq_iff_iff, beq_iff_eq, beq_iff_eq]
  omega
set_option synthInstance.maxSize 100000 in
theorem kind_0 (b : Nat) (h : b < 256) (hk : kindB b = 0) : (b == 32) = false ∧ (b == 9) = false ∧ (b == 10) = false ∧ (b == 35) = false ∧ smallB b = false ∧ digitB b = false ∧ (b == 123) = false ∧ (b == 125) = false ∧ (b == 59) = false := by
  have : ∀ b : Fin 256, kindB b.1 = 0 → (b.1 == 32) = false ∧ (b.1 == 9) = false ∧ (b.1 == 10) = false ∧ (b.1 == 35) = false ∧ smallB b.1 = false ∧ digitB b.1 = false ∧ (b.1 == 123) = false ∧ (b.1 == 125) = false ∧ (b.1 == 59) = false := by decide +kernel
  exact this ⟨b, h⟩ hk
set_option synthInstance.maxSize 100000 in
theorem kind_1 (b : Nat) (h : b < 256) (hk : kindB b = 1) : (b == 32) = false ∧ (b == 9) = false ∧ (b == 10) = false ∧ (b == 35) = false ∧ smallB b = true := by
  have : ∀ b : Fin 256, kindB b.1 = 1 → (b.1 == 32) = false ∧ (b.1 == 9) = false ∧ (b.1 == 10) = false ∧ (b.1 == 35) = false ∧ smallB b.1 = true := by decide +kernel
  exact this ⟨b, h⟩ hk
set_option synthInstance.maxSize 100000 in
theorem kind_2 (b : Nat) (h : b < 256) (hk : kindB b = 2) : (b == 32) = false ∧ (b == 9) = false ∧ (b == 10) = false ∧ (b == 35) = false ∧ smallB b = false ∧ digitB b = true := by
  have : ∀ b : Fin 256, kindB b.1 = 2 → (b.1 == 32) = false ∧ (b.1 == 9) = false ∧ (b.1 == 10) = false ∧ (b.1 == 35) = false ∧ smallB b.1 = false ∧ digitB b.1 = true := by decide +kernel
  exact this ⟨b, h⟩ hk
set_option synthInstance.maxSize 100000 in
theorem kind_3 (b : Nat) (h : b < 256) (hk : kindB b = 3) : (b == 32) = false ∧ (b == 9) = false ∧ (b == 10) = false ∧ (b == 35) = false ∧ smallB b = false ∧ digitB b = false ∧ (b = 123 ∨ b = 125 ∨ b = 59) := by
  have : ∀ b : Fin 256, kindB b.1 = 3 → (b.1 == 32) = false ∧ (b.1 == 9) = false ∧ (b.1 == 10) = false ∧ (b.1 == 35) = false ∧ smallB b.1 = false ∧ digitB b.1 = false ∧ (b.1 = 123 ∨ b.1 = 125 ∨ b.1 = 59) := by decide +kernel
  exact this ⟨b, h⟩ hk
set_option synthInstance.maxSize 100000 in
theorem kind_4 (b : Nat) (h : b < 256) (hk : kindB b = 4) : (b = 32 ∨ b = 9 ∨ b = 10) := by
  have : ∀ b : Fin 256, kindB b.1 = 4 → (b.1 = 32 ∨ b.1 = 9 ∨ b.1 = 10) := by decide +kernel
  exact this ⟨b, h⟩ hk
set_option synthInstance.maxSize 100000 in
theorem kind_5 (b : Nat) (h : b < 256) (hk : kindB b = 5) : b = 35 := by
  have : ∀ b : Fin 256, kindB b.1 = 5 → b.1 = 35 := by decide +kernel
  exact this ⟨b, h⟩ hk

/-- What stands behind a thing of kind k. -/
theorem thing_next {L r : List UInt8} {b : UInt8} {a k m : Nat} {acc : List Tok} (hd : L.drop a = b :: r) (hk : kindB b.toNat = k) (h0 : k ≠ 0) (hm : (more k r).length = m) (hto : ahead acc (toks (L.drop a) a) = toks L 0) :
    a + (m + 1) ≤ L.length ∧ ahead (acc ++ if k ≤ 3 then [tokOf k b r a] else []) (toks (L.drop (a + (m + 1))) (a + (m + 1))) = toks L 0 := by
  have hrl : r.length + 1 + a = L.length := by
    have := congrArg List.length hd
    simp at this
    omega
  have hmr : m ≤ r.length := by
    have := rest_len k r
    omega
  refine ⟨by omega, ?_⟩
  rw [hd, toks_cons r a (by rw [hk]; exact h0), hk, hm, ahead_ahead] at hto
  rw [← hto, ← hm, drop_next hd k, hm, show a + (m + 1) = a + 1 + m from by omega]

section
variable {w : World}
set_option maxHeartbeats 8000000 in
set_option maxRecDepth 100000 in
theorem reftokens_any (s : ByteArray) (hs : s.size ≤ 140737488355328) : Calls Try.prog 10 #[.string s] w (RTold w s.data.toList) := by
  obtain ⟨L, hL⟩ : ∃ L, L = s.data.toList := ⟨_, rfl⟩
  have hlen : L.length = s.size := by rw [hL, Array.length_toList]; rfl
  rw [← hL]
  have HL := hide hL
  have HLEN := hide hlen
  have L0 := hide (Later.refl w)
  by_cases hbig : 400 < L.length
  · have h400 : 400 < (s.size : Int) := by omega
    clear hL hlen
    go_enter Try.func10, Try.ntmps10
    go_wp2
    go_ret3
    have e : answer L = ([], 0, 12) := by unfold answer; rw [if_pos hbig]
    unfold RTold
    rw [e]
    exact ⟨_, rfl, World.ownsRow_nil _ _ _ 4, L0.out⟩
  · have h400 : ¬ 400 < (s.size : Int) := by omega
    have hn400 : L.length ≤ 400 := by omega
    obtain ⟨i0, hi, hz0, hz1, hz2⟩ := info_parts info_rtok
    have HI := hide hi
    have HZ0 := hide hz0
    have HZ1 := hide hz1
    have HZ2 := hide hz2
    clear hL hlen hbig hi hz0 hz1 hz2
    go_enter Try.func10, Try.ntmps10
    go_wp2_with (fail)
    go_loopw [5, 6] (fun v5 v6 wr => ∃ (a : Nat) (acc : List Tok), v6 = .int .i64 (a : Int) ∧ a ≤ L.length ∧ acc.length ≤ a ∧ ahead acc (toks (L.drop a) a) = toks L 0 ∧ RTokRow w.heap.size wr v5 acc ∧ Later w wr) (fun _ v6 _ => L.length - (intOf v6).toNat)
    case atStart =>
      refine ⟨0, [], rfl, by omega, by simp, ?_, World.ownsRow_nil _ _ _ 4, L0.out⟩
      rw [List.drop_zero]
      exact ahead_nil _ (toks_none _ _)
    case round =>
      obtain ⟨a, acc, rfl, ha, hacc, hto, hrow, hlat⟩ := hrel
      have HTO := hide hto
      have HR := hide hrow
      have HLA := hide hlat
      clear hto hrow hlat
      by_cases hlt : a < L.length
      · obtain ⟨b, hb⟩ : ∃ b, L[a]? = some b := ⟨_, List.getElem?_eq_getElem hlt⟩
        have hd : L.drop a = b :: L.drop (a + 1) := by
          rw [List.drop_eq_getElem_cons hlt]
          rw [List.getElem?_eq_getElem hlt] at hb
          injection hb with hb
          rw [hb]
        have hls : (a : Int) < (s.size : Int) := by have := HLEN.out; omega
        have hix : ∀ W : World, (Instr.index 9 (.string s) (.int .i64 (a : Int))).run Try.prog W = .ok (.int .u8 (b.toNat : Int)) W := idx_at s a b (by have := HLEN.out; omega) (by rw [← HL.out]; exact hb)
        have HD := hide hd
        obtain ⟨r, hr⟩ : ∃ r, L.drop (a + 1) = r := ⟨_, rfl⟩
        rw [hr] at HD
        have HB := hide hb
        clear hb hd hr
        have hx256 := b.toNat_lt
        obtain ⟨kk, hkk⟩ : ∃ kk, kindB b.toNat = kk := ⟨_, rfl⟩
        have HK := hide hkk
        have CS := hide (refSmall_any (w := wr) b.toNat)
        have CD := hide (refDigit_any (w := wr) b.toNat)
        obtain ⟨x, hx⟩ : ∃ x, b.toNat = x := ⟨_, rfl⟩
        rw [hx] at hkk hix CS CD hx256
        have HX := hide hx
        have hk6 := kind_cases x
        rw [hkk] at hk6
        clear hx
        rcases hk6 with rfl | rfl | rfl | rfl | rfl | rfl
        · obtain ⟨t1, t2, t3, t4, t5, t6, t7, t8, t9⟩ := kind_0 x hx256 hkk
          rw [t5] at CS
          rw [t6] at CD
          have e1 : ((x : Int) == 32) = false := (ibeq x 32).trans t1
          have e2 : ((x : Int) == 9) = false := (ibeq x 9).trans t2
          have e3 : ((x : Int) == 10) = false := (ibeq x 10).trans t3
          have e4 : ((x : Int) == 35) = false := (ibeq x 35).trans t4
          have e7 : ((x : Int) == 123) = false := (ibeq x 123).trans t7
          have e8 : ((x : Int) == 125) = false := (ibeq x 125).trans t8
          have e9 : ((x : Int) == 59) = false := (ibeq x 59).trans t9
          clear t1 t2 t3 t4 t5 t6 t7 t8 t9 hkk
          go_wp2_with (fail)
          refine CS.out.mono ?_
          rintro e w1 ⟨rfl, rfl⟩
          go_wp2_with (fail)
          refine CD.out.mono ?_
          rintro e w1 ⟨rfl, rfl⟩
          go_wp2_with (fail)
          go_ret3
          have hto := HTO.out
          rw [HD.out, toks_bad r a HK.out] at hto
          have e : answer L = ([], a, 11) := by
            unfold answer
            rw [if_neg (by omega), ← hto]
            rfl
          unfold RTold
          rw [e]
          exact ⟨_, rfl, World.ownsRow_nil _ _ _ 4, HLA.out⟩
        · obtain ⟨t1, t2, t3, t4, t5⟩ := kind_1 x hx256 hkk
          rw [t5] at CS
          have e1 : ((x : Int) == 32) = false := (ibeq x 32).trans t1
          have e2 : ((x : Int) == 9) = false := (ibeq x 9).trans t2
          have e3 : ((x : Int) == 10) = false := (ibeq x 10).trans t3
          have e4 : ((x : Int) == 35) = false := (ibeq x 35).trans t4
          obtain ⟨m, hm⟩ : ∃ m, (more 1 r).length = m := ⟨_, rfl⟩
          have TN := hide (thing_next HD.out HK.out (by omega) hm HTO.out)
          have HM := hide hm
          have hgo : goB 1 x = true := small_part t5
          clear t1 t2 t3 t4 t5
          have hw : (List.takeWhile (fun c => goB 1 c.toNat) (L.drop a)).length = m + 1 := by rw [HD.out, take_cons r (by rw [HX.out]; exact hgo), hm]
          have HW := hide hw
          clear hm hkk hw hgo
          go_wp2_with (fail)
          refine CS.out.mono ?_
          rintro e w1 ⟨rfl, hq1⟩
          obtain rfl := hq1.symm
          go_wp2_with (fail)
          clear hix
          go_loopw [6] (fun v6 wr' => wr' = wr ∧ ∃ p : Nat, v6 = .int .i64 (p : Int) ∧ a ≤ p ∧ p ≤ L.length ∧ (∀ c ∈ (L.drop a).take (p - a), goB 1 c.toNat = true)) (fun v6 _ => L.length - (intOf v6).toNat)
          case atStart => exact ⟨rfl, a, rfl, Nat.le_refl _, by omega, by simp⟩
          case round =>
            obtain ⟨rfl, p, rfl, hap, hpl, hall⟩ := hrel
            have HA := hide hall
            clear hall
            by_cases hlt2 : p < L.length
            · obtain ⟨c, hc⟩ : ∃ c, L[p]? = some c := ⟨_, List.getElem?_eq_getElem hlt2⟩
              have hls2 : (p : Int) < (s.size : Int) := by have := HLEN.out; omega
              have hix2 := idx_at s p c (by have := HLEN.out; omega) (by rw [← HL.out]; exact hc)
              have hcd : (L.drop a)[p - a]? = some c := by rw [List.getElem?_drop, show a + (p - a) = p from by omega]; exact hc
              have HC := hide hcd
              obtain ⟨y, hy⟩ : ∃ y, c.toNat = y := ⟨_, rfl⟩
              rw [hy] at hix2
              have HY := hide hy
              have hy256 : y < 256 := by rw [← hy]; exact c.toNat_lt
              clear hc hcd hy
              cases hg : goB 1 y with
              | true =>
                have CP := hide (refPart_any (w := wr) y)
                rw [show partB y = goB 1 y from rfl, hg] at CP
                have HG := hide hg
                clear hg
                go_wp2_with (fail)
                refine CP.out.mono ?_
                rintro e w1 ⟨rfl, hq1⟩
                obtain rfl := hq1.symm
                go_wp2_with (fail)
                go_roundw
                case rel =>
                  refine ⟨trivial, p + 1, by go_num, by omega, by omega, ?_⟩
                  intro z hz
                  rw [show p + 1 - a = (p - a) + 1 from by omega, List.take_add_one, HC.out] at hz
                  simp only [Option.toList_some, List.mem_append, List.mem_singleton] at hz
                  rcases hz with hz | rfl
                  · exact HA.out z hz
                  · rw [HY.out]; exact HG.out
                case measure => simp [intOf]; omega
              | false =>
                have hpe : p = a + (m + 1) := by
                  have h1 := take_end (f := goB 1) HA.out HC.out (by rw [HY.out]; exact hg)
                  have h2 := HW.out
                  omega
                have HPE := hide hpe
                clear hpe
                have CP := hide (refPart_any (w := wr) y)
                rw [show partB y = goB 1 y from rfl, hg] at CP
                clear hg
                go_wp2_with (fail)
                refine CP.out.mono ?_
                rintro e w1 ⟨rfl, hq1⟩
                obtain rfl := hq1.symm
                have TN2 := hide (HPE.out ▸ TN.out)
                have hpe := HPE.out
                have hex2 : s.extract a p = ⟨(b :: more 1 r).toArray⟩ := by
                  rw [extract_list, ← HL.out, HD.out, show p - a = m + 1 from by omega, List.take_succ_cons]
                  have e := List.take_left (l₁ := more 1 r) (l₂ := rest 1 r)
                  rw [more_rest, HM.out] at e
                  rw [e]
                have hps : (p : Int) ≤ (s.size : Int) := by have := HLEN.out; omega
                have hap' : (a : Int) ≤ (p : Int) := by omega
                clear hpe
                have FL : Hid (FlatAt (fun _ => True) (wr.alloc (.cells #[.int .i64 1, .string ⟨(b :: more 1 r).toArray⟩, .int .i64 0, .int .i64 (a : Int)] 51 (0, 0))) 4 (.slice (some ⟨wr.heap.size, 0, none⟩) 1 1) 1 (tokOf 1 b r a).cells) := flat_one wr 51 4 #[.int .i64 1, .string ⟨(b :: more 1 r).toArray⟩, .int .i64 0, .int .i64 (a : Int)] (by rfl) (by simp [Value.oneCell']) _ trivial
                have OW : Hid ((wr.alloc (.cells #[.int .i64 1, .string ⟨(b :: more 1 r).toArray⟩, .int .i64 0, .int .i64 (a : Int)] 51 (0, 0))).ownsRow w.heap.size 51 4 u5 acc.length (acc.flatMap Tok.cells)) := World.ownsRow.alloc HR.out _
                have LW : Hid (Below w.heap.size w (wr.alloc (.cells #[.int .i64 1, .string ⟨(b :: more 1 r).toArray⟩, .int .i64 0, .int .i64 (a : Int)] 51 (0, 0)))) := HLA.out.alloc (Below.size HLA.out) _
                go_wp2_with (first
                  | (refine wpList_buildSlice_one (by rfl) 27 51 _ (by rfl) i0 _ 4 Try.underlying27 HI.out HZ0.out HZ1.out (by omega) (by omega) #[.int .i64 1, .string ⟨(b :: more 1 r).toArray⟩, .int .i64 0, .int .i64 (a : Int)] (by rfl) (by rfl) ?_)
                  | (at_builtin; refine wpList_append_flat _ (by rfl) (.tmp 65) (.tmp 72) 27 (by rfl) w.heap.size 51 i0 _ 4 40 Try.underlying27 HI.out HZ0.out HZ1.out HZ2.out (by rfl) (by omega) u5 acc.length (acc.flatMap Tok.cells) (by rfl) OW.out (fun _ => True) _ 1 1 (tokOf 1 b r a).cells (by rfl) FL.out (by unfold maxLen; omega) (by omega) (Below.size LW.out) ?_; intro v5 w5 o5 g5))
                refine ⟨⟨p, acc ++ [tokOf 1 b r a], rfl, TN2.out.1, by have := HPE.out; simp; omega, by simpa using TN2.out.2, ?_, Below.trans LW.out (later_own OW.out (Below.size LW.out) g5)⟩, ?_⟩
                · show World.ownsRow _ _ _ _ _ _ _
                  rw [List.length_append, List.flatMap_append]
                  simpa using o5
                · have := HPE.out
                  simp [intOf]
                  omega
            · have hls2 : ¬ (p : Int) < (s.size : Int) := by have := HLEN.out; omega
              have hpe : p = a + (m + 1) := by
                have hle : (L.drop a).length ≤ p - a := by simp; omega
                have h1 := take_whole (f := goB 1) (by have := HA.out; rwa [List.take_of_length_le hle] at this)
                have h2 := HW.out
                have h3 : (L.drop a).length = L.length - a := by simp
                omega
              have HPE := hide hpe
              clear hpe
              have TN2 := hide (HPE.out ▸ TN.out)
              have hpe := HPE.out
              have hex2 : s.extract a p = ⟨(b :: more 1 r).toArray⟩ := by
                rw [extract_list, ← HL.out, HD.out, show p - a = m + 1 from by omega, List.take_succ_cons]
                have e := List.take_left (l₁ := more 1 r) (l₂ := rest 1 r)
                rw [more_rest, HM.out] at e
                rw [e]
              have hps : (p : Int) ≤ (s.size : Int) := by have := HLEN.out; omega
              have hap' : (a : Int) ≤ (p : Int) := by omega
              clear hpe
              have FL : Hid (FlatAt (fun _ => True) (wr.alloc (.cells #[.int .i64 1, .string ⟨(b :: more 1 r).toArray⟩, .int .i64 0, .int .i64 (a : Int)] 51 (0, 0))) 4 (.slice (some ⟨wr.heap.size, 0, none⟩) 1 1) 1 (tokOf 1 b r a).cells) := flat_one wr 51 4 #[.int .i64 1, .string ⟨(b :: more 1 r).toArray⟩, .int .i64 0, .int .i64 (a : Int)] (by rfl) (by simp [Value.oneCell']) _ trivial
              have OW : Hid ((wr.alloc (.cells #[.int .i64 1, .string ⟨(b :: more 1 r).toArray⟩, .int .i64 0, .int .i64 (a : Int)] 51 (0, 0))).ownsRow w.heap.size 51 4 u5 acc.length (acc.flatMap Tok.cells)) := World.ownsRow.alloc HR.out _
              have LW : Hid (Below w.heap.size w (wr.alloc (.cells #[.int .i64 1, .string ⟨(b :: more 1 r).toArray⟩, .int .i64 0, .int .i64 (a : Int)] 51 (0, 0)))) := HLA.out.alloc (Below.size HLA.out) _
              go_wp2_with (first
                | (refine wpList_buildSlice_one (by rfl) 27 51 _ (by rfl) i0 _ 4 Try.underlying27 HI.out HZ0.out HZ1.out (by omega) (by omega) #[.int .i64 1, .string ⟨(b :: more 1 r).toArray⟩, .int .i64 0, .int .i64 (a : Int)] (by rfl) (by rfl) ?_)
                | (at_builtin; refine wpList_append_flat _ (by rfl) (.tmp 65) (.tmp 72) 27 (by rfl) w.heap.size 51 i0 _ 4 40 Try.underlying27 HI.out HZ0.out HZ1.out HZ2.out (by rfl) (by omega) u5 acc.length (acc.flatMap Tok.cells) (by rfl) OW.out (fun _ => True) _ 1 1 (tokOf 1 b r a).cells (by rfl) FL.out (by unfold maxLen; omega) (by omega) (Below.size LW.out) ?_; intro v5 w5 o5 g5))
              refine ⟨⟨p, acc ++ [tokOf 1 b r a], rfl, TN2.out.1, by have := HPE.out; simp; omega, by simpa using TN2.out.2, ?_, Below.trans LW.out (later_own OW.out (Below.size LW.out) g5)⟩, ?_⟩
              · show World.ownsRow _ _ _ _ _ _ _
                rw [List.length_append, List.flatMap_append]
                simpa using o5
              · have := HPE.out
                simp [intOf]
                omega
        · obtain ⟨t1, t2, t3, t4, t5, t6⟩ := kind_2 x hx256 hkk
          rw [t5] at CS
          rw [t6] at CD
          have e1 : ((x : Int) == 32) = false := (ibeq x 32).trans t1
          have e2 : ((x : Int) == 9) = false := (ibeq x 9).trans t2
          have e3 : ((x : Int) == 10) = false := (ibeq x 10).trans t3
          have e4 : ((x : Int) == 35) = false := (ibeq x 35).trans t4
          obtain ⟨m, hm⟩ : ∃ m, (more 2 r).length = m := ⟨_, rfl⟩
          have TN := hide (thing_next HD.out HK.out (by omega) hm HTO.out)
          have HM := hide hm
          have hgo : goB 2 x = true := t6
          clear t1 t2 t3 t4 t5 t6
          have hw : (List.takeWhile (fun c => goB 2 c.toNat) (L.drop a)).length = m + 1 := by rw [HD.out, take_cons r (by rw [HX.out]; exact hgo), hm]
          have HW := hide hw
          clear hm hkk hw hgo
          go_wp2_with (fail)
          refine CS.out.mono ?_
          rintro e w1 ⟨rfl, hq1⟩
          obtain rfl := hq1.symm
          go_wp2_with (fail)
          refine CD.out.mono ?_
          rintro e w1 ⟨rfl, hq1⟩
          obtain rfl := hq1.symm
          go_wp2_with (fail)
          clear hix
          go_loopw [6, 9] (fun v6 v9 wr' => wr' = wr ∧ ∃ p : Nat, v6 = .int .i64 (p : Int) ∧ a ≤ p ∧ p ≤ L.length ∧ (∀ c ∈ (L.drop a).take (p - a), goB 2 c.toNat = true) ∧ ∃ n : Nat, v9 = .int .i64 (n : Int) ∧ n = ((L.drop a).take (p - a)).foldl refStep 0) (fun v6 _ _ => L.length - (intOf v6).toNat)
          case atStart => exact ⟨rfl, a, rfl, Nat.le_refl _, by omega, by simp, 0, rfl, by simp⟩
          case round =>
            obtain ⟨rfl, p, rfl, hap, hpl, hall, n, rfl, hn⟩ := hrel
            have HA := hide hall
            clear hall
            by_cases hlt2 : p < L.length
            · obtain ⟨c, hc⟩ : ∃ c, L[p]? = some c := ⟨_, List.getElem?_eq_getElem hlt2⟩
              have hls2 : (p : Int) < (s.size : Int) := by have := HLEN.out; omega
              have hix2 := idx_at s p c (by have := HLEN.out; omega) (by rw [← HL.out]; exact hc)
              have hcd : (L.drop a)[p - a]? = some c := by rw [List.getElem?_drop, show a + (p - a) = p from by omega]; exact hc
              have HC := hide hcd
              obtain ⟨y, hy⟩ : ∃ y, c.toNat = y := ⟨_, rfl⟩
              rw [hy] at hix2
              have HY := hide hy
              have hy256 : y < 256 := by rw [← hy]; exact c.toNat_lt
              clear hc hcd hy
              have HN := hide hn
              clear hn
              have CP := hide (refDigit_any (w := wr) y)
              cases hg : goB 2 y with
              | true =>
                have HG := hide hg
                rw [show digitB y = goB 2 y from rfl, hg] at CP
                have hyd := HG.out
                simp only [goB, digitB] at hyd
                have hyd2 : 48 ≤ y ∧ y ≤ 57 := by simpa using hyd
                clear hg hyd
                have hfold : ((L.drop a).take (p + 1 - a)).foldl refStep 0 = if n < 1000000 then 10 * n + (y - 48) else n := by
                  rw [show p + 1 - a = (p - a) + 1 from by omega, List.take_add_one, HC.out, List.foldl_append, ← HN.out]
                  simp only [Option.toList_some, List.foldl_cons, List.foldl_nil, refStep, HY.out]
                have HFD := hide hfold
                clear hfold
                have hn2 : n ≤ 20000000 := by rw [HN.out]; exact foldRef_le _ _ (by omega)
                by_cases hn1 : n < 1000000
                · have hn1' : (n : Int) < 1000000 := by omega
                  have HN1 := hide hn1
                  clear hn1
                  go_wp2_with (fail)
                  refine CP.out.mono ?_
                  rintro e w1 ⟨rfl, hq1⟩
                  obtain rfl := hq1.symm
                  go_wp2_with (fail)
                  refine ⟨⟨trivial, p + 1, by go_num, by omega, by omega, ?_, (if n < 1000000 then 10 * n + (y - 48) else n), ?_, HFD.out.symm⟩, by simp [intOf]; omega⟩
                  · intro z hz
                    rw [show p + 1 - a = (p - a) + 1 from by omega, List.take_add_one, HC.out] at hz
                    simp only [Option.toList_some, List.mem_append, List.mem_singleton] at hz
                    rcases hz with hz | rfl
                    · exact HA.out z hz
                    · rw [HY.out]; exact HG.out
                  · rw [if_pos HN1.out]
                    congr 1
                    omega
                · have hn1' : (1000000 : Int) ≤ (n : Int) := by omega
                  have hdn : decide ((n : Int) < 1000000) = false := decide_eq_false (by omega)
                  have HN1 := hide hn1
                  clear hn1
                  go_wp2_with (fail)
                  refine CP.out.mono ?_
                  rintro e w1 ⟨rfl, hq1⟩
                  obtain rfl := hq1.symm
                  go_wp2_with (fail)
                  refine ⟨⟨trivial, p + 1, by go_num, by omega, by omega, ?_, (if n < 1000000 then 10 * n + (y - 48) else n), ?_, HFD.out.symm⟩, by simp [intOf]; omega⟩
                  · intro z hz
                    rw [show p + 1 - a = (p - a) + 1 from by omega, List.take_add_one, HC.out] at hz
                    simp only [Option.toList_some, List.mem_append, List.mem_singleton] at hz
                    rcases hz with hz | rfl
                    · exact HA.out z hz
                    · rw [HY.out]; exact HG.out
                  · rw [if_neg HN1.out]
              | false =>
                have hpe : p = a + (m + 1) := by
                  have h1 := take_end (f := goB 2) HA.out HC.out (by rw [HY.out]; exact hg)
                  have h2 := HW.out
                  omega
                have HPE := hide hpe
                clear hpe
                rw [show digitB y = goB 2 y from rfl, hg] at CP
                clear hg
                go_wp2_with (fail)
                refine CP.out.mono ?_
                rintro e w1 ⟨rfl, hq1⟩
                obtain rfl := hq1.symm
                have htk : (L.drop a).take (p - a) = b :: more 2 r := by
                  rw [HD.out, show p - a = m + 1 from by have := HPE.out; omega, List.take_succ_cons]
                  have e := List.take_left (l₁ := more 2 r) (l₂ := rest 2 r)
                  rw [more_rest, HM.out] at e
                  rw [e]
                have hvn : (valF (b :: more 2 r)) = min n 1000000 := by rw [valF_ref, HN.out, htk]
                clear htk
                have hn2 : n ≤ 20000000 := by rw [HN.out]; exact foldRef_le _ _ (by omega)
                have HVN := hide hvn
                clear hvn
                by_cases hbig2 : 1000000 < n
                · have hb2 : (1000000 : Int) < (n : Int) := by omega
                  have hv2 : (valF (b :: more 2 r) : Int) = (1000000 : Int) := by have := HVN.out; omega
                  have HV2 := hide hv2
                  clear hv2
                  have TN2 := hide (HPE.out ▸ TN.out)
                  have hpe := HPE.out
                  have hex2 : s.extract a p = ⟨(b :: more 2 r).toArray⟩ := by
                    rw [extract_list, ← HL.out, HD.out, show p - a = m + 1 from by omega, List.take_succ_cons]
                    have e := List.take_left (l₁ := more 2 r) (l₂ := rest 2 r)
                    rw [more_rest, HM.out] at e
                    rw [e]
                  have hps : (p : Int) ≤ (s.size : Int) := by have := HLEN.out; omega
                  have hap' : (a : Int) ≤ (p : Int) := by omega
                  clear hpe
                  have FL : Hid (FlatAt (fun _ => True) (wr.alloc (.cells #[.int .i64 2, .string ⟨(b :: more 2 r).toArray⟩, .int .i64 (1000000 : Int), .int .i64 (a : Int)] 51 (0, 0))) 4 (.slice (some ⟨wr.heap.size, 0, none⟩) 1 1) 1 (tokOf 2 b r a).cells) := by
                    have e : (tokOf 2 b r a).cells = [.int .i64 2, .string ⟨(b :: more 2 r).toArray⟩, .int .i64 ((1000000 : Int)), .int .i64 (a : Int)] := by simp only [Tok.cells, tokOf, if_pos]; rw [← HV2.out]; rfl
                    rw [e]
                    exact flat_one wr 51 4 #[.int .i64 2, .string ⟨(b :: more 2 r).toArray⟩, .int .i64 (1000000 : Int), .int .i64 (a : Int)] (by rfl) (by simp [Value.oneCell']) _ trivial
                  have OW : Hid ((wr.alloc (.cells #[.int .i64 2, .string ⟨(b :: more 2 r).toArray⟩, .int .i64 (1000000 : Int), .int .i64 (a : Int)] 51 (0, 0))).ownsRow w.heap.size 51 4 u5 acc.length (acc.flatMap Tok.cells)) := World.ownsRow.alloc HR.out _
                  have LW : Hid (Below w.heap.size w (wr.alloc (.cells #[.int .i64 2, .string ⟨(b :: more 2 r).toArray⟩, .int .i64 (1000000 : Int), .int .i64 (a : Int)] 51 (0, 0)))) := HLA.out.alloc (Below.size HLA.out) _
                  go_wp2_with (first
                    | (refine wpList_buildSlice_one (by rfl) 27 51 _ (by rfl) i0 _ 4 Try.underlying27 HI.out HZ0.out HZ1.out (by omega) (by omega) #[.int .i64 2, .string ⟨(b :: more 2 r).toArray⟩, .int .i64 (1000000 : Int), .int .i64 (a : Int)] (by rfl) (by rfl) ?_)
                    | (at_builtin; refine wpList_append_flat _ (by rfl) (.tmp 101) (.tmp 109) 27 (by rfl) w.heap.size 51 i0 _ 4 40 Try.underlying27 HI.out HZ0.out HZ1.out HZ2.out (by rfl) (by omega) u5 acc.length (acc.flatMap Tok.cells) (by rfl) OW.out (fun _ => True) _ 1 1 (tokOf 2 b r a).cells (by rfl) FL.out (by unfold maxLen; omega) (by omega) (Below.size LW.out) ?_; intro v5 w5 o5 g5))
                  refine ⟨⟨p, acc ++ [tokOf 2 b r a], rfl, TN2.out.1, by have := HPE.out; simp; omega, by simpa using TN2.out.2, ?_, Below.trans LW.out (later_own OW.out (Below.size LW.out) g5)⟩, ?_⟩
                  · show World.ownsRow _ _ _ _ _ _ _
                    rw [List.length_append, List.flatMap_append]
                    simpa using o5
                  · have := HPE.out
                    simp [intOf]
                    omega
                · have hb2 : ¬ (1000000 : Int) < (n : Int) := by omega
                  have hv2 : (valF (b :: more 2 r) : Int) = (n : Int) := by have := HVN.out; omega
                  have HV2 := hide hv2
                  clear hv2
                  have TN2 := hide (HPE.out ▸ TN.out)
                  have hpe := HPE.out
                  have hex2 : s.extract a p = ⟨(b :: more 2 r).toArray⟩ := by
                    rw [extract_list, ← HL.out, HD.out, show p - a = m + 1 from by omega, List.take_succ_cons]
                    have e := List.take_left (l₁ := more 2 r) (l₂ := rest 2 r)
                    rw [more_rest, HM.out] at e
                    rw [e]
                  have hps : (p : Int) ≤ (s.size : Int) := by have := HLEN.out; omega
                  have hap' : (a : Int) ≤ (p : Int) := by omega
                  clear hpe
                  have FL : Hid (FlatAt (fun _ => True) (wr.alloc (.cells #[.int .i64 2, .string ⟨(b :: more 2 r).toArray⟩, .int .i64 (n : Int), .int .i64 (a : Int)] 51 (0, 0))) 4 (.slice (some ⟨wr.heap.size, 0, none⟩) 1 1) 1 (tokOf 2 b r a).cells) := by
                    have e : (tokOf 2 b r a).cells = [.int .i64 2, .string ⟨(b :: more 2 r).toArray⟩, .int .i64 ((n : Int)), .int .i64 (a : Int)] := by simp only [Tok.cells, tokOf, if_pos]; rw [← HV2.out]; rfl
                    rw [e]
                    exact flat_one wr 51 4 #[.int .i64 2, .string ⟨(b :: more 2 r).toArray⟩, .int .i64 (n : Int), .int .i64 (a : Int)] (by rfl) (by simp [Value.oneCell']) _ trivial
                  have OW : Hid ((wr.alloc (.cells #[.int .i64 2, .string ⟨(b :: more 2 r).toArray⟩, .int .i64 (n : Int), .int .i64 (a : Int)] 51 (0, 0))).ownsRow w.heap.size 51 4 u5 acc.length (acc.flatMap Tok.cells)) := World.ownsRow.alloc HR.out _
                  have LW : Hid (Below w.heap.size w (wr.alloc (.cells #[.int .i64 2, .string ⟨(b :: more 2 r).toArray⟩, .int .i64 (n : Int), .int .i64 (a : Int)] 51 (0, 0)))) := HLA.out.alloc (Below.size HLA.out) _
                  go_wp2_with (first
                    | (refine wpList_buildSlice_one (by rfl) 27 51 _ (by rfl) i0 _ 4 Try.underlying27 HI.out HZ0.out HZ1.out (by omega) (by omega) #[.int .i64 2, .string ⟨(b :: more 2 r).toArray⟩, .int .i64 (n : Int), .int .i64 (a : Int)] (by rfl) (by rfl) ?_)
                    | (at_builtin; refine wpList_append_flat _ (by rfl) (.tmp 101) (.tmp 109) 27 (by rfl) w.heap.size 51 i0 _ 4 40 Try.underlying27 HI.out HZ0.out HZ1.out HZ2.out (by rfl) (by omega) u5 acc.length (acc.flatMap Tok.cells) (by rfl) OW.out (fun _ => True) _ 1 1 (tokOf 2 b r a).cells (by rfl) FL.out (by unfold maxLen; omega) (by omega) (Below.size LW.out) ?_; intro v5 w5 o5 g5))
                  refine ⟨⟨p, acc ++ [tokOf 2 b r a], rfl, TN2.out.1, by have := HPE.out; simp; omega, by simpa using TN2.out.2, ?_, Below.trans LW.out (later_own OW.out (Below.size LW.out) g5)⟩, ?_⟩
                  · show World.ownsRow _ _ _ _ _ _ _
                    rw [List.length_append, List.flatMap_append]
                    simpa using o5
                  · have := HPE.out
                    simp [intOf]
                    omega
            · have hls2 : ¬ (p : Int) < (s.size : Int) := by have := HLEN.out; omega
              have HN := hide hn
              clear hn
              have hpe : p = a + (m + 1) := by
                have hle : (L.drop a).length ≤ p - a := by simp; omega
                have h1 := take_whole (f := goB 2) (by have := HA.out; rwa [List.take_of_length_le hle] at this)
                have h2 := HW.out
                have h3 : (L.drop a).length = L.length - a := by simp
                omega
              have HPE := hide hpe
              clear hpe
              have htk : (L.drop a).take (p - a) = b :: more 2 r := by
                rw [HD.out, show p - a = m + 1 from by have := HPE.out; omega, List.take_succ_cons]
                have e := List.take_left (l₁ := more 2 r) (l₂ := rest 2 r)
                rw [more_rest, HM.out] at e
                rw [e]
              have hvn : (valF (b :: more 2 r)) = min n 1000000 := by rw [valF_ref, HN.out, htk]
              clear htk
              have hn2 : n ≤ 20000000 := by rw [HN.out]; exact foldRef_le _ _ (by omega)
              have HVN := hide hvn
              clear hvn
              by_cases hbig2 : 1000000 < n
              · have hb2 : (1000000 : Int) < (n : Int) := by omega
                have hv2 : (valF (b :: more 2 r) : Int) = (1000000 : Int) := by have := HVN.out; omega
                have HV2 := hide hv2
                clear hv2
                have TN2 := hide (HPE.out ▸ TN.out)
                have hpe := HPE.out
                have hex2 : s.extract a p = ⟨(b :: more 2 r).toArray⟩ := by
                  rw [extract_list, ← HL.out, HD.out, show p - a = m + 1 from by omega, List.take_succ_cons]
                  have e := List.take_left (l₁ := more 2 r) (l₂ := rest 2 r)
                  rw [more_rest, HM.out] at e
                  rw [e]
                have hps : (p : Int) ≤ (s.size : Int) := by have := HLEN.out; omega
                have hap' : (a : Int) ≤ (p : Int) := by omega
                clear hpe
                have FL : Hid (FlatAt (fun _ => True) (wr.alloc (.cells #[.int .i64 2, .string ⟨(b :: more 2 r).toArray⟩, .int .i64 (1000000 : Int), .int .i64 (a : Int)] 51 (0, 0))) 4 (.slice (some ⟨wr.heap.size, 0, none⟩) 1 1) 1 (tokOf 2 b r a).cells) := by
                  have e : (tokOf 2 b r a).cells = [.int .i64 2, .string ⟨(b :: more 2 r).toArray⟩, .int .i64 ((1000000 : Int)), .int .i64 (a : Int)] := by simp only [Tok.cells, tokOf, if_pos]; rw [← HV2.out]; rfl
                  rw [e]
                  exact flat_one wr 51 4 #[.int .i64 2, .string ⟨(b :: more 2 r).toArray⟩, .int .i64 (1000000 : Int), .int .i64 (a : Int)] (by rfl) (by simp [Value.oneCell']) _ trivial
                have OW : Hid ((wr.alloc (.cells #[.int .i64 2, .string ⟨(b :: more 2 r).toArray⟩, .int .i64 (1000000 : Int), .int .i64 (a : Int)] 51 (0, 0))).ownsRow w.heap.size 51 4 u5 acc.length (acc.flatMap Tok.cells)) := World.ownsRow.alloc HR.out _
                have LW : Hid (Below w.heap.size w (wr.alloc (.cells #[.int .i64 2, .string ⟨(b :: more 2 r).toArray⟩, .int .i64 (1000000 : Int), .int .i64 (a : Int)] 51 (0, 0)))) := HLA.out.alloc (Below.size HLA.out) _
                go_wp2_with (first
                  | (refine wpList_buildSlice_one (by rfl) 27 51 _ (by rfl) i0 _ 4 Try.underlying27 HI.out HZ0.out HZ1.out (by omega) (by omega) #[.int .i64 2, .string ⟨(b :: more 2 r).toArray⟩, .int .i64 (1000000 : Int), .int .i64 (a : Int)] (by rfl) (by rfl) ?_)
                  | (at_builtin; refine wpList_append_flat _ (by rfl) (.tmp 101) (.tmp 109) 27 (by rfl) w.heap.size 51 i0 _ 4 40 Try.underlying27 HI.out HZ0.out HZ1.out HZ2.out (by rfl) (by omega) u5 acc.length (acc.flatMap Tok.cells) (by rfl) OW.out (fun _ => True) _ 1 1 (tokOf 2 b r a).cells (by rfl) FL.out (by unfold maxLen; omega) (by omega) (Below.size LW.out) ?_; intro v5 w5 o5 g5))
                refine ⟨⟨p, acc ++ [tokOf 2 b r a], rfl, TN2.out.1, by have := HPE.out; simp; omega, by simpa using TN2.out.2, ?_, Below.trans LW.out (later_own OW.out (Below.size LW.out) g5)⟩, ?_⟩
                · show World.ownsRow _ _ _ _ _ _ _
                  rw [List.length_append, List.flatMap_append]
                  simpa using o5
                · have := HPE.out
                  simp [intOf]
                  omega
              · have hb2 : ¬ (1000000 : Int) < (n : Int) := by omega
                have hv2 : (valF (b :: more 2 r) : Int) = (n : Int) := by have := HVN.out; omega
                have HV2 := hide hv2
                clear hv2
                have TN2 := hide (HPE.out ▸ TN.out)
                have hpe := HPE.out
                have hex2 : s.extract a p = ⟨(b :: more 2 r).toArray⟩ := by
                  rw [extract_list, ← HL.out, HD.out, show p - a = m + 1 from by omega, List.take_succ_cons]
                  have e := List.take_left (l₁ := more 2 r) (l₂ := rest 2 r)
                  rw [more_rest, HM.out] at e
                  rw [e]
                have hps : (p : Int) ≤ (s.size : Int) := by have := HLEN.out; omega
                have hap' : (a : Int) ≤ (p : Int) := by omega
                clear hpe
                have FL : Hid (FlatAt (fun _ => True) (wr.alloc (.cells #[.int .i64 2, .string ⟨(b :: more 2 r).toArray⟩, .int .i64 (n : Int), .int .i64 (a : Int)] 51 (0, 0))) 4 (.slice (some ⟨wr.heap.size, 0, none⟩) 1 1) 1 (tokOf 2 b r a).cells) := by
                  have e : (tokOf 2 b r a).cells = [.int .i64 2, .string ⟨(b :: more 2 r).toArray⟩, .int .i64 ((n : Int)), .int .i64 (a : Int)] := by simp only [Tok.cells, tokOf, if_pos]; rw [← HV2.out]; rfl
                  rw [e]
                  exact flat_one wr 51 4 #[.int .i64 2, .string ⟨(b :: more 2 r).toArray⟩, .int .i64 (n : Int), .int .i64 (a : Int)] (by rfl) (by simp [Value.oneCell']) _ trivial
                have OW : Hid ((wr.alloc (.cells #[.int .i64 2, .string ⟨(b :: more 2 r).toArray⟩, .int .i64 (n : Int), .int .i64 (a : Int)] 51 (0, 0))).ownsRow w.heap.size 51 4 u5 acc.length (acc.flatMap Tok.cells)) := World.ownsRow.alloc HR.out _
                have LW : Hid (Below w.heap.size w (wr.alloc (.cells #[.int .i64 2, .string ⟨(b :: more 2 r).toArray⟩, .int .i64 (n : Int), .int .i64 (a : Int)] 51 (0, 0)))) := HLA.out.alloc (Below.size HLA.out) _
                go_wp2_with (first
                  | (refine wpList_buildSlice_one (by rfl) 27 51 _ (by rfl) i0 _ 4 Try.underlying27 HI.out HZ0.out HZ1.out (by omega) (by omega) #[.int .i64 2, .string ⟨(b :: more 2 r).toArray⟩, .int .i64 (n : Int), .int .i64 (a : Int)] (by rfl) (by rfl) ?_)
                  | (at_builtin; refine wpList_append_flat _ (by rfl) (.tmp 101) (.tmp 109) 27 (by rfl) w.heap.size 51 i0 _ 4 40 Try.underlying27 HI.out HZ0.out HZ1.out HZ2.out (by rfl) (by omega) u5 acc.length (acc.flatMap Tok.cells) (by rfl) OW.out (fun _ => True) _ 1 1 (tokOf 2 b r a).cells (by rfl) FL.out (by unfold maxLen; omega) (by omega) (Below.size LW.out) ?_; intro v5 w5 o5 g5))
                refine ⟨⟨p, acc ++ [tokOf 2 b r a], rfl, TN2.out.1, by have := HPE.out; simp; omega, by simpa using TN2.out.2, ?_, Below.trans LW.out (later_own OW.out (Below.size LW.out) g5)⟩, ?_⟩
                · show World.ownsRow _ _ _ _ _ _ _
                  rw [List.length_append, List.flatMap_append]
                  simpa using o5
                · have := HPE.out
                  simp [intOf]
                  omega
        · obtain ⟨t1, t2, t3, t4, t5, t6, t7⟩ := kind_3 x hx256 hkk
          rw [t5] at CS
          rw [t6] at CD
          have e1 : ((x : Int) == 32) = false := (ibeq x 32).trans t1
          have e2 : ((x : Int) == 9) = false := (ibeq x 9).trans t2
          have e3 : ((x : Int) == 10) = false := (ibeq x 10).trans t3
          have e4 : ((x : Int) == 35) = false := (ibeq x 35).trans t4
          obtain ⟨m, hm⟩ : ∃ m, (more 3 r).length = m := ⟨_, rfl⟩
          have hm0 : m = 0 := by rw [← hm]; cases r <;> simp [more, goB]
          have TN := hide (thing_next HD.out HK.out (by omega) hm HTO.out)
          have HM := hide hm
          obtain ⟨p, hpe⟩ : ∃ p, p = a + (m + 1) := ⟨_, rfl⟩
          have HPE := hide hpe
          have hwp : IntKind.i64.wrap ((a : Int) + 1) = (p : Int) := by rw [wrap_small _ (by omega) (by omega)]; omega
          have hlt2 : p ≤ L.length := by rw [hpe]; exact TN.out.1
          have hap : a ≤ p := by omega
          clear hpe hm0 hm hkk t1 t2 t3 t4 t5 t6
          rcases t7 with rfl | rfl | rfl <;> (
            go_wp2_with (fail)
            refine CS.out.mono ?_
            rintro e w1 ⟨rfl, hq1⟩
            obtain rfl := hq1.symm
            go_wp2_with (fail)
            refine CD.out.mono ?_
            rintro e w1 ⟨rfl, hq1⟩
            obtain rfl := hq1.symm
            have TN2 := hide (HPE.out ▸ TN.out)
            have hpe := HPE.out
            have hex2 : s.extract a p = ⟨(b :: more 3 r).toArray⟩ := by
              rw [extract_list, ← HL.out, HD.out, show p - a = m + 1 from by omega, List.take_succ_cons]
              have e := List.take_left (l₁ := more 3 r) (l₂ := rest 3 r)
              rw [more_rest, HM.out] at e
              rw [e]
            have hps : (p : Int) ≤ (s.size : Int) := by have := HLEN.out; omega
            have hap' : (a : Int) ≤ (p : Int) := by omega
            clear hpe
            have FL : Hid (FlatAt (fun _ => True) (wr.alloc (.cells #[.int .i64 3, .string ⟨(b :: more 3 r).toArray⟩, .int .i64 0, .int .i64 (a : Int)] 51 (0, 0))) 4 (.slice (some ⟨wr.heap.size, 0, none⟩) 1 1) 1 (tokOf 3 b r a).cells) := flat_one wr 51 4 #[.int .i64 3, .string ⟨(b :: more 3 r).toArray⟩, .int .i64 0, .int .i64 (a : Int)] (by rfl) (by simp [Value.oneCell']) _ trivial
            have OW : Hid ((wr.alloc (.cells #[.int .i64 3, .string ⟨(b :: more 3 r).toArray⟩, .int .i64 0, .int .i64 (a : Int)] 51 (0, 0))).ownsRow w.heap.size 51 4 u5 acc.length (acc.flatMap Tok.cells)) := World.ownsRow.alloc HR.out _
            have LW : Hid (Below w.heap.size w (wr.alloc (.cells #[.int .i64 3, .string ⟨(b :: more 3 r).toArray⟩, .int .i64 0, .int .i64 (a : Int)] 51 (0, 0)))) := HLA.out.alloc (Below.size HLA.out) _
            have HWP := hide hwp
            go_wp2_with (first
              | (refine wpList_buildSlice_one (by rfl) 27 51 _ (by rfl) i0 _ 4 Try.underlying27 HI.out HZ0.out HZ1.out (by omega) (by omega) #[.int .i64 3, .string ⟨(b :: more 3 r).toArray⟩, .int .i64 0, .int .i64 (a : Int)] (by rfl) (by rfl) ?_)
              | (at_builtin; refine wpList_append_flat _ (by rfl) (.tmp 124) (.tmp 131) 27 (by rfl) w.heap.size 51 i0 _ 4 40 Try.underlying27 HI.out HZ0.out HZ1.out HZ2.out (by rfl) (by omega) u5 acc.length (acc.flatMap Tok.cells) (by rfl) OW.out (fun _ => True) _ 1 1 (tokOf 3 b r a).cells (by rfl) FL.out (by unfold maxLen; omega) (by omega) (Below.size LW.out) ?_; intro v5 w5 o5 g5))
            refine ⟨⟨p, acc ++ [tokOf 3 b r a], rfl, TN2.out.1, by have := HPE.out; simp; omega, by simpa using TN2.out.2, ?_, Below.trans LW.out (later_own OW.out (Below.size LW.out) g5)⟩, ?_⟩
            · show World.ownsRow _ _ _ _ _ _ _
              rw [List.length_append, List.flatMap_append]
              simpa using o5
            · have := HPE.out
              simp [intOf]
              omega)
        · rcases kind_4 x hx256 hkk with rfl | rfl | rfl <;> (
            have hm : (more 4 r).length = 0 := by cases r <;> simp [more, goB]
            have TN := hide (thing_next HD.out HK.out (by omega) hm HTO.out)
            clear hm hkk
            go_wp2_with (fail)
            go_roundw
            case rel => exact ⟨a + 1, acc, by go_num, TN.out.1, by omega, by simpa using TN.out.2, HR.out, HLA.out⟩
            case measure => simp [intOf]; omega)
        · have h35 := kind_5 x hx256 hkk
          have e1 : ((x : Int) == 32) = false := by rw [beq_eq_false_iff_ne]; omega
          have e2 : ((x : Int) == 9) = false := by rw [beq_eq_false_iff_ne]; omega
          have e3 : ((x : Int) == 10) = false := by rw [beq_eq_false_iff_ne]; omega
          have e4 : ((x : Int) == 35) = true := by rw [beq_iff_eq]; omega
          obtain ⟨m, hm⟩ : ∃ m, (more 5 r).length = m := ⟨_, rfl⟩
          have TN := hide (thing_next HD.out HK.out (by omega) hm HTO.out)
          have hgo : goB 5 x = true := by rw [h35]; decide
          clear h35
          have hw : (List.takeWhile (fun c => goB 5 c.toNat) (L.drop a)).length = m + 1 := by rw [HD.out, take_cons r (by rw [HX.out]; exact hgo), hm]
          have HW := hide hw
          clear hm hkk hw hgo
          go_wp2_with (fail)
          clear hix
          go_loopw [6] (fun v6 wr' => wr' = wr ∧ ∃ p : Nat, v6 = .int .i64 (p : Int) ∧ a ≤ p ∧ p ≤ L.length ∧ (∀ c ∈ (L.drop a).take (p - a), goB 5 c.toNat = true)) (fun v6 _ => L.length - (intOf v6).toNat)
          case atStart => exact ⟨rfl, a, rfl, Nat.le_refl _, by omega, by simp⟩
          case round =>
            obtain ⟨rfl, p, rfl, hap, hpl, hall⟩ := hrel
            have HA := hide hall
            clear hall
            by_cases hlt2 : p < L.length
            · obtain ⟨c, hc⟩ : ∃ c, L[p]? = some c := ⟨_, List.getElem?_eq_getElem hlt2⟩
              have hls2 : (p : Int) < (s.size : Int) := by have := HLEN.out; omega
              have hix2 := idx_at s p c (by have := HLEN.out; omega) (by rw [← HL.out]; exact hc)
              have hcd : (L.drop a)[p - a]? = some c := by rw [List.getElem?_drop, show a + (p - a) = p from by omega]; exact hc
              have HC := hide hcd
              obtain ⟨y, hy⟩ : ∃ y, c.toNat = y := ⟨_, rfl⟩
              rw [hy] at hix2
              have HY := hide hy
              have hy256 : y < 256 := by rw [← hy]; exact c.toNat_lt
              clear hc hcd hy
              cases hg : goB 5 y with
              | true =>
                have h10 : ((y : Int) == 10) = false := by
                  simp only [goB] at hg
                  rw [beq_eq_false_iff_ne]
                  have : (y != 10) = true := by simpa using hg
                  have : y ≠ 10 := by simpa using this
                  omega
                have h10' : ((y : Int) != 10) = true := by rw [bne, h10]; rfl
                have HG := hide hg
                clear hg
                go_wp2_with (fail)
                go_roundw
                case rel =>
                  refine ⟨trivial, p + 1, by go_num, by omega, by omega, ?_⟩
                  intro z hz
                  rw [show p + 1 - a = (p - a) + 1 from by omega, List.take_add_one, HC.out] at hz
                  simp only [Option.toList_some, List.mem_append, List.mem_singleton] at hz
                  rcases hz with hz | rfl
                  · exact HA.out z hz
                  · rw [HY.out]; exact HG.out
                case measure => simp [intOf]; omega
              | false =>
                have hpe : p = a + (m + 1) := by
                  have h1 := take_end (f := goB 5) HA.out HC.out (by rw [HY.out]; exact hg)
                  have h2 := HW.out
                  omega
                have HPE := hide hpe
                clear hpe
                have h10 : ((y : Int) == 10) = true := by
                  simp only [goB] at hg
                  rw [beq_iff_eq]
                  have : (y != 10) = false := by simpa using hg
                  have : y = 10 := by simpa using this
                  omega
                have h10' : ((y : Int) != 10) = false := by rw [bne, h10]; rfl
                have TN2 := hide (HPE.out ▸ TN.out)
                go_wp2_with (fail)
                refine ⟨⟨p, acc, rfl, TN2.out.1, by have := HPE.out; omega, by simpa using TN2.out.2, HR.out, HLA.out⟩, ?_⟩
                have := HPE.out
                simp [intOf]
                omega
            · have hls2 : ¬ (p : Int) < (s.size : Int) := by have := HLEN.out; omega
              have hpe : p = a + (m + 1) := by
                have hle : (L.drop a).length ≤ p - a := by simp; omega
                have h1 := take_whole (f := goB 5) (by have := HA.out; rwa [List.take_of_length_le hle] at this)
                have h2 := HW.out
                have h3 : (L.drop a).length = L.length - a := by simp
                omega
              have HPE := hide hpe
              clear hpe
              have TN2 := hide (HPE.out ▸ TN.out)
              go_wp2_with (fail)
              refine ⟨⟨p, acc, rfl, TN2.out.1, by have := HPE.out; omega, by simpa using TN2.out.2, HR.out, HLA.out⟩, ?_⟩
              have := HPE.out
              simp [intOf]
              omega
      · have hls : ¬ (a : Int) < (s.size : Int) := by have := HLEN.out; omega
        go_wp2_with (fail)
        go_ret3
        have hae : a = L.length := by omega
        have hto := HTO.out
        rw [hae, List.drop_length, toks_nil] at hto
        have e : answer L = (acc, 0, 0) := by
          unfold answer
          rw [if_neg (by omega), ← hto]
          simp [ahead]
        unfold RTold
        rw [e]
        exact ⟨_, rfl, HR.out, HLA.out⟩
end
end Go.Proofs.Ytjnpclpjdlimaaa
/- The Builder of the library: its contracts at this program. -/
namespace Go.Proofs.Ytjnpclpjdlimaaa
open Go.RowKit

def bren : Go.Shelf.Ren := ⟨fun | 240 => 37 | 276 => 46 | 167 => 27 | 166 => 28 | 169 => 29 | n => n, fun | 0 => 0 | 3 => 3 | 4 => 4 | 5 => 5 | 9 => 9 | 20 => 20 | 37 => 54 | 70 => 53 | 72 => 56 | 75 => 58 | 80 => 62 | 164 => 73 | 127 => 68 | n => n, fun n => n⟩
theorem bl167 : Go.Proofs.Lays.n167 Try.prog bren := {
  mixed := by kernel_rfl
  f167 := Try.func27.trans (congrArg some (by kernel_rfl))
  f240 := Try.func37.trans (congrArg some (by kernel_rfl))
  f276 := Try.func46.trans (congrArg some (by kernel_rfl))
  t0 := Try.underlying0
  a0 := Try.isAgg0
  z0 := Try.sizeOf0
  v0 := Try.zeroValue0
  t4 := Try.underlying4
  a4 := Try.isAgg4
  z4 := Try.sizeOf4
  v4 := Try.zeroValue4
  t5 := Try.underlying5
  a5 := Try.isAgg5
  z5 := Try.sizeOf5
  v5 := Try.zeroValue5
  t9 := Try.underlying9
  a9 := Try.isAgg9
  z9 := Try.sizeOf9
  v9 := Try.zeroValue9
  t20 := Try.underlying20
  a20 := Try.isAgg20
  z20 := Try.sizeOf20
  v20 := Try.zeroValue20
  t37 := Try.underlying54
  a37 := Try.isAgg54
  z37 := Try.sizeOf54
  v37 := Try.zeroValue54
  t70 := Try.underlying53
  a70 := Try.isAgg53
  z70 := Try.sizeOf53
  v70 := Try.zeroValue53
  t72 := Try.underlying56
  a72 := Try.isAgg56
  z72 := Try.sizeOf56
  v72 := Try.zeroValue56
  t75 := Try.underlying58
  a75 := Try.isAgg58
  z75 := Try.sizeOf58
  v75 := Try.zeroValue58
  t164 := Try.underlying73
  a164 := Try.isAgg73
  z164 := Try.sizeOf73
  v164 := Try.zeroValue73 }
theorem bl166 : Go.Proofs.Lays.n166 Try.prog bren := {
  mixed := by kernel_rfl
  f166 := Try.func28.trans (congrArg some (by kernel_rfl))
  f240 := Try.func37.trans (congrArg some (by kernel_rfl))
  f276 := Try.func46.trans (congrArg some (by kernel_rfl))
  t0 := Try.underlying0
  a0 := Try.isAgg0
  z0 := Try.sizeOf0
  v0 := Try.zeroValue0
  t3 := Try.underlying3
  a3 := Try.isAgg3
  z3 := Try.sizeOf3
  v3 := Try.zeroValue3
  t4 := Try.underlying4
  a4 := Try.isAgg4
  z4 := Try.sizeOf4
  v4 := Try.zeroValue4
  t9 := Try.underlying9
  a9 := Try.isAgg9
  z9 := Try.sizeOf9
  v9 := Try.zeroValue9
  t20 := Try.underlying20
  a20 := Try.isAgg20
  z20 := Try.sizeOf20
  v20 := Try.zeroValue20
  t37 := Try.underlying54
  a37 := Try.isAgg54
  z37 := Try.sizeOf54
  v37 := Try.zeroValue54
  t70 := Try.underlying53
  a70 := Try.isAgg53
  z70 := Try.sizeOf53
  v70 := Try.zeroValue53
  t72 := Try.underlying56
  a72 := Try.isAgg56
  z72 := Try.sizeOf56
  v72 := Try.zeroValue56
  t75 := Try.underlying58
  a75 := Try.isAgg58
  z75 := Try.sizeOf58
  v75 := Try.zeroValue58
  t164 := Try.underlying73
  a164 := Try.isAgg73
  z164 := Try.sizeOf73
  v164 := Try.zeroValue73 }
theorem bl169 : Go.Proofs.Lays.n169 Try.prog bren := {
  mixed := by kernel_rfl
  f169 := Try.func29.trans (congrArg some (by kernel_rfl))
  t0 := Try.underlying0
  a0 := Try.isAgg0
  z0 := Try.sizeOf0
  v0 := Try.zeroValue0
  t3 := Try.underlying3
  a3 := Try.isAgg3
  z3 := Try.sizeOf3
  v3 := Try.zeroValue3
  t9 := Try.underlying9
  a9 := Try.isAgg9
  z9 := Try.sizeOf9
  v9 := Try.zeroValue9
  t37 := Try.underlying54
  a37 := Try.isAgg54
  z37 := Try.sizeOf54
  v37 := Try.zeroValue54
  t70 := Try.underlying53
  a70 := Try.isAgg53
  z70 := Try.sizeOf53
  v70 := Try.zeroValue53
  t72 := Try.underlying56
  a72 := Try.isAgg56
  z72 := Try.sizeOf56
  v72 := Try.zeroValue56
  t127 := Try.underlying68
  a127 := Try.isAgg68
  z127 := Try.sizeOf68
  v127 := Try.zeroValue68 }
theorem bextra : Builder.Extra Try.prog bren where
  sizeBuilder := by kernel_rfl
  liesBuilder := by kernel_rfl
  t5 := Try.underlying5
  a5 := Try.isAgg5
  z5 := Try.sizeOf5
  v5 := Try.zeroValue5
  infoByte := by kernel_rfl
  cellsByte := by kernel_rfl
  sizeByte := by kernel_rfl
  neB5 := by decide

/-- A builder in block b that holds these bytes. -/
def BAt (B b : Nat) (l : List UInt8) (w : World) : Prop := Lib.IsBuilderF 56 5 B b (Lib.byteCells l) w
theorem bwrite (B b : Nat) (l : List UInt8) (c : UInt8) (w : World) (h : BAt B b l w) (hl : l.length + 1 ≤ 140737488355328) (hB : B ≤ w.heap.size) :
    Calls Try.prog 27 #[.pointer (some ⟨b, 0, none⟩), .int .u8 (c.toNat : Int)] w fun e w' => e = .returned .nilIface ∧ BAt B b (l ++ [c]) w' ∧ Below B w w' ∧ Lib.OthersKept 5 (some b) w w' :=
  (Any.Builder_WriteByte_k bl167 bextra B b (Lib.byteCells l) c.toNat w h (by rw [Lib.byteCells_length]; exact hl) hB).mono fun _ _ ⟨h1, h2, h3, h4⟩ => ⟨h1, by unfold BAt; rw [Lib.byteCells_append]; exact Or.inr h2, h3, h4⟩
theorem bwrites (B b : Nat) (l : List UInt8) (s : ByteArray) (w : World) (h : BAt B b l w) (hl : l.length + s.size ≤ 140737488355328) (hB : B ≤ w.heap.size) :
    Calls Try.prog 28 #[.pointer (some ⟨b, 0, none⟩), .string s] w fun e w' => e = .returned (.tuple #[.int .i64 s.size, .nilIface]) ∧ BAt B b (l ++ s.data.toList) w' ∧ Below B w w' ∧ Lib.OthersKept 5 (some b) w w' :=
  (Any.Builder_WriteString_k bl166 bextra B b (Lib.byteCells l) s w h (by rw [Lib.byteCells_length]; exact hl) hB).mono fun _ _ ⟨h1, h2, h3, h4⟩ => ⟨h1, by unfold BAt; rw [Lib.byteCells_append]; exact Or.inr h2, h3, h4⟩
theorem bstring (B b : Nat) (l : List UInt8) (w : World) (h : BAt B b l w) (hB : B ≤ w.heap.size) :
    Calls Try.prog 29 #[.pointer (some ⟨b, 0, none⟩)] w fun e w' => e = .returned (.string ⟨l.toArray⟩) ∧ Below B w w' :=
  (Any.Builder_String_any_k bl169 bextra B b l w h hB).mono fun _ _ ⟨h1, _, h3, _⟩ => ⟨h1, h3⟩
end Go.Proofs.Ytjnpclpjdlimaaa
/- The text of tokens, by a Builder. -/
namespace Go.Proofs.Ytjnpclpjdlimaaa
open Go.RowKit

/-- Tokens in old memory. -/
def ToksAt (F : Nat → Prop) (w : World) (v : Value) (ts : List Tok) : Prop := FlatAt F w 4 v ts.length (ts.flatMap Tok.cells)
theorem TokRow.flat {base : Nat} {w : World} {v : Value} {ts : List Tok} (h : TokRow base w v ts) : ToksAt (base ≤ ·) w v ts := FlatAt.of_own h fun u hu => by
  obtain ⟨t, _, ht⟩ := List.mem_flatMap.1 hu
  exact t.one u ht
theorem ToksAt.kept {F : Nat → Prop} {w w' : World} {v : Value} {ts : List Tok} (h : ToksAt F w v ts) (hk : Kept F w w') : ToksAt F w' v ts := FlatAt.kept h hk
theorem ToksAt.later {F : Nat → Prop} {w w' : World} {v : Value} {ts : List Tok} (h : ToksAt F w v ts) (hl : Later w w') : ToksAt F w' v ts := FlatAt.kept h (Kept.of_below hl F)
theorem ToksAt.any {F : Nat → Prop} {w : World} {v : Value} {ts : List Tok} (h : ToksAt F w v ts) : ToksAt (fun _ => True) w v ts := FlatAt.mono h fun _ _ _ => trivial
theorem ToksAt.at_ {F : Nat → Prop} {w : World} {A : Option Addr} {n c : Nat} {ts : List Tok} (h : ToksAt F w (.slice A n c) ts) {i : Nat} (hi : i < n) :
    ∃ b off t, A = some ⟨b, off, none⟩ ∧ n ≤ c ∧ ts[i]? = some t ∧ F b ∧ b < w.heap.size ∧ w.rangeAt b (off + i * 4) t.cells := by
  have hn : n = ts.length := by obtain ⟨A', c', e, _⟩ := h.shape; injection e
  subst hn
  obtain ⟨b, off, c', hv, hc, hF, hb, hr⟩ := h.elem hi
  injection hv with e1 _ e3
  subst e1 e3
  have hp : ts[i]? = some ts[i] := List.getElem?_eq_getElem hi
  refine ⟨b, off, ts[i], rfl, hc, hp, hF, hb, ?_⟩
  rwa [flat_get Tok.cells 4 ts i ts[i] (fun _ _ => rfl) hp] at hr
theorem ToksAt.shape {F : Nat → Prop} {w : World} {v : Value} {ts : List Tok} (h : ToksAt F w v ts) : ∃ A c, v = .slice A ts.length c ∧ ts.length ≤ c ∧ c ≤ maxLen := by
  obtain ⟨A, c, e, h1, h2, _⟩ := FlatAt.shape h
  exact ⟨A, c, e, h1, h2⟩
theorem range4 {w : World} {b o : Nat} {t : Tok} (h : w.rangeAt b o t.cells) : w.cell? ⟨b, o, none⟩ = some (.int .i64 (t.k : Int)) ∧ w.cell? ⟨b, o + 1, none⟩ = some (.string ⟨t.s.toArray⟩) ∧ w.cell? ⟨b, o + 2, none⟩ = some (.int .i64 (t.n : Int)) ∧ w.cell? ⟨b, o + 3, none⟩ = some (.int .i64 (t.at_ : Int)) :=
  ⟨by simpa using h 0 _ rfl, by simpa using h 1 _ rfl, by simpa using h 2 _ rfl, by simpa using h 3 _ rfl⟩

theorem text_len_take (l : List Tok) (i : Nat) : (textF (l.take i)).length ≤ (textF l).length := by
  induction i with
  | zero => simp [textF]
  | succ i ih =>
    cases h : l[i]? with
    | none =>
      have hi : l.length ≤ i + 1 := by have := List.getElem?_eq_none_iff.1 h; omega
      rw [List.take_of_length_le hi]
      exact Nat.le_refl _
    | some t =>
      have hi : i + 1 ≤ l.length := by have := (List.getElem?_eq_some_iff.1 h).1; omega
      cases l with
      | nil => simp at hi
      | cons x r =>
        rw [List.take_succ_cons, textF_cons, textF_cons]
        have hsub : ((r.take i).flatMap (fun x => 32 :: x.s)).length ≤ (r.flatMap (fun x => 32 :: x.s)).length := by
          conv => rhs; rw [← List.take_append_drop i r, List.flatMap_append, List.length_append]
          omega
        simp only [List.length_append]
        omega

theorem builder_ne {W : World} {B b g : Nat} {l : List UInt8} {cs : Array Value} (h : BAt B b l W) (hg : W.heap[g]? = some (.cells cs 36 (0, 0))) : g ≠ b := by
  rintro rfl
  have h2 : ∃ p v, W.heap[g]? = some (.cells #[p, v] 56 (0, 0)) := by
    rcases h with ⟨_, v, hb, _⟩ | ⟨_, v, hb, _⟩
    · exact ⟨_, v, hb⟩
    · exact ⟨_, v, hb⟩
  obtain ⟨p, v, hb⟩ := h2
  rw [hg] at hb
  injection hb with hb
  injection hb with _ ht
  revert ht
  decide

section
variable {w : World}
set_option maxHeartbeats 4000000 in
set_option maxRecDepth 100000 in
theorem text_any {F : Nat → Prop} {A : Option Addr} {n cap : Nat} {ts : List Tok} (h : ToksAt F w (.slice A n cap) ts) (hn : n = ts.length) (hlen : (textF ts).length ≤ 100000) (hn2 : n ≤ 100000) :
    Calls Try.prog 15 #[.slice A n cap] w fun e w' => e = .returned (.string ⟨(textF ts).toArray⟩) ∧ Later w w' := by
  have H := hide h
  have HN := hide hn
  have HLN := hide hlen
  have hB := Lib.IsBuilderF.of (Lib.fresh_isBuilder 56 5 w)
  have HB0 : Hid (BAt w.heap.size w.heap.size [] (w.alloc (.cells #[.pointer none, .slice none 0 0] 56 (0, 0)))) := hB
  clear h hn hB hlen
  go_enter Try.func15, Try.ntmps15
  go_wp2_with (fail)
  go_loopw [8] (fun v wr => ∃ i : Nat, v = .int .i64 (i : Int) ∧ i ≤ n ∧ BAt w.heap.size w.heap.size (textF (ts.take i)) wr ∧ Below w.heap.size w wr) (fun v _ => n - (intOf v).toNat)
  case atStart => exact ⟨0, rfl, by omega, HB0.out, (Below.refl _ _).alloc (Nat.le_refl _) _⟩
  case round =>
    obtain ⟨i, rfl, hi, hb, hbel⟩ := hrel
    have HB := hide hb
    have HBL := hide hbel
    clear hb hbel
    by_cases hlt : i < n
    · obtain ⟨b, off, t, rfl, hnc, ht, _, hbl, hrow⟩ := (H.out.later HBL.out).at_ hlt
      obtain ⟨c0, c1, c2, c3⟩ := range4 hrow
      have HT := hide ht
      have htk := text_take ts i t ht
      have HTK := hide htk
      have hle := text_len_take ts (i + 1)
      have HLE := hide hle
      obtain ⟨W4, hW4⟩ : ∃ W4, W4 = wr.alloc (.cells #[.int .i64 (t.k : Int), .string ⟨t.s.toArray⟩, .int .i64 (t.n : Int), .int .i64 (t.at_ : Int)] 36 (0, 0)) := ⟨_, rfl⟩
      obtain ⟨g, hg⟩ : ∃ g, g = wr.heap.size := ⟨_, rfl⟩
      have X4 : Hid (W4.heap[g]? = some (.cells #[.int .i64 (t.k : Int), .string ⟨t.s.toArray⟩, .int .i64 (t.n : Int), .int .i64 (t.at_ : Int)] 36 (0, 0))) := by rw [hW4, hg]; exact heap_alloc_new _ _
      have B4 : Hid (BAt w.heap.size w.heap.size (textF (ts.take i)) W4) := by rw [hW4]; exact Lib.IsBuilderF.alloc HB.out _
      have L4 : Hid (Below w.heap.size w W4) := by rw [hW4]; exact HBL.out.alloc (Below.size HBL.out) _
      have HW4 := hide hW4.symm
      have HG := hide hg.symm
      clear hrow ht htk hle hW4 hg
      have hsz5 : ∀ l : List UInt8, (⟨l.toArray⟩ : ByteArray).size = l.length := fun l => by simp [ByteArray.size]
      have HTL := hide (show (textF (ts.take i)).length + 1 + t.s.length ≤ 300000 from by
        have h1 := text_len_take ts i
        have h2 := HLN.out
        have h3 := HLE.out
        have h4 := congrArg List.length HTK.out
        simp only [List.length_append] at h4
        omega)
      by_cases hi0 : 0 < i
      · have hi0' : (0 : Int) < (i : Int) := by omega
        have HTK2 := hide (HTK.out.trans (by rw [if_pos hi0]))
        go_wp2_with (fail)
        have hw4 := HW4.out
        have hg4 := HG.out
        simp only [hw4, hg4]
        clear hw4 hg4 c0 c1 c2 c3
        refine (bwrite w.heap.size w.heap.size (textF (ts.take i)) 32 W4 B4.out (by have := HTL.out; omega) (Below.size L4.out)).mono ?_
        rintro e w5 ⟨rfl, hb5, hl5, hk5⟩
        have B5 := hide hb5
        have L5 := hide (Below.trans L4.out hl5)
        have X5 := hide (hk5 g _ X4.out (fun e => by have e2 := Option.some.inj e; have := builder_ne B4.out X4.out; omega) (fun c fz e => by injection e with _ e2; revert e2; decide))
        clear hb5 hl5 hk5
        obtain ⟨d0, d1, d2, d3⟩ := cells4 X5.out
        go_wp2_with (fail)
        refine (bwrites w.heap.size w.heap.size (textF (ts.take i) ++ [32]) ⟨t.s.toArray⟩ w5 B5.out (by rw [hsz5]; simp only [List.length_append, List.length_cons, List.length_nil]; have := HTL.out; omega) (Below.size L5.out)).mono ?_
        rintro e w6 ⟨rfl, hb6, hl6, _⟩
        have B6 : Hid (BAt w.heap.size w.heap.size (textF (ts.take (i + 1))) w6) := by
          rw [HTK2.out]
          simpa [Hid] using hb6
        have L6 := hide (Below.trans L5.out hl6)
        clear hb6 hl6 d0 d1 d2 d3
        go_wp2_with (fail)
        go_roundw
        case rel => exact ⟨i + 1, by go_num, by omega, B6.out, L6.out⟩
        case measure => simp [intOf]; omega
      · have hi0' : ¬ (0 : Int) < (i : Int) := by omega
        have HTK2 := hide (HTK.out.trans (by rw [if_neg hi0]))
        go_wp2_with (fail)
        have hw4 := HW4.out
        have hg4 := HG.out
        simp only [hw4, hg4]
        clear hw4 hg4 c0 c1 c2 c3
        refine (bwrites w.heap.size w.heap.size (textF (ts.take i)) ⟨t.s.toArray⟩ W4 B4.out (by rw [hsz5]; have := HTL.out; omega) (Below.size L4.out)).mono ?_
        rintro e w6 ⟨rfl, hb6, hl6, _⟩
        have B6 : Hid (BAt w.heap.size w.heap.size (textF (ts.take (i + 1))) w6) := by
          rw [HTK2.out]
          simpa [Hid] using hb6
        have L6 := hide (Below.trans L4.out hl6)
        clear hb6 hl6
        go_wp2_with (fail)
        go_roundw
        case rel => exact ⟨i + 1, by go_num, by omega, B6.out, L6.out⟩
        case measure => simp [intOf]; omega
    · have hie : i = n := by omega
      subst hie
      have hft : textF (ts.take i) = textF ts := by rw [HN.out, List.take_length]
      have CS := hide (bstring w.heap.size w.heap.size (textF (ts.take i)) wr HB.out (Below.size HBL.out))
      rw [hft] at CS
      go_wp2_with (fail)
      refine CS.out.mono ?_
      rintro e w4 ⟨rfl, hl4⟩
      have HL4 := hide (Below.trans HBL.out hl4)
      go_wp2_with (fail)
      go_ret
      exact ⟨rfl, HL4.out⟩
end
end Go.Proofs.Ytjnpclpjdlimaaa
/- The document's examples; tokens in the document's form; which are the same; the document's text. -/
namespace Go.Proofs.Ytjnpclpjdlimaaa
open Go.RowKit

/-- The document's tokens in old memory. -/
def RToksAt (F : Nat → Prop) (w : World) (v : Value) (ts : List Tok) : Prop := FlatAt F w 4 v ts.length (ts.flatMap Tok.cells)
theorem RTokRow.flat {base : Nat} {w : World} {v : Value} {ts : List Tok} (h : RTokRow base w v ts) : RToksAt (base ≤ ·) w v ts := FlatAt.of_own h fun u hu => by
  obtain ⟨t, _, ht⟩ := List.mem_flatMap.1 hu
  exact t.one u ht

section
variable {w : World}
set_option maxHeartbeats 2000000 in
set_option maxRecDepth 100000 in
theorem plain_any {F : Nat → Prop} {A : Option Addr} {n cap : Nat} {ts : List Tok} (h : ToksAt F w (.slice A n cap) ts) (hn : n = ts.length) (hn2 : n ≤ 100000) :
    Calls Try.prog 12 #[.slice A n cap] w fun e w' => ∃ v, e = .returned v ∧ RTokRow w.heap.size w' v ts ∧ Later w w' := by
  have H := hide h
  have HN := hide hn
  have L0 := hide (Later.refl w)
  obtain ⟨i0, hi, hz0, hz1, hz2⟩ := info_parts info_rtok
  have HI := hide hi
  have HZ0 := hide hz0
  have HZ1 := hide hz1
  have HZ2 := hide hz2
  clear h hn hi hz0 hz1 hz2
  go_enter Try.func12, Try.ntmps12
  go_wp2_with (fail)
  go_loopw [3, 8] (fun v3 v8 wr => ∃ i : Nat, v8 = .int .i64 (i : Int) ∧ i ≤ n ∧ RTokRow w.heap.size wr v3 (ts.take i) ∧ Later w wr) (fun _ v8 _ => n - (intOf v8).toNat)
  case atStart => exact ⟨0, rfl, by omega, World.ownsRow_nil _ _ _ 4, L0.out⟩
  case round =>
    obtain ⟨i, rfl, hi, hrow, hlat⟩ := hrel
    have HR := hide hrow
    have HL := hide hlat
    clear hrow hlat
    by_cases hlt : i < n
    · obtain ⟨b, off, t, rfl, hnc, ht, _, hbl, hrw⟩ := (H.out.later HL.out).at_ hlt
      obtain ⟨c0, c1, c2, c3⟩ := range4 hrw
      have HT := hide ht
      have HTL := hide (show (ts.take i).length = i from by rw [List.length_take]; have := HN.out; omega)
      have OW0 : Hid (wr.ownsRow w.heap.size 51 4 u3 i ((ts.take i).flatMap Tok.cells)) := by
        have h1 : wr.ownsRow _ _ _ _ _ _ := HR.out
        rw [HTL.out] at h1
        exact h1
      have FL : Hid (FlatAt (fun _ => True) ((wr.alloc (.cells #[.int .i64 (t.k : Int), .string ⟨t.s.toArray⟩, .int .i64 (t.n : Int), .int .i64 (t.at_ : Int)] 36 (0, 0))).alloc (.cells #[.int .i64 (t.k : Int), .string ⟨t.s.toArray⟩, .int .i64 (t.n : Int), .int .i64 (t.at_ : Int)] 51 (0, 0))) 4 (.slice (some ⟨(wr.alloc (.cells #[.int .i64 (t.k : Int), .string ⟨t.s.toArray⟩, .int .i64 (t.n : Int), .int .i64 (t.at_ : Int)] 36 (0, 0))).heap.size, 0, none⟩) 1 1) 1 t.cells) :=
        flat_one (wr.alloc (.cells #[.int .i64 (t.k : Int), .string ⟨t.s.toArray⟩, .int .i64 (t.n : Int), .int .i64 (t.at_ : Int)] 36 (0, 0))) 51 4 #[.int .i64 (t.k : Int), .string ⟨t.s.toArray⟩, .int .i64 (t.n : Int), .int .i64 (t.at_ : Int)] (by rfl) (by simp [Value.oneCell']) (fun _ => True) trivial
      have OW : Hid (((wr.alloc (.cells #[.int .i64 (t.k : Int), .string ⟨t.s.toArray⟩, .int .i64 (t.n : Int), .int .i64 (t.at_ : Int)] 36 (0, 0))).alloc (.cells #[.int .i64 (t.k : Int), .string ⟨t.s.toArray⟩, .int .i64 (t.n : Int), .int .i64 (t.at_ : Int)] 51 (0, 0))).ownsRow w.heap.size 51 4 u3 i ((ts.take i).flatMap Tok.cells)) := (OW0.out.alloc _).alloc _
      have LW : Hid (Below w.heap.size w ((wr.alloc (.cells #[.int .i64 (t.k : Int), .string ⟨t.s.toArray⟩, .int .i64 (t.n : Int), .int .i64 (t.at_ : Int)] 36 (0, 0))).alloc (.cells #[.int .i64 (t.k : Int), .string ⟨t.s.toArray⟩, .int .i64 (t.n : Int), .int .i64 (t.at_ : Int)] 51 (0, 0)))) := (HL.out.alloc (Below.size HL.out) _).alloc (by have := Below.size HL.out; simp; omega) _
      clear hrw ht
      go_wp2_with (first
        | (refine wpList_buildSlice_one (by rfl) 27 51 _ (by rfl) i0 _ 4 Try.underlying27 HI.out HZ0.out HZ1.out (by omega) (by omega) #[.int .i64 (t.k : Int), .string ⟨t.s.toArray⟩, .int .i64 (t.n : Int), .int .i64 (t.at_ : Int)] (by rfl) (by rfl) ?_)
        | (at_builtin; refine wpList_append_flat _ (by rfl) (.tmp 12) (.tmp 14) 27 (by rfl) w.heap.size 51 i0 _ 4 40 Try.underlying27 HI.out HZ0.out HZ1.out HZ2.out (by rfl) (by omega) u3 i ((ts.take i).flatMap Tok.cells) (by rfl) OW.out (fun _ => True) _ 1 1 t.cells (by rfl) FL.out (by unfold maxLen; omega) (by omega) (by exact Below.size LW.out) ?_; intro v5 w5 o5 g5))
      have HR5 : Hid (RTokRow w.heap.size w5 v5 (ts.take (i + 1))) := by
        show World.ownsRow _ _ _ _ _ _ _
        rw [List.take_add_one, HT.out, List.length_append, List.flatMap_append, HTL.out]
        simpa using o5
      have HL5 : Hid (Below w.heap.size w w5) := Below.trans LW.out (later_own OW.out (Below.size LW.out) g5)
      clear o5 g5
      go_wp2_with (fail)
      go_roundw
      case rel => exact ⟨i + 1, by go_num, by omega, HR5.out, HL5.out⟩
      case measure => simp [intOf]; omega
    · have hie : i = n := by omega
      subst hie
      have HR2 : Hid (RTokRow w.heap.size wr u3 ts) := by
        have := HR.out
        rwa [HN.out, List.take_length] at this
      go_wp2_with (fail)
      go_ret
      exact ⟨_, rfl, HR2.out, HL.out⟩

theorem rrange4 {b o : Nat} {t : Tok} (h : w.rangeAt b o t.cells) : w.cell? ⟨b, o, none⟩ = some (.int .i64 (t.k : Int)) ∧ w.cell? ⟨b, o + 1, none⟩ = some (.string ⟨t.s.toArray⟩) ∧ w.cell? ⟨b, o + 2, none⟩ = some (.int .i64 (t.n : Int)) ∧ w.cell? ⟨b, o + 3, none⟩ = some (.int .i64 (t.at_ : Int)) := range4 h
theorem RToksAt.at_ {F : Nat → Prop} {A : Option Addr} {n c : Nat} {ts : List Tok} (h : RToksAt F w (.slice A n c) ts) {i : Nat} (hi : i < n) :
    ∃ b off t, A = some ⟨b, off, none⟩ ∧ n ≤ c ∧ ts[i]? = some t ∧ F b ∧ b < w.heap.size ∧ w.rangeAt b (off + i * 4) t.cells := ToksAt.at_ h hi
theorem RToksAt.kept {F : Nat → Prop} {w' : World} {v : Value} {ts : List Tok} (h : RToksAt F w v ts) (hk : Kept F w w') : RToksAt F w' v ts := FlatAt.kept h hk
theorem RToksAt.later {F : Nat → Prop} {w' : World} {v : Value} {ts : List Tok} (h : RToksAt F w v ts) (hl : Later w w') : RToksAt F w' v ts := FlatAt.kept h (Kept.of_below hl F)

/-- Are two lists of tokens the same (with their places, if that is asked for)? -/
def sameT (atp : Bool) (x y : Tok) : Bool := decide (x.k = y.k ∧ x.s = y.s ∧ x.n = y.n ∧ (atp = true → x.at_ = y.at_))
def sameL (atp : Bool) : List Tok → List Tok → Bool
  | [], [] => true
  | x :: a, y :: b => sameT atp x y && sameL atp a b
  | _, _ => false
theorem sameL_refl (atp : Bool) : ∀ l : List Tok, sameL atp l l = true
  | [] => rfl
  | x :: l => by simp [sameL, sameT, sameL_refl atp l]
theorem sameL_alike : ∀ {a b : List Tok}, Alike a b → sameL false a b = true
  | [], [], _ => rfl
  | [], y :: b, h => by simp [Alike] at h
  | x :: a, [], h => by simp [Alike] at h
  | x :: a, y :: b, h => by
    simp only [Alike, List.map_cons, List.cons.injEq, Prod.mk.injEq] at h
    simp only [sameL, sameT, Bool.and_eq_true, decide_eq_true_eq]
    exact ⟨⟨h.1.1, h.1.2.1, h.1.2.2, by simp⟩, sameL_alike h.2⟩
end
end Go.Proofs.Ytjnpclpjdlimaaa
/- Two lists of tokens that are the same. -/
namespace Go.Proofs.Ytjnpclpjdlimaaa
open Go.RowKit

theorem neq_tok (k n a : Int) (s : ByteArray) (w : World) : (binOp .neq 51 (.agg #[.int .i64 k, .string s, .int .i64 n, .int .i64 a]) (.agg #[.int .i64 k, .string s, .int .i64 n, .int .i64 a])).run Try.prog w = .ok (.bool false) w := by
  have u3 := Try.underlying3
  have u9 := Try.underlying9
  have hS : Try.prog.underlying 51 = some (.struct (Try.prog.fieldsOf 51)) := by kernel_rfl
  have hp : Try.prog.stoodInHeld 51 = false := by kernel_rfl
  rw [run_neq_struct, show (10000 : Nat) = 9999 + 1 from rfl, run_equalIn_struct w 9999 51 _ _ hS hp]
  simp only [Program.fieldsOf, Try.underlying51]
  go_simp

section
variable {w : World}
set_option maxHeartbeats 4000000 in
set_option maxRecDepth 100000 in
theorem same_any {F G : Nat → Prop} {A B : Option Addr} {n n2 c1 c2 : Nat} {xs ys : List Tok} (atp : Bool) (hx : RToksAt F w (.slice A n c1) xs) (hy : RToksAt G w (.slice B n2 c2) ys) (hn : n = xs.length) (hn2 : n2 = ys.length) (hs : sameL atp xs ys = true) (hb : n ≤ 100000) :
    Calls Try.prog 11 #[.slice A n c1, .slice B n2 c2, .bool atp] w fun e w' => e = .returned (.bool true) ∧ Later w w' := by
  have hsl : ∀ {a b : List Tok}, sameL atp a b = true → a.length = b.length ∧ ∀ (i : Nat) (x y : Tok), a[i]? = some x → b[i]? = some y → sameT atp x y = true := by
    intro a
    induction a with
    | nil => intro b h; cases b with
      | nil => exact ⟨rfl, fun i x y hx _ => by simp at hx⟩
      | cons y b => simp [sameL] at h
    | cons x a ih => intro b h; cases b with
      | nil => simp [sameL] at h
      | cons y b =>
        simp only [sameL, Bool.and_eq_true] at h
        obtain ⟨h1, h2⟩ := ih h.2
        refine ⟨by simp [h1], fun i u v hu hv => ?_⟩
        cases i with
        | zero =>
          simp at hu hv
          subst hu hv
          exact h.1
        | succ i => exact h2 i u v (by simpa using hu) (by simpa using hv)
  obtain ⟨hlen, hall⟩ := hsl hs
  have hnn : n = n2 := by omega
  subst hnn
  have HX := hide hx
  have HY := hide hy
  have HA := hide hall
  have HN := hide hn
  have L0 := hide (Later.refl w)
  clear hsl hx hy hall hs hn hn2 hlen
  go_enter Try.func11, Try.ntmps11
  go_wp2_with (fail)
  go_loopw [17] (fun v wr => ∃ i : Nat, v = .int .i64 (i : Int) ∧ i ≤ n ∧ Later w wr) (fun v _ => n - (intOf v).toNat)
  case atStart => exact ⟨0, rfl, by omega, L0.out⟩
  case round =>
    obtain ⟨i, rfl, hi, hlat⟩ := hrel
    have HL := hide hlat
    clear hlat
    by_cases hlt : i < n
    · obtain ⟨b, off, x, rfl, hnc, hxi, _, hbl, hrw⟩ := (HX.out.later HL.out).at_ hlt
      obtain ⟨b', off', y, rfl, hnc', hyi, _, hbl', hrw'⟩ := (HY.out.later HL.out).at_ hlt
      obtain ⟨c0, c1, c2, c3⟩ := rrange4 hrw
      obtain ⟨d0, d1, d2, d3⟩ := rrange4 hrw'
      have hsm := HA.out i x y hxi hyi
      simp only [sameT, decide_eq_true_eq] at hsm
      obtain ⟨e1, e2, e3, e4⟩ := hsm
      rw [← e1] at d0
      rw [← e2] at d1
      rw [← e3] at d2
      have HE := hide e4
      clear e1 e2 e3 e4 hrw hrw' hxi hyi
      have hne := fun (a : Int) (W : World) => neq_tok (x.k : Int) (x.n : Int) a ⟨x.s.toArray⟩ W
      have HL1 : ∀ (o1 o2 : Obj), Hid (Later w ((wr.alloc o1).alloc o2).drew) := fun o1 o2 => ((HL.out.alloc (Below.size HL.out) _).alloc (by have := Below.size HL.out; simp; omega) _).drew
      cases atp with
      | true =>
        have e5 : y.at_ = x.at_ := (HE.out rfl).symm
        rw [e5] at d3
        clear e5
        go_wp2_with (fail)
        go_region <;> (
          go_wp2_with (fail)
          exact ⟨⟨i + 1, rfl, by omega, (HL1 _ _).out⟩, by simp [intOf]; omega⟩)
      | false =>
        go_wp2_with (fail)
        go_region <;> (
          go_wp2_with (fail)
          exact ⟨⟨i + 1, rfl, by omega, (HL1 _ _).out⟩, by simp [intOf]; omega⟩)
    · have hie : i = n := by omega
      subst hie
      go_wp2_with (fail)
      go_ret
      exact ⟨rfl, HL.out⟩

theorem ans1 : answer [115, 97, 103, 97, 32, 97, 123, 125] = ([⟨1, [115, 97, 103, 97], 0, 0⟩, ⟨1, [97], 0, 5⟩, ⟨3, [123], 0, 6⟩, ⟨3, [125], 0, 7⟩], 0, 0) := by
  simp [answer, toks, kindB, smallB, digitB, signB, blankB, partB, goB, more, rest, tokOf, ahead]
theorem ans2 : answer [97, 32, 65] = ([], 2, 11) := by
  simp [answer, toks, kindB, smallB, digitB, signB, blankB, partB, goB, more, rest, ahead]
set_option maxHeartbeats 2000000 in
set_option maxRecDepth 100000 in
theorem lives_any : Calls Try.prog 8 #[] w fun e w' => e = .returned (.bool true) ∧ Later w w' := by
  have C1 := hide (tokens_any (w := w) ⟨#[115, 97, 103, 97, 32, 97, 123, 125]⟩ (by decide))
  go_enter Try.func8, Try.ntmps8
  go_wp2_with (fail)
  refine C1.out.mono ?_
  rintro e w1 ⟨v1, rfl, hr1, hl1⟩
  simp only [ans1] at hr1 ⊢
  have HR1 := hide hr1.flat
  have HL1 := hide hl1
  have C2 := hide (tokens_any (w := w1) ⟨#[97, 32, 65]⟩ (by decide))
  clear hr1 hl1 C1
  go_wp2_with (fail)
  refine C2.out.mono ?_
  rintro e w2 ⟨v2, rfl, hr2, hl2⟩
  simp only [ans2] at hr2 ⊢
  have HR2 := hide (HR1.out.later hl2)
  have HL2 := hide (HL1.out.trans hl2)
  clear hr2 hl2 C2
  obtain ⟨A, c, rfl, hc, _⟩ := HR2.out.shape
  obtain ⟨b, off, t, rfl, hnc, ht, _, hbl, hrw⟩ := HR2.out.at_ (i := 1) (by simp)
  simp at ht
  subst ht
  obtain ⟨c0, c1, c2, c3⟩ := range4 hrw
  simp only [List.length_cons, List.length_nil] at *
  go_wp2_with (fail)
  go_ret
  exact ⟨rfl, HL2.out⟩
end
end Go.Proofs.Ytjnpclpjdlimaaa
/- LexerBack: the text of a text's tokens has these tokens. -/
namespace Go.Proofs.Ytjnpclpjdlimaaa
open Go.RowKit

theorem answer_cases (L : List UInt8) : (400 < L.length ∧ answer L = ([], 0, 12)) ∨ (L.length ≤ 400 ∧ ∃ p, (toks L 0).2 = some p ∧ answer L = ([], p, 11)) ∨ (L.length ≤ 400 ∧ (toks L 0).2 = none ∧ answer L = ((toks L 0).1, 0, 0)) := by
  unfold answer
  by_cases h : 400 < L.length
  · exact .inl ⟨h, if_pos h⟩
  · right
    rw [if_neg h]
    cases hp : (toks L 0).2 with
    | some p => exact .inl ⟨by omega, p, rfl, rfl⟩
    | none => exact .inr ⟨by omega, rfl, rfl⟩
theorem toks_long (l : List UInt8) (a : Nat) : (toks l a).1.length ≤ l.length ∧ ((toks l a).1.flatMap (fun x => 32 :: x.s)).length ≤ 2 * l.length := by
  refine toks_ind (P := fun l a => (toks l a).1.length ≤ l.length ∧ ((toks l a).1.flatMap (fun x => 32 :: x.s)).length ≤ 2 * l.length) ?_ ?_ ?_ l.length l a (Nat.le_refl _)
  · intro a; simp [toks_nil]
  · intro b r a h; simp [toks_bad r a h]
  · intro b r a h ih
    have hl := rest_len (kindB b.toNat) r
    rw [toks_cons r a h]
    unfold ahead
    cases hp : (toks (rest (kindB b.toNat) r) (a + 1 + (more (kindB b.toNat) r).length)).2 with
    | some e => simp
    | none =>
      by_cases h3 : kindB b.toNat ≤ 3
      · simp only [h3, if_true, List.cons_append, List.nil_append, List.length_cons, List.flatMap_cons, List.length_append, tokOf]
        omega
      · simp only [h3, if_false, List.nil_append, List.length_cons]
        omega
theorem text_long (l : List Tok) : (textF l).length ≤ (l.flatMap (fun x => 32 :: x.s)).length := by
  cases l with
  | nil => simp [textF]
  | cons t r =>
    rw [textF_cons, List.flatMap_cons]
    simp only [List.length_append, List.length_cons]
    omega
theorem RTokRow.look {base : Nat} {w w' : World} {v : Value} {ts : List Tok} (h : RTokRow base w v ts) (hl : Later w w') : RToksAt (base ≤ ·) w' v ts := h.flat.later hl

section
variable {w : World}
set_option maxHeartbeats 4000000 in
set_option maxRecDepth 100000 in
theorem law_back (s : ByteArray) (hs : s.size ≤ 9223372036854775807) : Calls Try.prog 4 #[.string s] w fun e w' => e = .returned (.bool true) ∧ Later w w' := by
  have C1 := hide (tokens_any (w := w) s hs)
  have HSZ := hide hs
  obtain ⟨L, hL⟩ : ∃ L, L = s.data.toList := ⟨_, rfl⟩
  rw [← hL] at C1
  clear hL hs
  go_enter Try.func4, Try.ntmps4
  go_wp2_with (fail)
  refine C1.out.mono ?_
  rintro e w1 ⟨v1, rfl, hr1, hl1⟩
  have HL1 := hide hl1
  clear hl1 C1
  rcases answer_cases L with ⟨_, ha⟩ | ⟨_, p, _, ha⟩ | ⟨h400, hnone, ha⟩
  · simp only [ha] at hr1 ⊢
    obtain ⟨A, c, rfl, _, _⟩ := hr1.flat.shape
    have CL := hide (lives_any (w := w1))
    clear hr1 ha
    simp only [List.length_nil]
    go_wp2_with (fail)
    refine CL.out.mono ?_
    rintro e w2 ⟨rfl, hl2⟩
    go_wp2_with (fail)
    go_ret
    exact ⟨rfl, HL1.out.trans hl2⟩
  · simp only [ha] at hr1 ⊢
    obtain ⟨A, c, rfl, _, _⟩ := hr1.flat.shape
    have CL := hide (lives_any (w := w1))
    clear hr1 ha
    simp only [List.length_nil]
    go_wp2_with (fail)
    refine CL.out.mono ?_
    rintro e w2 ⟨rfl, hl2⟩
    go_wp2_with (fail)
    go_ret
    exact ⟨rfl, HL1.out.trans hl2⟩
  · simp only [ha] at hr1 ⊢
    obtain ⟨ts, hts⟩ : ∃ ts, (toks L 0).1 = ts := ⟨_, rfl⟩
    have hwf := toks_wf L 0
    have hlong := toks_long L 0
    rw [hts] at hr1 hwf hlong
    have htl := text_long ts
    have F1 := hide hr1.flat
    obtain ⟨A, c, rfl, hc, _⟩ := hr1.flat.shape
    have HWF := hide hwf
    obtain ⟨n, hn⟩ : ∃ n, n = ts.length := ⟨_, rfl⟩
    rw [← hn] at F1 hc ⊢
    have CT := hide (text_any (w := w1) F1.out hn (by omega) (by omega))
    have HN := hide hn
    have HLO := hide (show n ≤ 400 ∧ (textF ts).length ≤ 800 by omega)
    have hbk := back ts hwf
    obtain ⟨T, hT⟩ : ∃ T, textF ts = T := ⟨_, rfl⟩
    rw [hT] at CT hbk HLO
    have HBK := hide hbk
    have HT := hide hT
    clear hr1 ha hnone hts hwf hlong htl hc hn hbk hT
    go_wp2_with (fail)
    refine CT.out.mono ?_
    rintro e w2 ⟨rfl, hl2⟩
    have HL2 := hide (HL1.out.trans hl2)
    have F2 := hide (F1.out.later hl2)
    have hsz : (⟨T.toArray⟩ : ByteArray).size = T.length := by simp [ByteArray.size]
    clear hl2 CT F1
    by_cases hbig : 400 < T.length
    · have hb : (400 : Int) < ((⟨T.toArray⟩ : ByteArray).size : Int) := by omega
      have CL := hide (lives_any (w := w2))
      clear hsz
      go_wp2_with (fail)
      refine CL.out.mono ?_
      rintro e w3 ⟨rfl, hl3⟩
      go_wp2_with (fail)
      go_ret
      exact ⟨rfl, HL2.out.trans hl3⟩
    · have hb : ¬ (400 : Int) < ((⟨T.toArray⟩ : ByteArray).size : Int) := by omega
      have C2 := hide (tokens_any (w := w2) ⟨T.toArray⟩ (by omega))
      rw [show (⟨T.toArray⟩ : ByteArray).data.toList = T from by simp] at C2
      clear hsz
      have ha2 : answer T = ((toks T 0).1, 0, 0) := by
        unfold answer
        rw [if_neg hbig]
        have := HBK.out.1
        cases hp : (toks T 0).2 with
        | some p => rw [hp] at this; cases this
        | none => rfl
      go_wp2_with (fail)
      refine C2.out.mono ?_
      rintro e w3 ⟨v3, rfl, hr3, hl3⟩
      simp only [ha2] at hr3 ⊢
      obtain ⟨us, hus⟩ : ∃ us, (toks T 0).1 = us := ⟨_, rfl⟩
      have hlong := toks_long T 0
      rw [hus] at hr3 hlong
      have hal : Alike us ts := by rw [← hus]; exact HBK.out.2
      have HAL := hide hal
      have HTX := hide (alike_text hal)
      have F3 := hide hr3.flat
      obtain ⟨A3, c3, rfl, hc3, _⟩ := hr3.flat.shape
      obtain ⟨n3, hn3⟩ : ∃ n3, n3 = us.length := ⟨_, rfl⟩
      rw [← hn3] at F3 hc3 ⊢
      have HN3 := hide hn3
      have HLO3 := hide (show n3 ≤ 400 by omega)
      have HL3 := hide (HL2.out.trans hl3)
      have F23 := hide (F2.out.later hl3)
      have CP1 := hide (plain_any (w := w3) F23.out HN.out (by have := HLO.out; omega))
      clear hr3 hus hlong hal hl3 C2 ha2 hc3 hn3 hb hbig F2
      go_wp2_with (fail)
      refine CP1.out.mono ?_
      rintro e w4 ⟨v4, rfl, hr4, hl4⟩
      have G4 := hide hr4.flat
      obtain ⟨A4, c4, rfl, _, _⟩ := ToksAt.shape (F := fun i => w3.heap.size ≤ i) (w := w4) (v := v4) (ts := ts) G4.out
      rw [← HN.out] at G4 ⊢
      have F34 := hide (F3.out.later hl4)
      have HL4 := hide (HL3.out.trans hl4)
      have CP2 := hide (plain_any (w := w4) F34.out HN3.out (by have := HLO3.out; omega))
      clear hr4 hl4 CP1
      go_wp2_with (fail)
      refine CP2.out.mono ?_
      rintro e w5 ⟨v5, rfl, hr5, hl5⟩
      have G5 := hide hr5.flat
      obtain ⟨A5, c5, rfl, _, _⟩ := ToksAt.shape (F := fun i => w4.heap.size ≤ i) (w := w5) (v := v5) (ts := us) G5.out
      rw [← HN3.out] at G5 ⊢
      have G45 := hide (RToksAt.later G4.out hl5)
      have F35 := hide (F34.out.later hl5)
      have HL5 := hide (HL4.out.trans hl5)
      have CS := hide (same_any (w := w5) false G45.out G5.out HN.out HN3.out (sameL_alike (show Alike ts us from HAL.out.symm)) (by have := HLO.out; omega))
      clear hr5 hl5 CP2
      go_wp2_with (fail)
      refine CS.out.mono ?_
      rintro e w6 ⟨rfl, hl6⟩
      have F36 := hide (F35.out.later hl6)
      have HL6 := hide (HL5.out.trans hl6)
      have CT2 := hide (text_any (w := w6) F36.out HN3.out (by have := HTX.out; have := HT.out; have := HLO.out; rw [HTX.out, HT.out]; omega) (by have := HLO3.out; omega))
      rw [show textF us = T from HTX.out.trans HT.out] at CT2
      clear hl6 CS
      go_wp2_with (fail)
      refine CT2.out.mono ?_
      rintro e w7 ⟨rfl, hl7⟩
      have CL := hide (lives_any (w := w7))
      have HL7 := hide (HL6.out.trans hl7)
      have hee : ((⟨T.toArray⟩ : ByteArray).toList == (⟨T.toArray⟩ : ByteArray).toList) = true := by simp
      clear hl7 CT2
      go_wp2_with (fail)
      refine CL.out.mono ?_
      rintro e w8 ⟨rfl, hl8⟩
      go_wp2_with (fail)
      go_ret
      exact ⟨rfl, HL7.out.trans hl8⟩
end
end Go.Proofs.Ytjnpclpjdlimaaa
/- From what a row says of structs and slices of them that came in to what the walks are told of them. -/
namespace Go.Proofs.Ytjnpclpjdlimaaa
open Go.RowKit

def I64 (x : Int) : Prop := -9223372036854775808 ≤ x ∧ x < 9223372036854775808

/-- No string and no slice in the datum is too long. -/
def Sm {H : Type} (t : TypeId) (d : DataW H) : Prop := ∀ n ∈ d.weights Try.prog t, n ≤ reachBytes
theorem weights_mem_all {H : Type} {P : Program} {e : TypeId} {d : DataW H} : ∀ {l : List (DataW H)}, d ∈ l → ∀ n ∈ d.weights P e, n ∈ DataW.weightsAll P e l
  | [], h, _, _ => by cases h
  | y :: r, h, n, hn => by
    simp only [DataW.weightsAll, List.mem_append]
    rcases List.mem_cons.1 h with rfl | h
    · exact .inl hn
    · exact .inr (weights_mem_all h n hn)

section
variable {H : Type} {enc : TypeId × Value → H} {W : World}
/-- The reading of an argument. -/
abbrev Rd (enc : TypeId × Value → H) (W : World) (n : Nat) (t : TypeId) (cs : List Value) (x : DataW H × List MemPlace) : Prop := DataW.trod enc Try.prog W 0 (fun _ => true) true n t cs = some x

/-- A struct's fields. -/
theorem open_fields {t : TypeId} {fs : Array Field} {n : Nat} {cs : List Value} {x : DataW H × List MemPlace} (ht : Try.prog.underlying t = some (.struct fs)) (h : Rd enc W n t cs x) (hs : Sm t x.1) :
    ∃ m, cs.length = Try.prog.cellsOf t ∧ ∀ (i : Nat) (f : Field), fs[i]? = some f → ∃ y, Rd enc W m f.type ((cs.drop f.offset).take (Try.prog.cellsOf f.type)) y ∧ Sm f.type y.1 := by
  obtain ⟨xs, m, _, hx, hl, hxl, hf⟩ := DataW.trod_struct ht h
  refine ⟨m, hl, fun i f hi => ?_⟩
  have hil : i < xs.length := by rw [hxl]; exact (Array.getElem?_eq_some_iff.1 hi).1
  refine ⟨xs[i], (hf i f hi).trans (List.getElem?_eq_getElem hil), fun k hk => hs k ?_⟩
  rw [hx]
  simp only [DataW.weights, ht]
  exact DataW.weights_mem_each (j := i) (t := f.type) (d := xs[i].1) (by simp [hi]) (by simp [hil]) k hk
theorem open_int1 {t : TypeId} {n : Nat} {c : Value} {x : DataW H × List MemPlace} (ht : Try.prog.underlying t = some (.int .i64)) (h : Rd enc W n t [c] x) : ∃ a : Int, c = .int .i64 a ∧ I64 a := by
  obtain ⟨a, h0, _, w0⟩ := DataW.trod_int ht h
  have b0 := bounds_i64 w0
  simp only [List.cons.injEq, and_true] at h0
  exact ⟨a, h0, by unfold I64; omega⟩
theorem open_bool1 {t : TypeId} {n : Nat} {c : Value} {x : DataW H × List MemPlace} (ht : Try.prog.underlying t = some .bool) (h : Rd enc W n t [c] x) : ∃ a : Bool, c = .bool a := by
  obtain ⟨a, h0, _⟩ := DataW.trod_bool ht h
  simp only [List.cons.injEq, and_true] at h0
  exact ⟨a, h0⟩
theorem open_str1 {t : TypeId} {n : Nat} {c : Value} {x : DataW H × List MemPlace} (ht : Try.prog.underlying t = some .string) (h : Rd enc W n t [c] x) (hs : Sm t x.1) : ∃ s : ByteArray, c = .string s ∧ s.size ≤ 140737488355328 := by
  obtain ⟨s, h0, h1, _⟩ := DataW.trod_string ht h
  simp only [List.cons.injEq, and_true] at h0
  refine ⟨s, h0, ?_⟩
  have := hs s.data.toList.length (by rw [h1]; simp [DataW.weights])
  unfold reachBytes at this
  rw [Array.length_toList] at this
  show s.data.size ≤ _
  omega

/-- The elements of a slice. -/
theorem open_elems {α : Type} [Inhabited α] (cells : α → List Value) (good : α → Prop) {t e : TypeId} (k : Nat) (hk : 0 < k) (hck : ∀ y, (cells y).length = k) (ht : Try.prog.underlying t = some (.slice e)) (hc : Try.prog.cellsOf e = k)
    (hel : ∀ (n : Nat) (cs : List Value) (x : DataW H × List MemPlace), Rd enc W n e cs x → Sm e x.1 → ∃ y : α, cs = cells y ∧ good y) (hone : ∀ y, good y → ∀ u ∈ cells y, u.oneCell' = true)
    {n : Nat} {v : Value} {x : DataW H × List MemPlace} (h : Rd enc W n t [v] x) (hs : Sm t x.1) :
    ∃ ys : List α, FlatAt (· < W.heap.size) W k v ys.length (ys.flatMap cells) ∧ ∀ y ∈ ys, good y := by
  rcases Go.Deep.open_slice ht h with ⟨hcs, _⟩ | ⟨a, l, c, m, n', D, Pl, hcs, _, hl, hm, hmm, hx, hi⟩
  · obtain rfl : v = .slice none 0 0 := by simpa using hcs
    exact ⟨[], FlatAt.nil_ _ _ _, by simp⟩
  · obtain rfl : v = .slice (some a) l c := by simpa using hcs
    simp only [if_true] at hmm
    rw [hc] at hi
    obtain ⟨F, hF⟩ := Go.Deep.choose_lt (p := fun i (y : α) => (∀ j u, (cells y)[j]? = some u → W.cell? (a.add (i * k + j)) = some u) ∧ good y) fun i (hil : i < l) => by
      obtain ⟨cs', h1, h2⟩ := hi i (by omega)
      have hsm : Sm e (D i) := fun q hq => hs q (by
        rw [hx]
        simp only [DataW.weights, ht]
        exact List.mem_cons_of_mem _ (List.mem_append_left _ (weights_mem_all (List.mem_map.2 ⟨i, List.mem_range.2 hil, rfl⟩) q hq)))
      obtain ⟨y, hy, hg⟩ := hel n' cs' (D i, Pl i) h2 hsm
      obtain ⟨_, hlen, hat⟩ := World.cells?_some h1
      refine ⟨y, fun j u hu => ?_, hg⟩
      have hj : j < k := by rw [← hck y]; exact (List.getElem?_eq_some_iff.1 hu).1
      rw [← Go.Deep.add_add, hat j hj, hy, hu]
    refine ⟨(List.range l).map F, ⟨?_, ?_, some a, c, by simp, by simpa using hl, hm, (fun e => by cases e), fun hn => ?_⟩, fun y hy => ?_⟩
    · exact flat_len cells k _ (fun y _ => hck y)
    · intro u hu
      obtain ⟨y, hy, hu⟩ := List.mem_flatMap.1 hu
      obtain ⟨i, hi, rfl⟩ := List.mem_map.1 hy
      exact hone _ (hF i (List.mem_range.1 hi)).2 u hu
    · have hn' : 0 < l := by simpa using hn
      obtain ⟨b, off, spot⟩ := a
      have hk0 : (cells (F 0))[0]? = some ((cells (F 0))[0]'(by rw [hck]; exact hk)) := List.getElem?_eq_getElem (by rw [hck]; exact hk)
      have h0 := (hF 0 hn').1 0 _ hk0
      have hspot : spot = none := by simpa [Addr.add] using World.cell?_spot h0
      subst hspot
      have hblt : b < W.heap.size := World.block_lt_of_cell? W _ (by simpa [Addr.add] using h0)
      refine ⟨b, off, rfl, hblt, hblt, fun j u hj => ?_⟩
      have hjl : j < l * k := by
        have := (List.getElem?_eq_some_iff.1 hj).1
        rw [flat_len cells k _ (fun y _ => hck y)] at this
        simpa using this
      have hq : j / k < l := Nat.div_lt_of_lt_mul (by rwa [Nat.mul_comm])
      have hr : j % k < k := Nat.mod_lt _ hk
      have hj2 : j = j / k * k + j % k := by rw [Nat.mul_comm]; exact (Nat.div_add_mod j k).symm
      have hge := flat_get cells k ((List.range l).map F) (j / k) (F (j / k)) (fun y _ => hck y) (by simp [hq])
      have hu : (cells (F (j / k)))[j % k]? = some u := by
        rw [← hge, List.getElem?_take_of_lt hr, List.getElem?_drop, ← hj2, hj]
      have := (hF (j / k) hq).1 (j % k) u hu
      rwa [Addr.add_lit, ← hj2] at this
    · obtain ⟨i, hi, rfl⟩ := List.mem_map.1 hy
      exact (hF i (List.mem_range.1 hi)).2
/-- Arguments. -/
theorem sm_of {ts : List TypeId} {ds : List (DataW H)} (hsz : (DataW.weightsEach Try.prog ts ds).all (· ≤ reachBytes) = true) {j : Nat} {t : TypeId} {d : DataW H} (ht : ts[j]? = some t) (hd : ds[j]? = some d) : Sm t d := fun n hn => by
  have := List.all_eq_true.1 hsz n (DataW.weights_mem_each ht hd n hn)
  simpa using this
end
end Go.Proofs.Ytjnpclpjdlimaaa
/- The arguments of the laws: texts and numbers. -/
namespace Go.Proofs.Ytjnpclpjdlimaaa
open Go.RowKit
end Go.Proofs.Ytjnpclpjdlimaaa
