/- Put of package bag. -/
import Derived.Test.YtaimnhlpdkpobaaFind
import Derived.Deep.QuietTactic
import Derived.BigQuiet
namespace Go.Proofs.Ytaimnhlpdkpobaa
open Go.RowKit Go.Maps

theorem bag_size {F : Nat → Prop} {w : World} {g b : Nat} {most : Int} {last : Nat} {L : List Item} (h : BagAt F w g b most last L) (W : World) (hW : W.heap[b]? = w.heap[b]?) (ty : TypeId) :
    (Builtin.len_ #[70] ty #[.map (some b)]).run Try.prog W = .ok (.int .i64 (L.length : Int)) W := by
  have h1 : W.ownsMap Try.prog 3 heldR b last (mapD (L.map Item.pair)) := by
    obtain ⟨es, clock, hb, rest⟩ := h.map
    exact ⟨es, clock, hW.trans hb, rest⟩
  have := h1.len Try.underlying70 ty
  rw [size_mapD] at this
  simpa using this

set_option maxHeartbeats 1000000 in
set_option maxRecDepth 100000 in
theorem put_no (p : Value) (m : MsgD) (s o i : Value) (w : World) (h : NoBag w p) :
    Calls Try.prog 13 #[p, .agg (m.cells s o i).toArray] w fun e w' => e = .returned (.tuple #[.int .i64 0, .int .i64 1]) ∧ Below w.heap.size w w' := by
  have C := hide (fun w' (hb : Below w.heap.size w w') => made_no p w' (h.later hb))
  have hp : ∃ a, p = .pointer a := by rcases h with rfl | ⟨g, _, _, rfl, _⟩ <;> exact ⟨_, rfl⟩
  obtain ⟨a, rfl⟩ := hp
  clear h
  go_enter Try.func13, Try.ntmps13
  go_wp2_with (fail)
  refine (C.out _ ((Below.refl _ _).alloc (Nat.le_refl _) _)).mono ?_
  rintro e w1 ⟨rfl, rfl⟩
  go_wp2
  go_ret2
  exact ⟨rfl, (Below.refl _ _).alloc (Nat.le_refl _) _⟩

set_option maxHeartbeats 1000000 in
set_option maxRecDepth 100000 in
theorem put_full {F : Nat → Prop} {g b : Nat} {most : Int} {last : Nat} {L : List Item} (m : MsgD) (s o i : Value) (w : World) (h : BagAt F w g b most last L) (hf : most ≤ (L.length : Int)) :
    Calls Try.prog 13 #[.pointer (some ⟨g, 0, none⟩), .agg (m.cells s o i).toArray] w fun e w' => e = .returned (.tuple #[.int .i64 0, .int .i64 7]) ∧ Below w.heap.size w w' := by
  have C := hide (fun w' (hb : Below w.heap.size w w') => made_yes w' (h.later hb))
  obtain ⟨hg, hb⟩ := h.lt
  obtain ⟨c0, c1, c2, c3⟩ := h.cells
  have H := hide h
  clear h c2 c3
  go_enter Try.func13, Try.ntmps13
  go_wp2_with (fail)
  refine (C.out _ ((Below.refl _ _).alloc (Nat.le_refl _) _)).mono ?_
  rintro e w1 ⟨rfl, rfl⟩
  have hlen := fun (q : Nat) ty => bag_size H.out ((w.alloc (.cells (m.cells s o i).toArray 42 (0, 0))).drewN q) (heap_alloc_old _ _ hb) ty
  go_wp2
  go_quiet (fail)
  clear hlen
  go_wp2
  go_ret2
  exact ⟨rfl, ((Below.refl _ _).alloc (Nat.le_refl _) _).trans (below_drewN _ _ _)⟩

/-- What Put hands back where there is room. -/
def PutIn (F : Nat → Prop) (g b : Nat) (most : Int) (last : Nat) (L : List Item) (m : MsgD) (w : World) (e : Ending) (w' : World) : Prop :=
  ∃ v, e = .returned (.tuple #[.int .i64 ((last : Int) + 1), .int .i64 0]) ∧ BagAt F w' g b most (last + 1) (L ++ [⟨(last : Int) + 1, v, m⟩]) ∧ Turned (fun i => i = g ∨ i = b) w w'

theorem put_end {F : Nat → Prop} {g b : Nat} {most : Int} {last : Nat} {L : List Item} {m : MsgD} {w w2 w3 w4 : World} {v : Value} (h : BagAt F w g b most last L) (hm : m.ok) (hF : ∀ i, w.heap.size ≤ i → F i)
    (t2 : Turned (fun i => i = g) w w2) (c2 : w2.heap[g]? = some (.cells #[.map (some b), .int .i64 most, .int .i64 ((last : Int) + 1)] 72 (0, 0)))
    (hb : Below w2.heap.size w2 w3) (hv : MsgAt (w2.heap.size ≤ ·) w3 v m) (ho : w4.ownsMap Try.prog 3 heldR b (last + 1) (mapD (L.map Item.pair ++ [((last : Int) + 1, v)]))) (ht : w3.mapTurned w4 b) :
    BagAt F w4 g b most (last + 1) (L ++ [⟨(last : Int) + 1, v, m⟩]) ∧ Turned (fun i => i = g ∨ i = b) w w4 := by
  have T3 : Turned (fun i => i = g ∨ i = b) w w3 := (t2.mono fun i e => .inl e).trans (Turned.of_below hb _)
  have T34 : Turned (fun i => i = b) w3 w4 := Turned.of_grown ht.grown (fun g e => (Option.some.inj e).symm)
  have T4 := T3.trans (T34.mono fun i e => .inr e)
  have hgb := h.apart.1
  refine ⟨⟨?_, ?_, ?_, ?_, ?_, h.apart⟩, T4⟩
  · have hlt := lt_of_block c2
    rw [Int.natCast_add]
    exact (T34.block g (Nat.lt_of_lt_of_le hlt hb.size) hgb).trans ((hb.block g hlt).trans c2)
  · simpa [Item.pair] using ho
  · intro x hx
    rcases List.mem_append.1 hx with hx | hx
    · have := h.ids x hx
      omega
    · obtain rfl : x = ⟨(last : Int) + 1, v, m⟩ := by simpa using hx
      simp only
      omega
  · refine List.pairwise_append.2 ⟨h.rise, by simp, fun x hx y hy => ?_⟩
    obtain rfl : y = ⟨(last : Int) + 1, v, m⟩ := by simpa using hy
    have := h.ids x hx
    simp only
    omega
  · intro x hx
    rcases List.mem_append.1 hx with hx | hx
    · exact ⟨(h.msgs x hx).1.kept (T4.kept fun i hf e => e.elim (fun e => h.apart.2.1 (e ▸ hf)) (fun e => h.apart.2.2 (e ▸ hf))), (h.msgs x hx).2⟩
    · obtain rfl : x = ⟨(last : Int) + 1, v, m⟩ := by simpa using hx
      have hblt : b < w2.heap.size := Nat.lt_of_lt_of_le h.lt.2 t2.size
      exact ⟨(hv.kept (T34.kept fun i hf e => by subst e; exact absurd hf (by omega))).mono (fun i _ hi => hF i (Nat.le_trans t2.size hi)), hm⟩

set_option maxHeartbeats 2000000 in
set_option maxRecDepth 100000 in
theorem put_two {F G : Nat → Prop} {g b : Nat} {most : Int} {last : Nat} {L : List Item} (m : MsgD) (v : Value) (w : World) (h : BagAt F w g b most last L) (hf : (L.length : Int) < most) (hlast : last < 1000000)
    (hv : MsgAt G w v m) (hG : ¬ G g) (hm : m.ok) (hF : ∀ i, w.heap.size ≤ i → F i) :
    Calls Try.prog 13 #[.pointer (some ⟨g, 0, none⟩), v] w (PutIn F g b most last L m w) := by
  obtain ⟨s, o, i, rfl, hl⟩ := hv
  have C := hide (fun w' (hb : Below w.heap.size w w') => made_yes w' (h.later hb))
  obtain ⟨hg, hb⟩ := h.lt
  obtain ⟨c0, c1, c2, c3⟩ := h.cells
  have H := hide h
  have HL := hide hl
  have HM := hide hm
  have HF := hide hF
  clear h hl hm hF
  go_enter Try.func13, Try.ntmps13
  go_wp2_with (fail)
  refine (C.out _ ((Below.refl _ _).alloc (Nat.le_refl _) _)).mono ?_
  rintro e w1 ⟨rfl, rfl⟩
  have hlen := fun (q : Nat) ty => bag_size H.out ((w.alloc (.cells (m.cells s o i).toArray 42 (0, 0))).drewN q) (heap_alloc_old _ _ hb) ty
  go_wp2
  go_quiet (fail)
  clear hlen C
  go_wp2
  obtain ⟨w2, hw2⟩ : ∃ w2, w2 = ((w.alloc (.cells (m.cells s o i).toArray 42 (0, 0))).drewN nq).setCell ⟨g, 2, none⟩ (.int .i64 ((last : Int) + 1)) := ⟨_, rfl⟩
  have hc1 : (w.alloc (.cells (m.cells s o i).toArray 42 (0, 0))).heap[g]? = _ := (heap_alloc_old w _ hg).trans H.out.cell
  have T2 : Hid (Turned (fun i => i = g) w w2) := by
    rw [hw2]
    exact ((Turned.of_below ((Below.refl _ _).alloc (Nat.le_refl _) _) _).trans (Turned.drewN _ _ nq)).trans (Turned.of_grown (grown_set _ g 2 _) (fun j e => (Option.some.inj e).symm))
  have C2 : Hid (w2.heap[g]? = some (.cells #[.map (some b), .int .i64 most, .int .i64 ((last : Int) + 1)] 72 (0, 0))) := by
    rw [hw2]
    exact heap_setCell_same ((w.alloc (.cells (m.cells s o i).toArray 42 (0, 0))).drewN nq) g 2 _ _ _ hc1
  have X2 : Hid (w2.heap[w.heap.size]? = some (.cells (m.cells s o i).toArray 42 (0, 0))) := by
    rw [hw2]
    exact (heap_setCell_other _ _ _ _ (by show w.heap.size ≠ g; omega)).trans (heap_alloc_new w _)
  have M2 : Hid (w2.ownsMap Try.prog 3 heldR b last (mapD (L.map Item.pair))) := by
    obtain ⟨es, clock, hbm, rest⟩ := H.out.map
    exact ⟨es, clock, (T2.out.block b hb (fun e => H.out.apart.1 e.symm)).trans hbm, rest⟩
  have hlt2 := T2.out.size
  have C6 := hide (copy_any G m (.agg (m.cells s o i).toArray) w2.drew ⟨s, o, i, rfl, (HL.out.kept (T2.out.kept fun i hf e => hG (e ▸ hf))).kept (Kept.drew G w2)⟩ HM.out.1 (by have := HM.out.2; omega))
  have M3 : ∀ {w3 : World}, Below w2.heap.size w2 w3 → w3.ownsMap Try.prog 3 heldR b last (mapD (L.map Item.pair)) := fun {w3} hb3 => by
    obtain ⟨es, clock, hbm, rest⟩ := M2.out
    exact ⟨es, clock, (hb3.block b (lt_of_block hbm)).trans hbm, rest⟩
  have HIDS : Hid (∀ p ∈ L.map Item.pair, p.1 < (last : Int) + 1) := by
    intro p hp
    obtain ⟨x, hx, rfl⟩ := List.mem_map.1 hp
    have := (H.out.ids x hx).2
    simp only [Item.pair]
    omega
  rw [← hw2]
  clear hw2 hc1 c0 c1 c2 c3
  refine wp_region_R (R := fun a c => a.grownBy c (some b)) (by kernel_rfl) ?_
  refine wpAnyR_take (pre_grown (some b)) (i := 0) (d := some 26) (v := ?va0) rfl rfl (by kernel_rfl) (by kernel_rfl) (by kernel_rfl) (fun _ _ _ h => h) (by rfl) ?ya0 ?_
  case ya0 => (intro w' hw'; go_simp; try (with_reducible rfl))
  simp only [Act.put]; try simp only [List.setIfInBounds_toArray]; try simp only [List.set_cons_zero, List.set_cons_succ]
  refine wpAnyR_take (pre_grown (some b)) (i := 1) (d := some 27) (v := ?va1) rfl rfl (by kernel_rfl) (by kernel_rfl) (by kernel_rfl) (fun _ _ _ h => h) (by rfl) ?ya1 ?_
  case ya1 => (intro w' hw'; go_simp; try (with_reducible rfl))
  simp only [Act.put]; try simp only [List.setIfInBounds_toArray]; try simp only [List.set_cons_zero, List.set_cons_succ]
  refine wpAnyR_take (pre_grown (some b)) (i := 2) (d := some 28) (v := ?va2) rfl rfl (by kernel_rfl) (by kernel_rfl) (by kernel_rfl) (fun _ _ _ h => h) (by rfl) ?ya2 ?_
  case ya2 => (intro w' hw'; go_simp; try (with_reducible rfl))
  simp only [Act.put]; try simp only [List.setIfInBounds_toArray]; try simp only [List.set_cons_zero, List.set_cons_succ]
  refine wpAnyR_take (pre_grown (some b)) (i := 3) (d := some 29) (v := ?va3) rfl rfl (by kernel_rfl) (by kernel_rfl) (by kernel_rfl) (fun _ _ _ h => h) (by rfl) ?ya3 ?_
  case ya3 => (intro w' hw'; have hgc : w2.drew.grownBy w' (some b) := hw'; have hc : w'.heap[g]? = _ := (hgc.block g (by show g < w2.heap.size; omega) (fun e => H.out.apart.1 (Option.some.inj e))).trans C2.out; have hc0 := cell_of_row w' g 0 _ _ _ hc; have hc2 := cell_of_row w' g 2 _ _ _ hc; simp only [List.getElem?_toArray, List.getElem?_cons_zero, List.getElem?_cons_succ] at hc0 hc2; clear hc; go_simp; try (with_reducible rfl))
  simp only [Act.put]; try simp only [List.setIfInBounds_toArray]; try simp only [List.set_cons_zero, List.set_cons_succ]
  refine wpAnyR_take (pre_grown (some b)) (i := 4) (d := some 30) (v := ?va4) rfl rfl (by kernel_rfl) (by kernel_rfl) (by kernel_rfl) (fun _ _ _ h => h) (by rfl) ?ya4 ?_
  case ya4 => (intro w' hw'; go_simp; try (with_reducible rfl))
  simp only [Act.put]; try simp only [List.setIfInBounds_toArray]; try simp only [List.set_cons_zero, List.set_cons_succ]
  refine wpAnyR_take (pre_grown (some b)) (i := 5) (d := some 31) (v := ?va5) rfl rfl (by kernel_rfl) (by kernel_rfl) (by kernel_rfl) (fun _ _ _ h => h) (by rfl) ?ya5 ?_
  case ya5 => (intro w' hw'; go_simp; try (with_reducible rfl))
  simp only [Act.put]; try simp only [List.setIfInBounds_toArray]; try simp only [List.set_cons_zero, List.set_cons_succ]
  refine wpAnyR_take (pre_grown (some b)) (i := 6) (d := some 32) (v := ?va6) rfl rfl (by kernel_rfl) (by kernel_rfl) (by kernel_rfl) (fun _ _ _ h => h) (by rfl) ?ya6 ?_
  case ya6 => (intro w' hw'; go_simp; try (with_reducible rfl))
  simp only [Act.put]; try simp only [List.setIfInBounds_toArray]; try simp only [List.set_cons_zero, List.set_cons_succ]
  refine wpAnyR_take (pre_grown (some b)) (i := 7) (d := some 33) (v := ?va7) rfl rfl (by kernel_rfl) (by kernel_rfl) (by kernel_rfl) (fun _ _ _ h => h) (by rfl) ?ya7 ?_
  case ya7 => (intro w' hw'; have hgc : w2.drew.grownBy w' (some b) := hw'; have hc : w'.heap[g]? = _ := (hgc.block g (by show g < w2.heap.size; omega) (fun e => H.out.apart.1 (Option.some.inj e))).trans C2.out; have hc0 := cell_of_row w' g 0 _ _ _ hc; have hc2 := cell_of_row w' g 2 _ _ _ hc; simp only [List.getElem?_toArray, List.getElem?_cons_zero, List.getElem?_cons_succ] at hc0 hc2; clear hc; go_simp; try (with_reducible rfl))
  simp only [Act.put]; try simp only [List.setIfInBounds_toArray]; try simp only [List.set_cons_zero, List.set_cons_succ]
  refine wpAnyR_take (pre_grown (some b)) (i := 8) (d := some 34) (v := .agg (m.cells s o i).toArray) rfl rfl (by kernel_rfl) (by kernel_rfl) (by kernel_rfl) (fun _ _ _ h => h) (by rfl) ?ya8 ?_
  case ya8 => (intro w' hw'; have hgc : w2.drew.grownBy w' (some b) := hw'; have hb9 : w'.heap[w.heap.size]? = _ := (hgc.block w.heap.size (lt_of_block X2.out) (by simp; omega)).trans X2.out; exact exec_load_box 42 _ (by rfl) w.heap.size 0 (by rfl) 42 _ hb9 34 _ Try.underlying42 (by rfl) (by kernel_rfl) (m.cells s o i) (by rfl) (by rfl))
  simp only [Act.put]; try simp only [List.setIfInBounds_toArray]; try simp only [List.set_cons_zero, List.set_cons_succ]
  refine wpAnyR_only (i := 9) rfl (by kernel_rfl) (by rfl) fun K hK => ?_
  go_simp
  refine C6.out.mono ?_
  rintro e w3 ⟨v3, rfl, hv3, hb3⟩
  have HV3 := hide hv3
  have HB3 : Hid (Below w2.heap.size w2 w3) := (Below.refl w2.heap.size w2).drew.trans hb3
  have HG3 : Hid (w2.drew.grownBy w3 (some b)) := grown_later hb3 _
  clear hv3 hb3
  refine hK.out _ _ HG3.out ?_
  clear hK K
  try (simp only [Act.put]; try simp only [List.setIfInBounds_toArray]; try simp only [List.set_cons_zero, List.set_cons_succ])
  refine wpAnyR_only (i := 10) rfl (by kernel_rfl) (by rfl) fun K hK => ?_
  refine wp_mapUpdate_held _ _ _ 70 (by rfl) 3 42 Try.int_law Try.underlying70 b last (L.map Item.pair) (by rfl) (by exact M3 HB3.out) (by unfold maxLen; omega) ((last : Int) + 1) v3 (by rfl) (by rfl) (by exact int_key ⟨by omega, by omega⟩) (by exact HIDS.out) ?_
  intro w4 ho4 ht4
  obtain ⟨E4, T4⟩ := put_end H.out HM.out HF.out T2.out C2.out HB3.out HV3.out ho4 ht4
  have HE4 := hide E4
  have HT4 := hide T4
  have HG4 : Hid (w3.grownBy w4 (some b)) := ht4.grown
  clear E4 T4 ho4 ht4
  refine hK.out _ _ HG4.out ?_
  clear hK K
  try simp only [Act.put]
  refine wpAnyR_done (by kernel_rfl) ?_ _
  obtain ⟨c0, c1, c2, c3⟩ := HE4.out.cells
  rw [Int.natCast_add] at c2
  have c2' : w4.cell? ⟨g, 2, none⟩ = some (.int .i64 ((last : Int) + 1)) := c2
  clear c0 c1 c2 c3
  go_wp2
  go_ret2
  exact ⟨v3, rfl, HE4.out, HT4.out⟩
theorem put_yes {F : Nat → Prop} {g b : Nat} {most : Int} {last : Nat} {L : List Item} (m : MsgD) (v : Value) (w : World) (h : BagAt F w g b most last L) (hf : (L.length : Int) < most) (hlast : last < 1000000)
    (hv : MsgAt F w v m) (hm : m.ok) (hF : ∀ i, w.heap.size ≤ i → F i) :
    Calls Try.prog 13 #[.pointer (some ⟨g, 0, none⟩), v] w (PutIn F g b most last L m w) :=
  put_two m v w h hf hlast hv h.apart.2.1 hm hF

end Go.Proofs.Ytaimnhlpdkpobaa
