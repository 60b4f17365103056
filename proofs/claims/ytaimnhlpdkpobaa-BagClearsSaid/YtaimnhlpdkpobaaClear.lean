/- To and Clear of package bag. -/
import Derived.Test.YtaimnhlpdkpobaaTo
namespace Go.Proofs.Ytaimnhlpdkpobaa
open Go.RowKit Go.Maps Go.Sort Go.Shelf

theorem own_base_k {w : World} {base base' e size n : Nat} {v : Value} {xs : List Value} (h : w.ownsRow base e size v n xs) (hb : base' ≤ base) : w.ownsRow base' e size v n xs := own_base h hb

set_option maxHeartbeats 1000000 in
theorem to_no (p : Value) (place : Int) (w : World) (h : NoBag w p) : Calls Try.prog 27 #[p, .int .i64 place] w fun e w' => e = .returned (.slice none 0 0) ∧ Below w.heap.size w w' := by
  have C := hide (fun w' (hb : Below w.heap.size w w') => ids_no p w' (h.later hb))
  have hp : ∃ a, p = .pointer a := by rcases h with rfl | ⟨g, _, _, rfl, _⟩ <;> exact ⟨_, rfl⟩
  obtain ⟨a, rfl⟩ := hp
  clear h
  go_enter Try.func27, Try.ntmps27
  go_wp2_with (fail)
  refine (C.out _ (((Below.refl _ _).alloc (Nat.le_refl _) _).alloc (by simp) _)).mono ?_
  rintro e w1 ⟨rfl, rfl⟩
  go_wp2_with (fail)
  refine (delete_nil _ _).mono ?_
  rintro e w2 ⟨rfl, rfl⟩
  go_wp2
  go_ret
  exact ⟨rfl, ((Below.refl _ _).alloc (Nat.le_refl _) _).alloc (by simp) _⟩

theorem toOf_fit {L : List Item} (h : Fit (idsOf L)) (place : Int) : Fit (toOf L place) := fun x hx => h x (List.mem_filter.1 hx).1

set_option maxHeartbeats 1000000 in
theorem to_yes {F : Nat → Prop} {g b : Nat} {most : Int} {last : Nat} {L : List Item} (place : Int) (w : World) (h : BagAt F w g b most last L) (hl : last ≤ 1000000) :
    Calls Try.prog 27 #[.pointer (some ⟨g, 0, none⟩), .int .i64 place] w (NewInts w (toOf L place)) := by
  have C := hide (fun w' (hb : Below w.heap.size w w') => ids_yes w' (h.later hb) hl)
  have hsh : ∀ x ∈ L, ∃ s o i, x.val = .agg (x.msg.cells s o i).toArray := fun x hx => by
    obtain ⟨s, o, i, e, _⟩ := (h.msgs x hx).1
    exact ⟨s, o, i, e⟩
  have hf := h.fit hl
  have H := hide h
  obtain ⟨hg, hb⟩ := h.lt
  clear h
  have HSH := hide hsh
  have HF := hide hf
  clear hsh hf
  go_enter Try.func27, Try.ntmps27
  go_wp2_with (fail)
  refine (C.out _ (((Below.refl _ _).alloc (Nat.le_refl _) _).alloc (by simp) _)).mono ?_
  rintro e w1 ⟨A, n, c, rfl, ho, _, _, hbl⟩
  have hsz := hbl.size
  have hsz2 : w.heap.size + 2 ≤ w1.heap.size := by simp at hsz; omega
  have hB : Below w.heap.size w w1 := (((Below.refl _ _).alloc (Nat.le_refl _) _).alloc (by simp) _).trans (hbl.mono (by simp; omega))
  have hbag := H.out.later hB
  have SEE : Sees w1 w.heap.size (w.heap.size + 1) g b place last L :=
    ⟨⟨_, (hbl.block w.heap.size (by simp; omega)).trans (heap_alloc2_old w _ _)⟩, ⟨_, (hbl.block (w.heap.size + 1) (by simp)).trans (heap_alloc2_new w _ _)⟩, ⟨_, _, _, hbag.cell⟩, hbag.map⟩
  have hlt := ho.lt
  have D := hide (delete_any hsz SEE HSH.out HF.out ho (fun q hq => by
    have := (hlt q hq).1
    simp at this
    omega))
  have HB := hide hB
  clear ho hbl hbag SEE hlt hB
  go_wp2_with (fail)
  refine D.out.mono ?_
  rintro e w2 ⟨A2, n2, c2, rfl, ho2, _, hb2⟩
  have ho3 : w2.ownsRow w.heap.size 3 1 (.slice A2 n2 c2) n2 (ivs (toOf L place)) := own_base_k ho2 (by simp; omega)
  obtain ⟨A3, c3, hv, h1, _, h2⟩ := IHolds.of_own ho3 (toOf_fit HF.out place)
  obtain ⟨rfl, rfl⟩ : A2 = A3 ∧ c2 = c3 := by injection hv with e1 _ e3; exact ⟨e1, e3⟩
  have R : Hid (NewInts w (toOf L place) (.returned (.slice A2 n2 c2)) w2) := ⟨A2, n2, c2, rfl, ho3, h2, h1, HB.out.trans (hb2.mono (by simp; omega))⟩
  clear ho2 ho3 h2 hb2 hv
  go_wp2
  go_ret
  exact R.out

set_option maxHeartbeats 1000000 in
theorem clear_no (p : Value) (place : Int) (w : World) (h : NoBag w p) : Calls Try.prog 20 #[p, .int .i64 place] w fun e w' => e = .returned (.int .i64 0) ∧ Below w.heap.size w w' := by
  have C := hide (to_no p place w h)
  have hp : ∃ a, p = .pointer a := by rcases h with rfl | ⟨g, _, _, rfl, _⟩ <;> exact ⟨_, rfl⟩
  obtain ⟨a, rfl⟩ := hp
  clear h
  go_enter Try.func20, Try.ntmps20
  go_wp2_with (fail)
  refine C.out.mono ?_
  rintro e w1 ⟨rfl, hb⟩
  have HB := hide hb
  clear hb
  go_wp2
  go_loopw [13] (fun j wr => j = .int .i64 0 ∧ wr = w1) (fun _ _ => 0)
  case atStart => exact ⟨rfl, rfl⟩
  case round =>
    obtain ⟨rfl, rfl⟩ := hrel
    go_wp2
    go_ret
    exact ⟨rfl, HB.out⟩

/-- The bag without those numbers. -/
def cleared (L : List Item) (ids : List Int) : List Item := L.filter fun x => !(ids.contains x.id)
theorem cleared_nil (L : List Item) : cleared L [] = L := by simp [cleared]
theorem cleared_snoc (L : List Item) (ids : List Int) (id : Int) : cleared L (ids ++ [id]) = without (cleared L ids) id := by
  unfold cleared without
  rw [List.filter_filter]
  congr 1
  funext x
  by_cases h1 : x.id = id <;> by_cases h2 : x.id ∈ ids <;> simp [h1, h2]
theorem item_of {L : List Item} (h : L.Pairwise (fun x y => x.id < y.id)) {x : Item} (hx : x ∈ L) : itemAt L x.id = some x := by
  unfold itemAt
  induction L with
  | nil => cases hx
  | cons y r ih =>
    rw [List.pairwise_cons] at h
    rw [List.find?_cons]
    rcases List.mem_cons.1 hx with rfl | hx
    · simp
    · have := h.1 x hx
      rw [show (y.id == x.id) = false from by simp; omega]
      exact ih h.2 hx
theorem dst_of {L : List Item} (h : L.Pairwise (fun x y => x.id < y.id)) {x : Item} (hx : x ∈ L) : dstOf L x.id = x.msg.dst := by
  unfold dstOf
  rw [item_of h hx]
theorem cleared_to {L : List Item} (h : L.Pairwise (fun x y => x.id < y.id)) (place : Int) : cleared L (toOf L place) = L.filter fun x => !(x.msg.dst == place) := by
  unfold cleared
  refine List.filter_congr fun x hx => ?_
  congr 1
  rw [Bool.eq_iff_iff, List.contains_iff_mem]
  unfold toOf
  rw [List.mem_filter, dst_of h hx]
  exact ⟨fun h1 => h1.2, fun h1 => ⟨List.mem_map_of_mem hx, h1⟩⟩
theorem toOf_eq {L : List Item} (h : L.Pairwise (fun x y => x.id < y.id)) (place : Int) : toOf L place = (L.filter fun x => x.msg.dst == place).map (·.id) := by
  unfold toOf idsOf
  rw [List.filter_map]
  congr 1
  refine List.filter_congr fun x hx => ?_
  show (dstOf L x.id == place) = _
  rw [dst_of h hx]

/-- What Clear does. -/
def Clears (F : Nat → Prop) (g b : Nat) (most : Int) (last : Nat) (L : List Item) (place : Int) (w : World) (e : Ending) (w' : World) : Prop :=
  e = .returned (.int .i64 ((toOf L place).length : Int)) ∧ BagAt F w' g b most last (L.filter fun x => !(x.msg.dst == place)) ∧ Turned (fun i => i = b) w w'

set_option maxHeartbeats 1000000 in
theorem clear_yes {F : Nat → Prop} {g b : Nat} {most : Int} {last : Nat} {L : List Item} (place : Int) (w : World) (h : BagAt F w g b most last L) (hl : last ≤ 1000000) :
    Calls Try.prog 20 #[.pointer (some ⟨g, 0, none⟩), .int .i64 place] w (Clears F g b most last L place w) := by
  have C := hide (to_yes place w h hl)
  have H := hide h
  obtain ⟨hg, hb⟩ := h.lt
  clear h
  go_enter Try.func20, Try.ntmps20
  go_wp2_with (fail)
  refine C.out.mono ?_
  rintro e w1 ⟨A, n, c, rfl, ho, hi, hnc, hbl⟩
  have HI := hide hi
  have HO := hide ho
  have HBL := hide hbl
  have hn : (toOf L place).length = n := hi.1
  have HN := hide hn
  have hlen : n ≤ 1000000 := by
    have := List.length_filter_le (fun id => dstOf L id == place) (idsOf L)
    rw [idsOf_len] at this
    have h2 := H.out.count
    unfold toOf at hn
    omega
  have B1 := hide (H.out.later hbl)
  clear hi ho hbl hn
  go_wp2
  go_loopw [13] (fun j wr => ∃ k : Nat, k ≤ n ∧ j = .int .i64 (k : Int) ∧ BagAt F wr g b most last (cleared L ((toOf L place).take k)) ∧ Turned (fun i => i = b) w1 wr) (fun j _ => n - (intOf j).toNat)
  case atStart => exact ⟨0, by omega, rfl, by rw [List.take_zero, cleared_nil]; exact B1.out, Turned.refl _ _⟩
  case round =>
    obtain ⟨k, hk, rfl, hbag, ht⟩ := hrel
    have HBAG := hide hbag
    have HT := hide ht
    obtain ⟨c0, _, _, _⟩ := hbag.cells
    clear hbag ht
    by_cases hkn : k < n
    · obtain ⟨q, off, rfl, hq, hc⟩ := HI.out.at_ hkn
      obtain ⟨hx1, hx2⟩ := HI.out.2.1.get k
      have hqb : w.heap.size ≤ q := (HO.out.lt q rfl).1
      have hc2 : ∀ o, q < w1.heap.size → wr.cell? ⟨q, o, none⟩ = w1.cell? ⟨q, o, none⟩ := fun o hq => World.cell?_of_block (HT.out.block q hq (by show q ≠ b; omega))
      rw [← hc2 _ hq] at hc
      obtain ⟨x, hx⟩ : ∃ x, x = (toOf L place).getD k 0 := ⟨_, rfl⟩
      rw [← hx] at hc hx1 hx2
      have HX := hide hx
      have HK := hide (int_key (a := x) ⟨hx1, hx2⟩)
      have HS : Hid ((toOf L place).take (k + 1) = (toOf L place).take k ++ [x]) := by
        have hkl : k < (toOf L place).length := by rw [HN.out]; exact hkn
        show _ = _
        rw [List.take_succ_eq_append_getElem hkl, hx]
        simp [List.getD, hkl]
      clear hc2 hx
      go_wp2_with (at_delete; refine wpList_delete_own _ rfl _ _ 70 3 rfl 42 Try.int_law Try.underlying70 heldR b last (mapD ((cleared L ((toOf L place).take k)).map Item.pair)) rfl HBAG.out.map _ _ rfl HK.out ?_; intro w3 ho3 ht3)
      go_roundw
      case rel =>
        refine ⟨k + 1, by omega, by go_num, ?_, HT.out.trans (Turned.of_grown ht3.grown (fun g e => (Option.some.inj e).symm))⟩
        rw [HS.out, cleared_snoc]
        exact HBAG.out.drop ho3 ht3
      case measure => simp [intOf]; omega
    · obtain rfl : k = n := by omega
      go_wp2
      go_ret
      refine ⟨by rw [HN.out]; rfl, ?_, (Turned.of_below HBL.out _).trans HT.out⟩
      have := HBAG.out
      rw [List.take_of_length_le (by rw [HN.out]; omega), cleared_to H.out.rise] at this
      exact this
end Go.Proofs.Ytaimnhlpdkpobaa
