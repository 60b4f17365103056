/- A bag in memory: a block of its map, how many it may have, and the last number; made, find. -/
import Derived.Test.YtaimnhlpdkpobaaCopy
import Derived.Test.YtaimnhlpdkpobaaMapHeld
namespace Go.Proofs.Ytaimnhlpdkpobaa
open Go.RowKit Go.Maps

/-- From w to w' no block has turned of which S does not hold. -/
structure Turned (S : Nat → Prop) (w w' : World) : Prop where
  os : w'.os = w.os
  tape : w'.tape = w.tape
  output : w'.output = w.output
  size : w.heap.size ≤ w'.heap.size
  block : ∀ i, i < w.heap.size → ¬ S i → w'.heap[i]? = w.heap[i]?
section
variable {S : Nat → Prop} {a b c : World}
theorem Turned.refl (S : Nat → Prop) (w : World) : Turned S w w := ⟨rfl, rfl, rfl, Nat.le_refl _, fun _ _ _ => rfl⟩
theorem Turned.trans (h : Turned S a b) (k : Turned S b c) : Turned S a c :=
  ⟨k.os.trans h.os, k.tape.trans h.tape, k.output.trans h.output, Nat.le_trans h.size k.size, fun i hi hs => (k.block i (Nat.lt_of_lt_of_le hi h.size) hs).trans (h.block i hi hs)⟩
theorem Turned.of_below (h : Below a.heap.size a b) (S : Nat → Prop) : Turned S a b := ⟨h.os, h.tape, h.output, h.size, fun i hi _ => h.block i hi⟩
theorem Turned.of_grown {r : Option Nat} (h : a.grownBy b r) (hr : ∀ g, r = some g → S g) : Turned S a b :=
  ⟨h.os, h.tape, h.output, h.size, fun i hi hs => h.block i hi (fun e => hs (hr i e.symm))⟩
theorem Turned.kept (h : Turned S a b) {F : Nat → Prop} (hf : ∀ i, F i → ¬ S i) : Kept F a b := ⟨h.size, fun i hi hF => h.block i hi (hf i hF)⟩
theorem Turned.mono {T : Nat → Prop} (h : Turned S a b) (ht : ∀ i, S i → T i) : Turned T a b := ⟨h.os, h.tape, h.output, h.size, fun i hi hs => h.block i hi (fun e => hs (ht i e))⟩
theorem Turned.below {B : Nat} (h : Turned S a b) (hs : ∀ i, S i → B ≤ i) (hB : B ≤ a.heap.size) : Below B a b :=
  ⟨h.os, h.tape, h.output, h.size, fun i hi => h.block i (Nat.lt_of_lt_of_le hi hB) (fun e => by have := hs i e; omega)⟩
theorem Turned.drewN (S : Nat → Prop) (w : World) (n : Nat) : Turned S w (w.drewN n) := ⟨rfl, rfl, rfl, Nat.le_refl _, fun _ _ _ => rfl⟩
end

/-- A message that is kept: its number, its value, and what it says. -/
structure Item where
  id : Int
  val : Value
  msg : MsgD
def Item.pair (x : Item) : Int × Value := (x.id, x.val)
/-- A message that is looked at here. -/
def MsgD.ok (m : MsgD) : Prop := m.light ∧ m.incs.length ≤ 100

/-- The blocks g and b hold a bag. -/
structure BagAt (F : Nat → Prop) (w : World) (g b : Nat) (most : Int) (last : Nat) (L : List Item) : Prop where
  cell : w.heap[g]? = some (.cells #[.map (some b), .int .i64 most, .int .i64 (last : Int)] 72 (0, 0))
  map : w.ownsMap Try.prog 3 heldR b last (mapD (L.map Item.pair))
  ids : ∀ x ∈ L, 1 ≤ x.id ∧ x.id ≤ (last : Int)
  rise : L.Pairwise (fun x y => x.id < y.id)
  msgs : ∀ x ∈ L, MsgAt F w x.val x.msg ∧ x.msg.ok
  apart : g ≠ b ∧ ¬ F g ∧ ¬ F b
section
variable {F G : Nat → Prop} {w w' : World} {g b : Nat} {most : Int} {last : Nat} {L : List Item}
theorem BagAt.kept (h : BagAt F w g b most last L) (hk : Kept (fun i => i = g ∨ i = b ∨ F i) w w') : BagAt F w' g b most last L :=
  ⟨(hk.2 g (lt_of_block h.cell) (.inl rfl)).trans h.cell, by
    obtain ⟨es, clock, hb, rest⟩ := h.map
    exact ⟨es, clock, (hk.2 b (lt_of_block hb) (.inr (.inl rfl))).trans hb, rest⟩, h.ids, h.rise, fun x hx => ⟨(h.msgs x hx).1.kept (hk.mono fun i _ hi => .inr (.inr hi)), (h.msgs x hx).2⟩, h.apart⟩
theorem BagAt.later (h : BagAt F w g b most last L) (hb : Below w.heap.size w w') : BagAt F w' g b most last L := h.kept (Kept.of_below hb _)
theorem BagAt.mono (h : BagAt F w g b most last L) (hg : ∀ i, i < w.heap.size → F i → G i) (h1 : ¬ G g) (h2 : ¬ G b) : BagAt G w g b most last L :=
  ⟨h.cell, h.map, h.ids, h.rise, fun x hx => ⟨(h.msgs x hx).1.mono hg, (h.msgs x hx).2⟩, h.apart.1, h1, h2⟩
theorem BagAt.lt (h : BagAt F w g b most last L) : g < w.heap.size ∧ b < w.heap.size := ⟨lt_of_block h.cell, h.map.lt⟩
theorem BagAt.cells (h : BagAt F w g b most last L) : w.cell? ⟨g, 0, none⟩ = some (.map (some b)) ∧ w.cell? ⟨g, 1, none⟩ = some (.int .i64 most) ∧ w.cell? ⟨g, 2, none⟩ = some (.int .i64 (last : Int)) ∧ w.frozen? ⟨g, 2, none⟩ = false :=
  ⟨cell_of_row w g 0 _ _ _ h.cell, cell_of_row w g 1 _ _ _ h.cell, cell_of_row w g 2 _ _ _ h.cell, frozen_of_row w g 2 _ _ h.cell⟩
end
/-- The message of that number. -/
def itemAt (L : List Item) (id : Int) : Option Item := L.find? (fun x => x.id == id)
theorem found_item (L : List Item) (z : Value) (id : Int) : foundIn (L.map Item.pair) z id = match itemAt L id with | some x => (x.val, true) | none => (z, false) := by
  unfold foundIn itemAt
  rw [List.find?_map]
  show (match (L.find? (fun x => x.id == id)).map Item.pair with | some p => (p.2, true) | none => (z, false)) = _
  cases L.find? (fun x => x.id == id) <;> rfl
theorem item_mem {L : List Item} {id : Int} {x : Item} (h : itemAt L id = some x) : x ∈ L ∧ x.id = id := by
  unfold itemAt at h
  exact ⟨List.mem_of_find?_eq_some h, by simpa using List.find?_some h⟩

/-- A bag that no call made: nil, or one without a map. -/
def NoBag (w : World) (p : Value) : Prop := p = .pointer none ∨ ∃ g x y, p = .pointer (some ⟨g, 0, none⟩) ∧ w.heap[g]? = some (.cells #[.map none, x, y] 72 (0, 0))
theorem NoBag.later {w w' : World} {p : Value} (h : NoBag w p) (hb : Below w.heap.size w w') : NoBag w' p :=
  h.imp id fun ⟨g, x, y, e, hg⟩ => ⟨g, x, y, e, (hb.block g (lt_of_block hg)).trans hg⟩

theorem Try.int_law : Keyed Try.prog 3 := int_keyed Try.underlying3
theorem int_key {a : Int} (h : I64 a) : keyOf Try.prog 3 (.int .i64 a) = some (.int .i64 a) := keyOf_int_mk Try.underlying3 (WalkArith.wf_i64 (by obtain ⟨h1, h2⟩ := h; omega))

set_option maxHeartbeats 400000 in
theorem made_no (p : Value) (w : World) (h : NoBag w p) : Calls Try.prog 34 #[p] w fun e w' => e = .returned (.bool false) ∧ w = w' := by
  have hq := fun w r => run_neq_map_nil (P := Try.prog) w 70 _ _ r Try.underlying70
  rcases h with rfl | ⟨g, x, y, rfl, hg⟩
  · go_enter Try.func34, Try.ntmps34
    go_wp2
    go_ret
    exact ⟨rfl, rfl⟩
  · have c0 := cell_of_row w g 0 _ _ _ hg
    simp only [List.getElem?_toArray, List.getElem?_cons_zero] at c0
    have HG := hide hg
    clear hg
    go_enter Try.func34, Try.ntmps34
    go_wp2
    go_ret
    exact ⟨rfl, rfl⟩
set_option maxHeartbeats 400000 in
theorem made_yes {F : Nat → Prop} {g b : Nat} {most : Int} {last : Nat} {L : List Item} (w : World) (h : BagAt F w g b most last L) : Calls Try.prog 34 #[.pointer (some ⟨g, 0, none⟩)] w fun e w' => e = .returned (.bool true) ∧ w = w' := by
  have hq := fun w r => run_neq_map_nil (P := Try.prog) w 70 _ _ r Try.underlying70
  obtain ⟨c0, _, _, _⟩ := h.cells
  clear h
  go_enter Try.func34, Try.ntmps34
  go_wp2
  go_ret
  exact ⟨rfl, rfl⟩
end Go.Proofs.Ytaimnhlpdkpobaa
