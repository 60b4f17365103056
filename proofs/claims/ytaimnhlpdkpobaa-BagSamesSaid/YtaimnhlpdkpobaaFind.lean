/- New and find of package bag. -/
import Derived.Test.YtaimnhlpdkpobaaBag
namespace Go.Proofs.Ytaimnhlpdkpobaa
open Go.RowKit Go.Maps

def zeroMsg : Value := .agg (MsgD.zero.cells (.slice none 0 0) (.slice none 0 0) (.slice none 0 0)).toArray
theorem put_zero : putAt zcells 0 zcells.toList = zcells := by simp [zcells, putAt, MsgD.cells]
theorem zeroMsg_at (F : Nat → Prop) (w : World) : MsgAt F w zeroMsg .zero := MsgAt.zero F w
theorem zero_ok : MsgD.zero.ok := ⟨⟨by simp [MsgD.zero, OpD.zero], by simp [MsgD.zero], by simp [MsgD.zero]⟩, by simp [MsgD.zero]⟩

/-- What New hands back where there may be so many. -/
def NewBag (w : World) (most : Int) (e : Ending) (w' : World) : Prop :=
  ∃ g b, e = .returned (.pointer (some ⟨g, 0, none⟩)) ∧ w.heap.size ≤ g ∧ w.heap.size ≤ b ∧ Below w.heap.size w w' ∧ ∀ F : Nat → Prop, ¬ F g → ¬ F b → BagAt F w' g b most 0 []

set_option maxHeartbeats 400000 in
theorem new_no (most : Int) (w : World) (h : most < 0 ∨ 10000 < most) : Calls Try.prog 11 #[.int .i64 most] w fun e w' => e = .returned (.pointer none) ∧ w = w' := by
  by_cases h0 : most < 0
  · clear h
    go_enter Try.func11, Try.ntmps11
    go_wp2
    go_ret
    exact ⟨rfl, rfl⟩
  · have h1 : 10000 < most := by omega
    clear h
    go_enter Try.func11, Try.ntmps11
    go_wp2
    go_ret
    exact ⟨rfl, rfl⟩
set_option maxHeartbeats 400000 in
theorem new_yes (most : Int) (w : World) (h0 : 0 ≤ most) (h1 : most ≤ 10000) : Calls Try.prog 11 #[.int .i64 most] w (NewBag w most) := by
  have hmm := @run_makeMap Try.prog
  go_enter Try.func11, Try.ntmps11
  go_wp2
  go_ret
  refine ⟨w.heap.size + 1, w.heap.size, rfl, by omega, by omega, ((Below.refl _ _).alloc (Nat.le_refl _) _).alloc (by simp) _, fun F hg hb => ⟨heap_alloc2_new w _ _, ?_, by simp, .nil, by simp, by omega, hg, hb⟩⟩
  exact (World.ownsMap_made w Try.prog 3 heldR).alloc _

/-- What find hands back: a message's value, and an error's number. -/
def Finds (v : Value) (err : Int) (w : World) (e : Ending) (w' : World) : Prop := e = .returned (.tuple #[v, .int .i64 err]) ∧ Below w.heap.size w w'

set_option maxHeartbeats 1000000 in
set_option maxRecDepth 100000 in
theorem find_not (p : Value) (id : Int) (w : World) (h : NoBag w p) : Calls Try.prog 35 #[p, .int .i64 id] w (Finds zeroMsg 1 w) := by
  have C := hide (fun w' (hb : Below w.heap.size w w') => made_no p w' (h.later hb))
  have hp : ∃ a, p = .pointer a := by rcases h with rfl | ⟨g, _, _, rfl, _⟩ <;> exact ⟨_, rfl⟩
  obtain ⟨a, rfl⟩ := hp
  clear h
  go_enter Try.func35, Try.ntmps35
  go_wp2_with (fail)
  refine (C.out _ ((Below.refl _ _).alloc (Nat.le_refl _) _)).mono ?_
  rintro e w1 ⟨rfl, rfl⟩
  have HZ : Hid ((w.alloc (.cells zcells 42 (0, 0))).heap[w.heap.size]? = some (.cells zcells 42 (0, 0))) := heap_alloc_new _ _
  go_wp2_with (refine wpList_store_box (by rfl) 42 _ _ (by rfl) (w.heap.size) 0 (zcells) (by rfl) (by rfl) 42 (_) (HZ.out) (by kernel_rfl) (by exact Nat.le_of_ble_eq_true rfl) (by exact zcells_one) ?_; intro w2 hb2 hg2; rw [put_zero] at hb2)
  refine bodyPost_ret (results_box2 Try.results35 _ _ (w.heap.size) 42 _ _ (by rfl) (hb2) Try.underlying42 (by rfl) (by kernel_rfl) _ (by rfl)) (by rfl) ?_
  exact ⟨rfl, ((Below.refl w.heap.size w).alloc (Nat.le_refl _) _).grown hg2 (by simp) (fun k hk => by have := Option.some.inj hk; omega)⟩

set_option maxHeartbeats 1000000 in
set_option maxRecDepth 100000 in
theorem find_none {F : Nat → Prop} {g b : Nat} {most : Int} {last : Nat} {L : List Item} (id : Int) (w : World) (h : BagAt F w g b most last L) (hid : I64 id) (hno : itemAt L id = none) :
    Calls Try.prog 35 #[.pointer (some ⟨g, 0, none⟩), .int .i64 id] w (Finds zeroMsg 8 w) := by
  have C := hide (fun w' (hb : Below w.heap.size w w') => made_yes w' (h.later hb))
  have H := hide h
  have HI := hide (int_key hid)
  have HR : Hid (foundIn (L.map Item.pair) zeroMsg id = (zeroMsg, false)) := by
    show _ = _
    rw [found_item, hno]
  obtain ⟨hg, hb⟩ := h.lt
  clear h hid hno
  go_enter Try.func35, Try.ntmps35
  go_wp2_with (fail)
  refine (C.out _ ((Below.refl _ _).alloc (Nat.le_refl _) _)).mono ?_
  rintro e w1 ⟨rfl, rfl⟩
  have HZ : Hid ((w.alloc (.cells zcells 42 (0, 0))).heap[w.heap.size]? = some (.cells zcells 42 (0, 0))) := heap_alloc_new _ _
  have HA : Hid (BagAt F (w.alloc (.cells zcells 42 (0, 0))) g b most last L) := H.out.later ((Below.refl _ _).alloc (Nat.le_refl _) _)
  obtain ⟨c0, c1, c2, c3⟩ := H.out.cells
  have HZ1 : Hid (((w.alloc (.cells zcells 42 (0, 0))).alloc (.cells zcells 42 (0, 0))).heap[w.heap.size + 1]? = some (.cells zcells 42 (0, 0))) := heap_alloc2_new _ _ _
  clear c1 c2 c3
  go_wp2_with (first
    | (at_lookup; refine wpList_lookup_held rfl _ _ 70 rfl 3 42 Try.int_law Try.underlying70 zeroMsg (by kernel_rfl) b last _ rfl HA.out.map id rfl HI.out zeroMsg false HR.out ?_)
    | (refine wpList_store_box (by rfl) 42 _ _ (by rfl) (w.heap.size + 1) 0 (zcells) (by rfl) (by rfl) 42 (_) (HZ1.out) (by kernel_rfl) (by exact Nat.le_of_ble_eq_true rfl) (by exact zcells_one) ?_; intro w2 hb2 hg2; rw [put_zero] at hb2)
    | (refine wpList_store_box (by rfl) 42 _ _ (by rfl) (w.heap.size) 0 (zcells) (by rfl) (by rfl) 42 (zcells) ((hg2.block w.heap.size (by simp; omega) (by simp)).trans (heap_alloc2_old w _ _)) (by kernel_rfl) (by exact Nat.le_of_ble_eq_true rfl) (by exact zcells_one) ?_; intro w3 hb3 hg3; rw [put_zero] at hb3))
  refine bodyPost_ret (results_box2 Try.results35 _ _ (w.heap.size) 42 _ _ (by rfl) (hb3) Try.underlying42 (by rfl) (by kernel_rfl) _ (by rfl)) (by rfl) ?_
  exact ⟨rfl, ((((Below.refl w.heap.size w).alloc (Nat.le_refl _) _).alloc (by simp) _).grown hg2 (by simp; omega) (fun k hk => by have := Option.some.inj hk; omega)).grown hg3 (Nat.le_trans (by simp; omega) hg2.size) (fun k hk => by have := Option.some.inj hk; omega)⟩

set_option maxHeartbeats 1000000 in
set_option maxRecDepth 100000 in
theorem find_some {F : Nat → Prop} {g b : Nat} {most : Int} {last : Nat} {L : List Item} (id : Int) (x : Item) (w : World) (h : BagAt F w g b most last L) (hid : I64 id) (hx : itemAt L id = some x) :
    Calls Try.prog 35 #[.pointer (some ⟨g, 0, none⟩), .int .i64 id] w (Finds x.val 0 w) := by
  have C := hide (fun w' (hb : Below w.heap.size w w') => made_yes w' (h.later hb))
  have H := hide h
  have HI := hide (int_key hid)
  have HR : Hid (foundIn (L.map Item.pair) zeroMsg id = (x.val, true)) := by
    show _ = _
    rw [found_item, hx]
  obtain ⟨hg, hb⟩ := h.lt
  obtain ⟨s, o, i, hv, hl⟩ := (h.msgs x (item_mem hx).1).1
  obtain ⟨h1, h2, h3⟩ := hl.cell
  obtain ⟨xi, xv, m⟩ := x
  simp only at hv hl HR ⊢
  subst hv
  clear h hid hx hl
  go_enter Try.func35, Try.ntmps35
  go_wp2_with (fail)
  refine (C.out _ ((Below.refl _ _).alloc (Nat.le_refl _) _)).mono ?_
  rintro e w1 ⟨rfl, rfl⟩
  have HA : Hid (BagAt F (w.alloc (.cells zcells 42 (0, 0))) g b most last L) := H.out.later ((Below.refl _ _).alloc (Nat.le_refl _) _)
  obtain ⟨c0, c1, c2, c3⟩ := H.out.cells
  have HZ1 : Hid (((w.alloc (.cells zcells 42 (0, 0))).alloc (.cells zcells 42 (0, 0))).heap[w.heap.size + 1]? = some (.cells zcells 42 (0, 0))) := heap_alloc2_new _ _ _
  clear c1 c2 c3
  go_wp2_with (first
    | (at_lookup; refine wpList_lookup_held rfl _ _ 70 rfl 3 42 Try.int_law Try.underlying70 zeroMsg (by kernel_rfl) b last _ rfl HA.out.map id rfl HI.out _ true HR.out ?_)
    | (refine wpList_store_box (by rfl) 42 _ _ (by rfl) (w.heap.size + 1) 0 ((m.cells s o i).toArray) (by rfl) (by rfl) 42 (_) (HZ1.out) (by kernel_rfl) (by exact Nat.le_of_ble_eq_true rfl) (by exact m.one h1 h2 h3) ?_; intro w2 hb2 hg2; rw [put_zmsg] at hb2)
    | (refine wpList_load_box (by rfl) 42 _ (by rfl) (w.heap.size + 1) 0 (by rfl) 42 _ (hb2) 34 _ Try.underlying42 (by rfl) (by kernel_rfl) (m.cells s o i) (by rfl) (by rfl) ?_)
    | (refine wpList_store_box (by rfl) 42 _ _ (by rfl) (w.heap.size) 0 ((m.cells s o i).toArray) (by rfl) (by rfl) 42 (zcells) ((hg2.block w.heap.size (by simp; omega) (by simp)).trans (heap_alloc2_old w _ _)) (by kernel_rfl) (by exact Nat.le_of_ble_eq_true rfl) (by exact m.one h1 h2 h3) ?_; intro w3 hb3 hg3; rw [put_zmsg] at hb3))
  refine bodyPost_ret (results_box2 Try.results35 _ _ (w.heap.size) 42 _ _ (by rfl) (hb3) Try.underlying42 (by rfl) (by kernel_rfl) _ (by rfl)) (by rfl) ?_
  exact ⟨rfl, ((((Below.refl w.heap.size w).alloc (Nat.le_refl _) _).alloc (by simp) _).grown hg2 (by simp; omega) (fun k hk => by have := Option.some.inj hk; omega)).grown hg3 (Nat.le_trans (by simp; omega) hg2.size) (fun k hk => by have := Option.some.inj hk; omega)⟩
end Go.Proofs.Ytaimnhlpdkpobaa
