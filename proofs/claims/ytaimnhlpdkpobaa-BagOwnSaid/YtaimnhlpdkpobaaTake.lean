/- Take, Twice and Look of package bag. -/
import Derived.Test.YtaimnhlpdkpobaaPutB
namespace Go.Proofs.Ytaimnhlpdkpobaa
open Go.RowKit Go.Maps

theorem neq_of {err : Int} (h : err ≠ 0) : (err != 0) = true := by simpa using h
/-- A bag without the message of that number. -/
def without (L : List Item) (id : Int) : List Item := L.filter fun x => !(x.id == id)
theorem without_pair (L : List Item) (id : Int) : (without L id).map Item.pair = (L.map Item.pair).filter fun p => !(p.1 == id) := by
  unfold without
  rw [List.filter_map]
  rfl
/-- The map is without it: the bag is. -/
theorem BagAt.drop {F : Nat → Prop} {g b : Nat} {most : Int} {last : Nat} {L : List Item} {w w' : World} {id : Int} (h : BagAt F w g b most last L) (ho : w'.ownsMap Try.prog 3 heldR b last ((mapD (L.map Item.pair)).del (.int .i64 id))) (ht : w.mapTurned w' b) :
    BagAt F w' g b most last (without L id) := by
  have T : Turned (fun i => i = b) w w' := Turned.of_grown ht.grown (fun g e => (Option.some.inj e).symm)
  rw [del_mapD, ← without_pair] at ho
  have hsub : ∀ x ∈ without L id, x ∈ L := fun x hx => (List.mem_filter.1 hx).1
  exact ⟨(T.block g h.lt.1 h.apart.1).trans h.cell, ho, fun x hx => h.ids x (hsub x hx), h.rise.filter _, fun x hx => ⟨(h.msgs x (hsub x hx)).1.kept (T.kept fun i hf e => h.apart.2.2 (e ▸ hf)), (h.msgs x (hsub x hx)).2⟩, h.apart⟩

set_option maxHeartbeats 1000000 in
set_option maxRecDepth 100000 in
theorem take_err (p : Value) (id err : Int) (w : World) (he : err ≠ 0) (h : ∀ w', Below w.heap.size w w' → Calls Try.prog 35 #[p, .int .i64 id] w' (Finds zeroMsg err w')) :
    Calls Try.prog 15 #[p, .int .i64 id] w (Finds zeroMsg err w) := by
  have C := hide h
  have hne := neq_of he
  clear h he
  go_enter Try.func15, Try.ntmps15
  go_wp2_with (fail)
  refine (C.out _ ((Below.refl _ _).alloc (Nat.le_refl _) _)).mono ?_
  rintro e w1 ⟨rfl, hb⟩
  have hlt : w.heap.size < w1.heap.size := Nat.lt_of_lt_of_le (by simp) hb.size
  have HZ : Hid ((w1.alloc (.cells zcells 42 (0, 0))).heap[w.heap.size]? = some (.cells zcells 42 (0, 0))) := (heap_alloc_old _ _ hlt).trans ((hb.block _ (by simp)).trans (heap_alloc_new _ _))
  have HB : Hid (Below w.heap.size w (w1.alloc (.cells zcells 42 (0, 0)))) := (((Below.refl _ _).alloc (Nat.le_refl _) _).trans (hb.mono (by simp))).alloc (by omega) _
  clear hb
  go_wp2_with (first
    | (refine wpList_store_box (by rfl) 42 _ _ (by rfl) (w1.heap.size) 0 (zcells) (by rfl) (by rfl) 42 (zcells) (heap_alloc_new w1 _) (by kernel_rfl) (by exact Nat.le_of_ble_eq_true rfl) (by exact zcells_one) ?_; intro w2 hb2 hg2; rw [put_zero] at hb2)
    | (refine wpList_store_box (by rfl) 42 _ _ (by rfl) (w.heap.size) 0 (zcells) (by rfl) (by rfl) 42 (zcells) ((hg2.block w.heap.size (by simp; omega) (by simp; omega)).trans HZ.out) (by kernel_rfl) (by exact Nat.le_of_ble_eq_true rfl) (by exact zcells_one) ?_; intro w3 hb3 hg3; rw [put_zero] at hb3))
  refine bodyPost_ret (results_box2 Try.results15 _ _ (w.heap.size) 42 _ _ (by rfl) (hb3) Try.underlying42 (by rfl) (by kernel_rfl) _ (by rfl)) (by rfl) ?_
  exact ⟨rfl, (HB.out.grown hg2 (Nat.le_trans (Nat.le_of_lt hlt) (by simp)) (fun k hk => by have := Option.some.inj hk; omega)).grown hg3 (Nat.le_trans (Nat.le_trans (Nat.le_of_lt hlt) (by simp)) hg2.size) (fun k hk => by have := Option.some.inj hk; omega)⟩

/-- What Take hands back: the message's value, which is kept no more. -/
def Taken (F : Nat → Prop) (g b : Nat) (most : Int) (last : Nat) (L : List Item) (id : Int) (x : Item) (w : World) (e : Ending) (w' : World) : Prop :=
  e = .returned (.tuple #[x.val, .int .i64 0]) ∧ MsgAt F w' x.val x.msg ∧ BagAt F w' g b most last (without L id) ∧ Turned (fun i => i = g ∨ i = b) w w'

set_option maxHeartbeats 1000000 in
set_option maxRecDepth 100000 in
theorem take_ok {F : Nat → Prop} {g b : Nat} {most : Int} {last : Nat} {L : List Item} (id : Int) (x : Item) (w : World) (h : BagAt F w g b most last L) (hid : I64 id) (hx : itemAt L id = some x) (hF : ∀ i, w.heap.size ≤ i → F i) :
    Calls Try.prog 15 #[.pointer (some ⟨g, 0, none⟩), .int .i64 id] w (Taken F g b most last L id x w) := by
  have C := hide (fun w' (hb : Below w.heap.size w w') => find_some id x w' (h.later hb) hid hx)
  have H := hide h
  have HI := hide (int_key hid)
  obtain ⟨hg, hb⟩ := h.lt
  have hxm := (h.msgs x (item_mem hx).1).1
  have HXM := hide hxm
  obtain ⟨s, o, i, hv, hl⟩ := hxm
  obtain ⟨h1, h2, h3⟩ := hl.cell
  obtain ⟨xi, xv, m⟩ := x
  simp only at hv hl C HXM ⊢
  subst hv
  have HF := hide hF
  clear h hid hx hl hF
  go_enter Try.func15, Try.ntmps15
  go_wp2_with (fail)
  refine (C.out _ ((Below.refl _ _).alloc (Nat.le_refl _) _)).mono ?_
  rintro e w1 ⟨rfl, hbl⟩
  have hlt : w.heap.size < w1.heap.size := Nat.lt_of_lt_of_le (by simp) hbl.size
  have hlt2 : w.heap.size < (w1.alloc (.cells zcells 42 (0, 0))).heap.size := Nat.lt_of_lt_of_le hlt (by simp)
  have HZ : Hid ((w1.alloc (.cells zcells 42 (0, 0))).heap[w.heap.size]? = some (.cells zcells 42 (0, 0))) := (heap_alloc_old _ _ hlt).trans ((hbl.block _ (by simp)).trans (heap_alloc_new _ _))
  have HB : Hid (Below w.heap.size w (w1.alloc (.cells zcells 42 (0, 0)))) := (((Below.refl _ _).alloc (Nat.le_refl _) _).trans (hbl.mono (by simp))).alloc (by omega) _
  have HBAG : Hid (∀ {w2 : World}, (w1.alloc (.cells zcells 42 (0, 0))).grownBy w2 (some w1.heap.size) → BagAt F w2 g b most last L ∧ Turned (fun i => i = g ∨ i = b) w w2 ∧ w2.cell? ⟨g, 0, none⟩ = some (.map (some b))) := fun {w2} hg2 => by
    have hb2 : Below w.heap.size w w2 := HB.out.grown hg2 (Nat.le_of_lt hlt2) (fun k hk => by have := Option.some.inj hk; omega)
    exact ⟨H.out.later hb2, Turned.of_below hb2 _, (H.out.later hb2).cells.1⟩
  clear hbl
  go_wp2_with (first
    | (refine wpList_store_box (by rfl) 42 _ _ (by rfl) (w1.heap.size) 0 ((m.cells s o i).toArray) (by rfl) (by rfl) 42 (zcells) (heap_alloc_new w1 _) (by kernel_rfl) (by exact Nat.le_of_ble_eq_true rfl) (by exact m.one h1 h2 h3) ?_; intro w2 hb2 hg2; rw [put_zmsg] at hb2; have hc0 := (HBAG.out hg2).2.2)
    | (at_delete; refine wpList_delete_own _ rfl _ _ 70 3 rfl 42 Try.int_law Try.underlying70 heldR b last (mapD (L.map Item.pair)) rfl (HBAG.out hg2).1.map _ _ rfl HI.out ?_; intro w3 ho3 ht3)
    | (refine wpList_load_box (by rfl) 42 _ (by rfl) (w1.heap.size) 0 (by rfl) 42 _ ((ht3.grown.block w1.heap.size (lt_of_block hb2) (by simp; omega)).trans hb2) 34 _ Try.underlying42 (by rfl) (by kernel_rfl) (m.cells s o i) (by rfl) (by rfl) ?_)
    | (refine wpList_store_box (by rfl) 42 _ _ (by rfl) (w.heap.size) 0 ((m.cells s o i).toArray) (by rfl) (by rfl) 42 (zcells) ((ht3.grown.block w.heap.size (Nat.lt_of_lt_of_le hlt2 hg2.size) (by simp; omega)).trans ((hg2.block w.heap.size hlt2 (by simp; omega)).trans HZ.out)) (by kernel_rfl) (by exact Nat.le_of_ble_eq_true rfl) (by exact m.one h1 h2 h3) ?_; intro w4 hb4 hg4; rw [put_zmsg] at hb4))
  refine bodyPost_ret (results_box2 Try.results15 _ _ (w.heap.size) 42 _ _ (by rfl) (hb4) Try.underlying42 (by rfl) (by kernel_rfl) _ (by rfl)) (by rfl) ?_
  have hs2 := Nat.lt_of_lt_of_le hlt2 hg2.size
  have T3 : Turned (fun i => i = g ∨ i = b) w w3 := (HBAG.out hg2).2.1.trans (Turned.of_grown ht3.grown (fun k e => .inr (Option.some.inj e).symm))
  have B3 := (HBAG.out hg2).1.drop ho3 ht3
  have hw3 : w.heap.size < w3.heap.size := Nat.lt_of_lt_of_le hs2 ht3.grown.size
  have B4 : BagAt F w4 g b most last (without L id) := by
    refine ⟨(hg4.block g (by omega) (by simp; omega)).trans B3.cell, ?_, B3.ids, B3.rise, fun x hx => ⟨?_, (B3.msgs x hx).2⟩, B3.apart⟩
    · obtain ⟨es, clock, hbm, rest⟩ := B3.map
      exact ⟨es, clock, (hg4.block b (by omega) (by simp; omega)).trans hbm, rest⟩
    · have hxi := H.out.msgs x (List.mem_filter.1 hx).1
      exact (hxi.1.kept (F := F) (w' := w4) ⟨Nat.le_trans (Nat.le_of_lt hw3) hg4.size, fun i hi hf => (hg4.block i (by omega) (by simp; omega)).trans (T3.block i hi (fun e => e.elim (fun e => H.out.apart.2.1 (e ▸ hf)) (fun e => H.out.apart.2.2 (e ▸ hf))))⟩)
  have T4 : Turned (fun i => i = g ∨ i = b) w w4 :=
    ⟨hg4.os.trans T3.os, hg4.tape.trans T3.tape, hg4.output.trans T3.output, Nat.le_trans T3.size hg4.size, fun i hi hn => (hg4.block i (by omega) (by simp; omega)).trans (T3.block i hi hn)⟩
  exact ⟨rfl, HXM.out.kept (T4.kept fun i hf e => e.elim (fun e => H.out.apart.2.1 (e ▸ hf)) (fun e => H.out.apart.2.2 (e ▸ hf))), B4, T4⟩

/-- What Look hands back: the message in new memory, and whether there is one. -/
def Looked (m : MsgD) (ok : Bool) (w : World) (e : Ending) (w' : World) : Prop :=
  ∃ v, e = .returned (.tuple #[v, .bool ok]) ∧ MsgAt (w.heap.size ≤ ·) w' v m ∧ Below w.heap.size w w'

/-- The same, in memory that may be written. -/
def LookOwned (m : MsgD) (ok : Bool) (w : World) (e : Ending) (w' : World) : Prop :=
  ∃ s o i ps, e = .returned (.tuple #[.agg (m.cells s o i).toArray, .bool ok]) ∧ MsgFree (w.heap.size ≤ ·) w' m s o i ps ∧ Below w.heap.size w w'

set_option maxHeartbeats 1000000 in
set_option maxRecDepth 100000 in
theorem look_own (F : Nat → Prop) (p v : Value) (m : MsgD) (id err : Int) (ok : Bool) (w : World) (h : ∀ w', Below w.heap.size w w' → Calls Try.prog 35 #[p, .int .i64 id] w' (Finds v err w')) (hv : MsgAt F w v m) (hm : m.ok) (hok : (err == 0) = ok) :
    Calls Try.prog 22 #[p, .int .i64 id] w (LookOwned m ok w) := by
  have C := hide h
  have HV := hide hv
  have HM := hide hm
  obtain ⟨s, o, i, rfl, hl⟩ := hv
  obtain ⟨h1, h2, h3⟩ := hl.cell
  clear h hm hl
  go_enter Try.func22, Try.ntmps22
  go_wp2_with (fail)
  refine (C.out _ ((Below.refl _ _).alloc (Nat.le_refl _) _)).mono ?_
  rintro e w1 ⟨rfl, hbl⟩
  have hlt : w.heap.size < w1.heap.size := Nat.lt_of_lt_of_le (by simp) hbl.size
  have hlt2 : w.heap.size < (w1.alloc (.cells zcells 42 (0, 0))).heap.size := Nat.lt_of_lt_of_le hlt (by simp)
  have HZ : Hid ((w1.alloc (.cells zcells 42 (0, 0))).heap[w.heap.size]? = some (.cells zcells 42 (0, 0))) := (heap_alloc_old _ _ hlt).trans ((hbl.block _ (by simp)).trans (heap_alloc_new _ _))
  have HB : Hid (Below w.heap.size w (w1.alloc (.cells zcells 42 (0, 0)))) := (((Below.refl _ _).alloc (Nat.le_refl _) _).trans (hbl.mono (by simp))).alloc (by omega) _
  clear hbl
  go_wp2_with (first
    | (refine wpList_store_box (by rfl) 42 _ _ (by rfl) (w1.heap.size) 0 ((m.cells s o i).toArray) (by rfl) (by rfl) 42 (zcells) (heap_alloc_new w1 _) (by kernel_rfl) (by exact Nat.le_of_ble_eq_true rfl) (by exact m.one h1 h2 h3) ?_; intro w2 hb2 hg2; rw [put_zmsg] at hb2)
    | (refine wpList_load_box (by rfl) 42 _ (by rfl) (w1.heap.size) 0 (by rfl) 42 _ (hb2) 34 _ Try.underlying42 (by rfl) (by kernel_rfl) (m.cells s o i) (by rfl) (by rfl) ?_))
  have hB2 : Below w.heap.size w w2 := HB.out.grown hg2 (Nat.le_of_lt hlt2) (fun k hk => by have := Option.some.inj hk; omega)
  have Z2 : w2.heap[w.heap.size]? = some (.cells zcells 42 (0, 0)) := (hg2.block w.heap.size hlt2 (by simp; omega)).trans HZ.out
  refine (copy_own F m (.agg (m.cells s o i).toArray) w2 (HV.out.kept (Kept.of_below hB2 F)) HM.out.1 (by have := HM.out.2; omega)).mono ?_
  rintro e w3 ⟨s3, o3, i3, ps3, rfl, hv3, hb3⟩
  have HV3 := hide hv3
  have k1 : s3.oneCell' = true := FlatAt.oneCell hv3.1
  have k2 : o3.oneCell' = true := FlatAt.oneCell hv3.2.1.1
  have k3 : i3.oneCell' = true := FlatAt.oneCell hv3.2.2.2.1
  have Z3 := hide ((hb3.block _ (lt_of_block Z2)).trans Z2)
  have HB3 := hide hb3
  have HB2 := hide hB2
  have HB22 := hide hb2
  clear hv3 hb3 hB2 Z2 hb2
  go_wp2_with (refine wpList_store_box (by rfl) 42 _ _ (by rfl) (w.heap.size) 0 ((m.cells s3 o3 i3).toArray) (by rfl) (by rfl) 42 (zcells) (Z3.out) (by kernel_rfl) (by exact Nat.le_of_ble_eq_true rfl) (by exact m.one k1 k2 k3) ?_; intro w4 hb4 hg4; rw [put_zmsg] at hb4)
  refine bodyPost_ret (results_box2 Try.results22 _ _ (w.heap.size) 42 _ _ (by rfl) (hb4) Try.underlying42 (by rfl) (by kernel_rfl) _ (by rfl)) (by rfl) ?_
  have hs3 : w.heap.size < w3.heap.size := lt_of_block Z3.out
  have hw2 := HB2.out.size
  have hw1 := lt_of_block HB22.out
  have B4 : Below w.heap.size w w4 := (HB2.out.trans (HB3.out.mono hw2)).grown hg4 (Nat.le_of_lt hs3) (fun k hk => by have := Option.some.inj hk; omega)
  exact ⟨_, _, _, ps3, rfl, (HV3.out.kept (Kept.of_grown hg4 (fun k e hf => by have e2 := Option.some.inj e; have h9 : w2.heap.size ≤ k := hf; omega))).mono (fun k _ hk => Nat.le_trans hw2 hk), B4⟩

theorem look_any (F : Nat → Prop) (p v : Value) (m : MsgD) (id err : Int) (ok : Bool) (w : World) (h : ∀ w', Below w.heap.size w w' → Calls Try.prog 35 #[p, .int .i64 id] w' (Finds v err w')) (hv : MsgAt F w v m) (hm : m.ok) (hok : (err == 0) = ok) :
    Calls Try.prog 22 #[p, .int .i64 id] w (Looked m ok w) := (look_own F p v m id err ok w h hv hm hok).mono fun _ _ ⟨_, _, _, _, he, h, hb⟩ => ⟨_, he, h.at_, hb⟩

set_option maxHeartbeats 1000000 in
set_option maxRecDepth 100000 in
theorem twice_err (p : Value) (id err : Int) (w : World) (he : err ≠ 0) (h : ∀ w', Below w.heap.size w w' → Calls Try.prog 35 #[p, .int .i64 id] w' (Finds zeroMsg err w')) :
    Calls Try.prog 18 #[p, .int .i64 id] w fun e w' => e = .returned (.tuple #[.int .i64 0, .int .i64 err]) ∧ Below w.heap.size w w' := by
  have C := hide h
  have hne := neq_of he
  clear h he
  go_enter Try.func18, Try.ntmps18
  go_wp2_with (fail)
  refine (C.out _ (Below.refl _ _)).mono ?_
  rintro e w1 ⟨rfl, hb⟩
  have HB := hide hb
  have hs := hb.size
  clear hb
  go_wp2_with (refine wpList_store_box (by rfl) 42 _ _ (by rfl) (w1.heap.size) 0 (zcells) (by rfl) (by rfl) 42 (zcells) (heap_alloc_new w1 _) (by kernel_rfl) (by exact Nat.le_of_ble_eq_true rfl) (by exact zcells_one) ?_; intro w2 hb2 hg2; rw [put_zero] at hb2)
  go_ret2
  exact ⟨rfl, (HB.out.alloc hs _).grown hg2 (Nat.le_trans hs (by simp)) (fun k hk => by have := Option.some.inj hk; omega)⟩

set_option maxHeartbeats 1000000 in
set_option maxRecDepth 100000 in
theorem twice_ok (p v : Value) (m : MsgD) (F : Nat → Prop) (id r1 r2 : Int) (w : World) (G : World → World → Prop) (h : ∀ w', Below w.heap.size w w' → Calls Try.prog 35 #[p, .int .i64 id] w' (Finds v 0 w')) (hv : MsgAt F w v m)
    (hp : ∀ w', Below w.heap.size w w' → Calls Try.prog 13 #[p, v] w' fun e w2 => e = .returned (.tuple #[.int .i64 r1, .int .i64 r2]) ∧ G w' w2) :
    Calls Try.prog 18 #[p, .int .i64 id] w fun e w' => e = .returned (.tuple #[.int .i64 r1, .int .i64 r2]) ∧ ∃ w1, Below w.heap.size w w1 ∧ G w1 w' := by
  have C := hide h
  have HP := hide hp
  obtain ⟨s, o, i, rfl, hl⟩ := hv
  obtain ⟨h1, h2, h3⟩ := hl.cell
  clear h hl hp
  go_enter Try.func18, Try.ntmps18
  go_wp2_with (fail)
  refine (C.out _ (Below.refl _ _)).mono ?_
  rintro e w1 ⟨rfl, hb⟩
  have HB := hide hb
  have hs := hb.size
  clear hb
  go_wp2_with (first
    | (refine wpList_store_box (by rfl) 42 _ _ (by rfl) (w1.heap.size) 0 ((m.cells s o i).toArray) (by rfl) (by rfl) 42 (zcells) (heap_alloc_new w1 _) (by kernel_rfl) (by exact Nat.le_of_ble_eq_true rfl) (by exact m.one h1 h2 h3) ?_; intro w2 hb2 hg2; rw [put_zmsg] at hb2)
    | (refine wpList_load_box (by rfl) 42 _ (by rfl) (w1.heap.size) 0 (by rfl) 42 _ (hb2) 34 _ Try.underlying42 (by rfl) (by kernel_rfl) (m.cells s o i) (by rfl) (by rfl) ?_))
  have hB2 := hide ((HB.out.alloc hs _).grown hg2 (Nat.le_trans hs (by simp)) (fun k hk => by have := Option.some.inj hk; omega))
  refine (HP.out _ hB2.out).mono ?_
  rintro e w3 ⟨rfl, hG⟩
  have HG := hide hG
  have HB22 := hide hb2
  clear hG hb2
  go_wp2
  go_ret2
  exact ⟨rfl, w2, hB2.out, HG.out⟩
end Go.Proofs.Ytaimnhlpdkpobaa
