/- The document's examples of package bag: the walk over droverlaw04.lives. -/
import Derived.Test.YtaimnhlpdkpobaaClear
namespace Go.Proofs.Ytaimnhlpdkpobaa
open Go.RowKit Go.Maps

theorem twice_yes {F : Nat → Prop} {g b : Nat} {most : Int} {last : Nat} {L : List Item} (id : Int) (x : Item) (w : World) (h : BagAt F w g b most last L) (hf : (L.length : Int) < most) (hlast : last < 1000000) (hid : I64 id) (hx : itemAt L id = some x) (hF : ∀ i, w.heap.size ≤ i → F i) :
    Calls Try.prog 18 #[.pointer (some ⟨g, 0, none⟩), .int .i64 id] w (PutIn F g b most last L x.msg w) := by
  have hxm := h.msgs x (item_mem hx).1
  refine (twice_ok _ x.val x.msg F id ((last : Int) + 1) 0 w (fun w1 w2 => ∃ v, BagAt F w2 g b most (last + 1) (L ++ [⟨(last : Int) + 1, v, x.msg⟩]) ∧ Turned (fun i => i = g ∨ i = b) w1 w2)
    (fun w' hb => find_some id x w' (h.later hb) hid hx) hxm.1 (fun w' hb => (put_yes x.msg x.val w' (h.later hb) hf hlast (hxm.1.kept (Kept.of_below hb F)) hxm.2 (fun i hi => hF i (Nat.le_trans hb.size hi))).mono ?_)).mono ?_
  · rintro e w2 ⟨v, he, h1, h2⟩
    exact ⟨he, v, h1, h2⟩
  · rintro e w2 ⟨he, w1, hb, v, h1, h2⟩
    exact ⟨v, he, h1, (Turned.of_below hb _).trans h2⟩
theorem twice_full {F : Nat → Prop} {g b : Nat} {most : Int} {last : Nat} {L : List Item} (id : Int) (x : Item) (w : World) (h : BagAt F w g b most last L) (hf : most ≤ (L.length : Int)) (hid : I64 id) (hx : itemAt L id = some x) :
    Calls Try.prog 18 #[.pointer (some ⟨g, 0, none⟩), .int .i64 id] w fun e w' => e = .returned (.tuple #[.int .i64 0, .int .i64 7]) ∧ Below w.heap.size w w' := by
  have hxm := h.msgs x (item_mem hx).1
  refine (twice_ok _ x.val x.msg F id 0 7 w (fun w1 w2 => Below w1.heap.size w1 w2) (fun w' hb => find_some id x w' (h.later hb) hid hx) hxm.1 (fun w' hb => ?_)).mono ?_
  · obtain ⟨s, o, i, e, _⟩ := hxm.1
    rw [e]
    exact put_full x.msg s o i w' (h.later hb) hf
  · rintro e w2 ⟨he, w1, hb, h1⟩
    exact ⟨he, hb.trans (h1.mono hb.size)⟩

/-- A message of that kind, and nothing else. -/
def kindMsg (k : Int) : MsgD := ⟨k, 0, 0, 0, 0, 0, 0, 0, 0, false, false, false, .zero, 0, 0, 0, 0, 0, 0, 0, 0, 0, false, [], []⟩
theorem kind_ok (k : Int) : (kindMsg k).ok := ⟨⟨by simp [kindMsg, OpD.zero], by simp [kindMsg], by simp [kindMsg]⟩, by simp [kindMsg]⟩
theorem kind_at (F : Nat → Prop) (w : World) (k : Int) : MsgAt F w (.agg ((kindMsg k).cells (.slice none 0 0) (.slice none 0 0) (.slice none 0 0)).toArray) (kindMsg k) :=
  ⟨_, _, _, rfl, StepsAt.nil_ F w, OpsAt.nil_ F w, IncsAt.nil_ F w⟩

theorem ints_lit2 (w : World) (T : TypeId) (a b : Int) (ha : I64 a) (hb : I64 b) : IHolds (w.alloc (.cells #[.int .i64 a, .int .i64 b] T (0, 0))) (w.heap.size + 1) (some ⟨w.heap.size, 0, none⟩) 2 [a, b] :=
  ⟨rfl, fun x hx => by
    rcases List.mem_cons.1 hx with rfl | hx
    · exact ha
    · obtain rfl : x = b := by simpa using hx
      exact hb, fun _ => ⟨w.heap.size, 0, rfl, by omega, fun i hi => by
    rw [Nat.zero_add, cell_of_row _ _ _ _ _ _ (heap_alloc_new w _)]
    match i, hi with
    | 0, _ => rfl
    | 1, _ => rfl⟩⟩

set_option maxHeartbeats 2000000 in
set_option maxRecDepth 100000 in
theorem lives_any (w : World) : Calls Try.prog 10 #[] w fun e w' => e = .returned (.bool true) ∧ Below w.heap.size w w' := by
  go_enter Try.func10, Try.ntmps10
  go_wp2_with (fail)
  refine (new_yes 9 w (by decide) (by decide)).mono ?_
  rintro e w1 ⟨g, b, rfl, hg, hb, hbl, hbag⟩
  have T1 := Turned.of_below hbl (fun i => i = g ∨ i = b)
  have B1 := hbag (fun i => i ≠ g ∧ i ≠ b) (fun h => h.1 rfl) (fun h => h.2 rfl)
  have hlt := B1.lt
  have C2 := hide (put_yes (kindMsg 1) _ w1 B1 (by decide) (by decide) (kind_at _ w1 1) (kind_ok 1) (fun i hi => by omega))
  have HT1 := hide T1
  clear hbl hbag B1 T1
  go_wp2_with (fail)
  refine C2.out.mono ?_
  rintro e w2 ⟨v1, rfl, B2, T2⟩
  have hs2 := T2.size
  have C3 := hide (put_yes (kindMsg 2) _ w2 B2 (by simp) (by simp) (kind_at _ w2 2) (kind_ok 2) (fun i hi => by omega))
  have HT2 := hide (HT1.out.trans T2)
  clear B2 T2 C2
  go_wp2_with (fail)
  refine C3.out.mono ?_
  rintro e w3 ⟨v2, rfl, B3, T3⟩
  have hs3 := T3.size
  have C4 := hide (twice_yes 1 ⟨1, v1, kindMsg 1⟩ w3 B3 (by simp) (by simp) ⟨by decide, by decide⟩ (by simp [itemAt]) (fun i hi => by omega))
  have HT3 := hide (HT2.out.trans T3)
  clear B3 T3 C3
  go_wp2_with (fail)
  refine C4.out.mono ?_
  rintro e w4 ⟨v3, rfl, B4, T4⟩
  have hs4 := T4.size
  have C5 := hide (take_ok 1 ⟨1, v1, kindMsg 1⟩ w4 B4 ⟨by decide, by decide⟩ (by simp [itemAt]) (fun i hi => by omega))
  have HT4 := hide (HT3.out.trans T4)
  clear B4 T4 C4
  go_wp2_with (fail)
  refine C5.out.mono ?_
  rintro e w5 ⟨rfl, M5, B5, T5⟩
  obtain ⟨s, o, i, hv, hl⟩ := M5
  obtain ⟨h1, h2, h3⟩ := hl.cell
  simp only at hv
  subst hv
  have HT5 := hide (HT4.out.trans T5)
  have hs5 := T5.size
  have HB5 := hide B5
  clear hl B5 T5 C5
  go_wp2_with (refine wpList_store_box (by rfl) 42 _ _ (by rfl) (w5.heap.size) 0 (((kindMsg 1).cells s o i).toArray) (by rfl) (by rfl) 42 (zcells) (heap_alloc_new w5 _) (by kernel_rfl) (by exact Nat.le_of_ble_eq_true rfl) (by exact (kindMsg 1).one h1 h2 h3) ?_; intro w6 hb6 hg6; rw [put_zmsg] at hb6; have f0 := box_cell hb6 0 (.int .i64 1) (by rfl))
  have W5 : Below w.heap.size w w5 := HT5.out.below (fun i hi => by omega) (Nat.le_refl _)
  have W6 : Below w.heap.size w w6 := (W5.alloc W5.size _).grown hg6 (Nat.le_trans W5.size (by simp)) (fun k hk => by have := Option.some.inj hk; have := W5.size; omega)
  have K6 : Below w5.heap.size w5 w6 := ((Below.refl _ _).alloc (Nat.le_refl _) _).grown hg6 (by simp) (fun k hk => by have := Option.some.inj hk; omega)
  have C6 := ids_yes w6 (HB5.out.later K6) (by decide)
  have hids : idsOf (without ([⟨1, .agg ((kindMsg 1).cells s o i).toArray, kindMsg 1⟩] ++ [⟨2, v2, kindMsg 2⟩] ++ [⟨3, v3, kindMsg 1⟩]) 1) = [2, 3] := by simp [idsOf, without]
  have C6' := hide (show Calls Try.prog 25 #[.pointer (some ⟨g, 0, none⟩)] w6 (NewInts w6 [2, 3]) from by rw [← hids]; simpa using C6)
  have HW6 := hide W6
  clear W5 W6 K6 C6 hids hb6 hg6
  refine C6'.out.mono ?_
  rintro e w7 ⟨A, n, c, rfl, _, hi7, _, hb7⟩
  have hn : n = 2 := hi7.1.symm
  subst hn
  have C8 := hide (refints_any A (some ⟨w7.heap.size, 0, none⟩) 2 c 2 2 w7.heap.size (w7.heap.size + 1) [2, 3] [2, 3] (w7.alloc (.cells #[.int .i64 2, .int .i64 3] 3 (0, 0))) (hi7.below ((Below.refl _ _).alloc (Nat.le_refl _) _)) (ints_lit2 w7 _ 2 3 ⟨by decide, by decide⟩ ⟨by decide, by decide⟩) (by decide) (by decide))
  rw [eqI_self] at C8
  have HW7 := hide (HW6.out.trans (hb7.mono HW6.out.size))
  have hs7 := HW7.out.size
  clear hi7 hb7
  go_wp2_with (fail)
  refine C8.out.mono ?_
  rintro e w8 ⟨rfl, q, rfl⟩
  go_wp2
  go_ret
  exact ⟨rfl, (HW7.out.alloc hs7 _).trans (below_drewN _ _ _)⟩
end Go.Proofs.Ytaimnhlpdkpobaa
