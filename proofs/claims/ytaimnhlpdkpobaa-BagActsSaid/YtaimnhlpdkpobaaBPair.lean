/- The bag and the document's bag side by side: what each call says and leaves, as functions of what is kept. -/
import Derived.Test.YtaimnhlpdkpobaaRBag
import Derived.Test.YtaimnhlpdkpobaaLives4
import Derived.Test.YtaimnhlpdkpobaaSame
namespace Go.Proofs.Ytaimnhlpdkpobaa
open Go.RowKit

def Item.key (x : Item) : Int × MsgD := (x.id, x.msg)
/-- All blocks but these three. -/
def Else3 (g b r : Nat) (i : Nat) : Prop := i ≠ g ∧ i ≠ b ∧ i ≠ r
/-- Both bags, and a box of the law's own. -/
structure BP (B : Nat) (w : World) (g b r bx : Nat) (most : Int) (last : Nat) (Q : List (Int × MsgD)) (last2 : Nat) (Q2 : List (Int × MsgD)) : Prop where
  bag : ∃ L, L.map Item.key = Q ∧ BagAt (Else3 g b r) w g b most last L
  ref : RB (Else3 g b r) w r most last2 Q2
  gr : g ≠ r
  br : b ≠ r
  og : B ≤ g
  ob : B ≤ b
  or : B ≤ r
  box : B ≤ bx ∧ bx < w.heap.size ∧ bx ≠ g ∧ bx ≠ b ∧ bx ≠ r
  low : last < 1000 ∧ last2 < 1000
/-- What a call leaves of all else. -/
def Stay (B g b r : Nat) (w w' : World) : Prop := Kept (Else3 g b r) w w' ∧ Below B w w'
theorem Stay.kb {B g b r bx : Nat} {w w' : World} (h : Stay B g b r w w') (hx : Else3 g b r bx) : Kept (fun i => i = bx) w w' := h.1.mono fun i _ e => by rw [e]; exact hx
theorem Stay.low {B g b r : Nat} {w w' : World} (h : Stay B g b r w w') (hx : B ≤ g ∧ B ≤ b ∧ B ≤ r) : Kept (fun i => i < B) w w' := h.1.mono fun i _ hi => ⟨by omega, by omega, by omega⟩
section
variable {B : Nat} {w w' : World} {g b r bx : Nat} {most : Int} {last last2 last' last2' : Nat} {Q Q2 Q' Q2' : List (Int × MsgD)}
theorem BP.later (h : BP B w g b r bx most last Q last2 Q2) (hb : Below w.heap.size w w') : BP B w' g b r bx most last Q last2 Q2 := by
  obtain ⟨L, h1, h2⟩ := h.bag
  exact ⟨⟨L, h1, h2.later hb⟩, h.ref.later hb, h.gr, h.br, h.og, h.ob, h.or, ⟨h.box.1, Nat.lt_of_lt_of_le h.box.2.1 hb.size, h.box.2.2⟩, h.low⟩
theorem BP.fit (h : BP B w g b r bx most last Q last2 Q2) : Fit (idsQ Q) := by
  obtain ⟨L, h1, h2⟩ := h.bag
  have h3 := h2.fit (by have := h.low; omega)
  have e : idsQ Q = idsOf L := by
    rw [← h1]
    simp [idsQ, idsOf, Item.key]
  rw [e]
  exact h3
theorem BP.rise (h : BP B w g b r bx most last Q last2 Q2) : Rise Q := by
  obtain ⟨L, h1, h2⟩ := h.bag
  rw [← h1]
  exact List.pairwise_map.2 h2.rise
theorem BP.ok (h : BP B w g b r bx most last Q last2 Q2) {x : Int × MsgD} (hx : x ∈ Q) : x.2.ok := by
  obtain ⟨L, h1, h2⟩ := h.bag
  rw [← h1] at hx
  obtain ⟨y, hy, rfl⟩ := List.mem_map.1 hx
  exact (h2.msgs y hy).2
theorem BP.blt (h : BP B w g b r bx most last Q last2 Q2) : B ≤ w.heap.size := Nat.le_trans h.box.1 (Nat.le_of_lt h.box.2.1)
theorem BP.len (h : BP B w g b r bx most last Q last2 Q2) : Q.length ≤ last := by
  obtain ⟨L, h1, h2⟩ := h.bag
  rw [← h1, List.length_map]
  exact h2.count
theorem else_low (h : BP B w g b r bx most last Q last2 Q2) {i : Nat} (hi : i < B) : Else3 g b r i := ⟨by have := h.og; omega, by have := h.ob; omega, by have := h.or; omega⟩
theorem else_new (h : BP B w g b r bx most last Q last2 Q2) {i : Nat} (hi : w.heap.size ≤ i) : Else3 g b r i := by
  obtain ⟨L, _, h2⟩ := h.bag
  have h3 := h2.lt
  have h4 := h.ref.lt
  exact ⟨by omega, by omega, by omega⟩
theorem stay_bag (h : BP B w g b r bx most last Q last2 Q2) (hT : Turned (fun i => i = g ∨ i = b) w w') : Stay B g b r w w' :=
  ⟨hT.kept fun _ hi e => e.elim hi.1 hi.2.1, hT.below (fun i e => by have h1 := h.og; have h2 := h.ob; rcases e with e | e <;> omega) h.blt⟩
theorem BP.bxe (h : BP B w g b r bx most last Q last2 Q2) : Else3 g b r bx := h.box.2.2
theorem BP.lows (h : BP B w g b r bx most last Q last2 Q2) : B ≤ g ∧ B ≤ b ∧ B ≤ r := ⟨h.og, h.ob, h.or⟩
theorem BP.bagTurned (h : BP B w g b r bx most last Q last2 Q2) {L : List Item} (hB : BagAt (Else3 g b r) w' g b most last' L) (hL : L.map Item.key = Q') (hT : Turned (fun i => i = g ∨ i = b) w w') (hlow : last' < 1000) :
    BP B w' g b r bx most last' Q' last2 Q2 ∧ Stay B g b r w w' :=
  ⟨⟨⟨L, hL, hB⟩, h.ref.kept (hT.kept fun i hi e => by
    have h1 := h.gr
    have h2 := h.br
    rcases hi with hi | hi
    · rcases e with e | e <;> omega
    · rcases e with e | e
      · exact hi.1 e
      · exact hi.2.1 e), h.gr, h.br, h.og, h.ob, h.or, ⟨h.box.1, Nat.lt_of_lt_of_le h.box.2.1 hT.size, h.box.2.2⟩, hlow, h.low.2⟩, stay_bag h hT⟩
theorem stay_ref (h : BP B w g b r bx most last Q last2 Q2) (hG : w.grownBy w' (some r)) : Stay B g b r w w' :=
  ⟨Kept.of_grown hG fun _ e hi => hi.2.2 (Option.some.inj e).symm, (Below.refl _ _).grown hG h.blt fun q e => by have e2 := Option.some.inj e; have h1 := h.or; omega⟩
theorem BP.refTurned (h : BP B w g b r bx most last Q last2 Q2) (hR : RB (Else3 g b r) w' r most last2' Q2') (hG : w.grownBy w' (some r)) (hlow : last2' < 1000) :
    BP B w' g b r bx most last Q last2' Q2' ∧ Stay B g b r w w' := by
  obtain ⟨L, h1, h2⟩ := h.bag
  have hk : Kept (fun i => i = g ∨ i = b ∨ Else3 g b r i) w w' := Kept.of_grown hG fun q e hi => by
    have e2 := Option.some.inj e
    have h1 := h.gr
    have h3 := h.br
    rcases hi with hi | hi | hi
    · omega
    · omega
    · exact hi.2.2 e2.symm
  exact ⟨⟨⟨L, h1, h2.kept hk⟩, hR, h.gr, h.br, h.og, h.ob, h.or, ⟨h.box.1, Nat.lt_of_lt_of_le h.box.2.1 hG.size, h.box.2.2⟩, h.low.1, hlow⟩, stay_ref h hG⟩
theorem item_q {L : List Item} (id : Int) : (itemAt L id).map (·.msg) = qAt (L.map Item.key) id := by
  unfold itemAt qAt
  rw [List.find?_map, Option.map_map]
  rfl
/-- What the calls say of a message: the message, in whatever memory, and a number. -/
def SaysM (F : Nat → Prop) (x : MsgD) (y : Value) (e : Ending) (w' : World) : Prop := ∃ s o i, e = .returned (.tuple #[.agg (x.cells s o i).toArray, y]) ∧ Lists F w' x s o i
theorem low_true {F : Nat → Prop} {m : MsgD} {s o i : Value} (h : Lists F w m s o i) : Lists (fun _ => True) w m s o i := h.mono fun _ _ _ => trivial
theorem put_low {m : MsgD} (h : last < 100) : (putQ most last Q m).2.2.1 < 1000 := by
  unfold putQ
  split <;> simp only <;> omega
theorem put_le {m : MsgD} : (putQ most last Q m).2.2.1 ≤ last + 1 := by
  unfold putQ
  split <;> simp only <;> omega
theorem twice_le {id : Int} : (twiceQ most last Q id).2.2.1 ≤ last + 1 := by
  unfold twiceQ
  split
  · simp only; omega
  · exact put_le

theorem bp_put (m : MsgD) (s o i : Value) (h : BP B w g b r bx most last Q last2 Q2) (hl : Lists (· < B) w m s o i) (hm : m.ok) (hlast : last < 100) :
    Calls Try.prog 13 #[.pointer (some ⟨g, 0, none⟩), .agg (m.cells s o i).toArray] w fun e w' => e = .returned (.tuple #[.int .i64 (putQ most last Q m).1, .int .i64 (putQ most last Q m).2.1]) ∧ BP B w' g b r bx most (putQ most last Q m).2.2.1 (putQ most last Q m).2.2.2 last2 Q2 ∧ Stay B g b r w w' := by
  obtain ⟨L, h1, h2⟩ := h.bag
  have hlen : L.length = Q.length := by rw [← h1, List.length_map]
  by_cases hf : most ≤ (Q.length : Int)
  · have e : putQ most last Q m = (0, 7, last, Q) := by unfold putQ; rw [if_pos hf]
    rw [e]
    refine (put_full m s o i w h2 (by rw [hlen]; exact hf)).mono ?_
    rintro e w' ⟨rfl, hb⟩
    exact ⟨rfl, h.later hb, stay_bag h (Turned.of_below hb _)⟩
  · have e : putQ most last Q m = ((last : Int) + 1, 0, last + 1, Q ++ [((last : Int) + 1, m)]) := by unfold putQ; rw [if_neg hf]
    rw [e]
    refine (put_yes m (.agg (m.cells s o i).toArray) w h2 (by rw [hlen]; omega) (by omega) ⟨s, o, i, rfl, hl.mono fun j _ hj => else_low h hj⟩ hm (fun j hj => else_new h hj)).mono ?_
    rintro e w' ⟨v, rfl, hB, hT⟩
    obtain ⟨a1, a2⟩ := h.bagTurned (Q' := Q ++ [((last : Int) + 1, m)]) hB (by rw [List.map_append, h1]; rfl) hT (by omega)
    exact ⟨rfl, a1, a2⟩
theorem bp_refput (m : MsgD) (s o i : Value) (h : BP B w g b r bx most last Q last2 Q2) (hl : Lists (· < B) w m s o i) (hlast : last2 < 100) (hlen : Q2.length < 1000) :
    Calls Try.prog 14 #[.pointer (some ⟨r, 0, none⟩), .agg (m.cells s o i).toArray] w fun e w' => e = .returned (.tuple #[.int .i64 (putQ most last2 Q2 m).1, .int .i64 (putQ most last2 Q2 m).2.1]) ∧ BP B w' g b r bx most last Q (putQ most last2 Q2 m).2.2.1 (putQ most last2 Q2 m).2.2.2 ∧ Stay B g b r w w' := by
  refine (refput_any m s o i w h.ref (hl.mono fun j _ hj => else_low h hj) (by omega) hlen).mono ?_
  rintro e w' ⟨rfl, hr, hg⟩
  obtain ⟨a1, a2⟩ := h.refTurned hr hg (put_low hlast)
  exact ⟨rfl, a1, a2⟩
theorem bp_take (id : Int) (h : BP B w g b r bx most last Q last2 Q2) (hid : I64 id) :
    Calls Try.prog 15 #[.pointer (some ⟨g, 0, none⟩), .int .i64 id] w fun e w' => SaysM (Else3 g b r) (takeQ Q id).1 (.int .i64 (takeQ Q id).2) e w' ∧ BP B w' g b r bx most last (dropQ Q id) last2 Q2 ∧ Stay B g b r w w' := by
  obtain ⟨L, h1, h2⟩ := h.bag
  have hq := item_q (L := L) id
  rw [h1] at hq
  rcases hx : itemAt L id with _ | x
  · rw [hx] at hq
    have e : takeQ Q id = (.zero, 8) := by unfold takeQ; rw [← hq]; rfl
    have hd : dropQ Q id = Q := drop_none fun y hy he => by
      have h3 : Q.find? (fun x => x.1 == id) = none := by
        have h4 : qAt Q id = none := hq.symm
        unfold qAt at h4
        simpa using h4
      have h5 := List.find?_eq_none.1 h3 y hy
      simp [he] at h5
    rw [e, hd]
    refine (take_err _ id 8 w (by decide) fun w' hb => find_none id w' (h2.later hb) hid hx).mono ?_
    rintro e w' ⟨rfl, hb⟩
    exact ⟨⟨_, _, _, rfl, zero_lists _ w'⟩, h.later hb, stay_bag h (Turned.of_below hb _)⟩
  · rw [hx] at hq
    have e : takeQ Q id = (x.msg, 0) := by unfold takeQ; rw [← hq]; rfl
    rw [e]
    refine (take_ok id x w h2 hid hx (fun j hj => else_new h hj)).mono ?_
    rintro e w' ⟨rfl, ⟨s, o, i, hv, hl⟩, hB, hT⟩
    obtain ⟨a1, a2⟩ := h.bagTurned (Q' := dropQ Q id) hB (by
      rw [← h1]
      unfold without dropQ
      rw [List.filter_map]
      rfl) hT h.low.1
    exact ⟨⟨s, o, i, by rw [hv], hl⟩, a1, a2⟩
theorem bp_reftake (id : Int) (h : BP B w g b r bx most last Q last2 Q2) (hr : Rise Q2) :
    Calls Try.prog 16 #[.pointer (some ⟨r, 0, none⟩), .int .i64 id] w fun e w' => SaysM (Else3 g b r) (takeQ Q2 id).1 (.int .i64 (takeQ Q2 id).2) e w' ∧ BP B w' g b r bx most last Q last2 (dropQ Q2 id) ∧ Stay B g b r w w' := by
  refine (reftake_any id w h.ref hr).mono ?_
  rintro e w' ⟨s, o, i, rfl, hl, hrb, hg⟩
  obtain ⟨a1, a2⟩ := h.refTurned hrb hg h.low.2
  exact ⟨⟨s, o, i, rfl, hl⟩, a1, a2⟩
theorem bp_twice (id : Int) (h : BP B w g b r bx most last Q last2 Q2) (hid : I64 id) (hlast : last < 100) :
    Calls Try.prog 18 #[.pointer (some ⟨g, 0, none⟩), .int .i64 id] w fun e w' => e = .returned (.tuple #[.int .i64 (twiceQ most last Q id).1, .int .i64 (twiceQ most last Q id).2.1]) ∧ BP B w' g b r bx most (twiceQ most last Q id).2.2.1 (twiceQ most last Q id).2.2.2 last2 Q2 ∧ Stay B g b r w w' := by
  obtain ⟨L, h1, h2⟩ := h.bag
  have hlen : L.length = Q.length := by rw [← h1, List.length_map]
  have hq := item_q (L := L) id
  rw [h1] at hq
  rcases hx : itemAt L id with _ | x
  · rw [hx] at hq
    have e : twiceQ most last Q id = (0, 8, last, Q) := by unfold twiceQ; rw [← hq]; rfl
    rw [e]
    refine (twice_err _ id 8 w (by decide) fun w' hb => find_none id w' (h2.later hb) hid hx).mono ?_
    rintro e w' ⟨rfl, hb⟩
    exact ⟨rfl, h.later hb, stay_bag h (Turned.of_below hb _)⟩
  · rw [hx] at hq
    have e : twiceQ most last Q id = putQ most last Q x.msg := by unfold twiceQ; rw [← hq]; rfl
    rw [e]
    by_cases hf : most ≤ (Q.length : Int)
    · have e : putQ most last Q x.msg = (0, 7, last, Q) := by unfold putQ; rw [if_pos hf]
      rw [e]
      refine (twice_full id x w h2 (by rw [hlen]; exact hf) hid hx).mono ?_
      rintro e w' ⟨rfl, hb⟩
      exact ⟨rfl, h.later hb, stay_bag h (Turned.of_below hb _)⟩
    · have e : putQ most last Q x.msg = ((last : Int) + 1, 0, last + 1, Q ++ [((last : Int) + 1, x.msg)]) := by unfold putQ; rw [if_neg hf]
      rw [e]
      refine (twice_yes id x w h2 (by rw [hlen]; omega) (by omega) hid hx (fun j hj => else_new h hj)).mono ?_
      rintro e w' ⟨v, rfl, hB, hT⟩
      obtain ⟨a1, a2⟩ := h.bagTurned (Q' := Q ++ [((last : Int) + 1, x.msg)]) hB (by rw [List.map_append, h1]; rfl) hT (by omega)
      exact ⟨rfl, a1, a2⟩
theorem bp_reftwice (id : Int) (h : BP B w g b r bx most last Q last2 Q2) (hlast : last2 < 100) (hlen : Q2.length < 1000) :
    Calls Try.prog 19 #[.pointer (some ⟨r, 0, none⟩), .int .i64 id] w fun e w' => e = .returned (.tuple #[.int .i64 (twiceQ most last2 Q2 id).1, .int .i64 (twiceQ most last2 Q2 id).2.1]) ∧ BP B w' g b r bx most last Q (twiceQ most last2 Q2 id).2.2.1 (twiceQ most last2 Q2 id).2.2.2 ∧ Stay B g b r w w' := by
  refine (reftwice_any id w h.ref (by omega) hlen).mono ?_
  rintro e w' ⟨rfl, hr, hg⟩
  obtain ⟨a1, a2⟩ := h.refTurned hr hg (by have := twice_le (most := most) (last := last2) (Q := Q2) (id := id); omega)
  exact ⟨rfl, a1, a2⟩
theorem to_key {L : List Item} (h : L.Pairwise (fun x y => x.id < y.id)) (place : Int) : toOf L place = toQ (L.map Item.key) place := by
  rw [toOf_eq h]
  unfold toQ idsQ
  rw [List.filter_map, List.map_map]
  rfl
theorem bp_clear (place : Int) (h : BP B w g b r bx most last Q last2 Q2) :
    Calls Try.prog 20 #[.pointer (some ⟨g, 0, none⟩), .int .i64 place] w fun e w' => e = .returned (.int .i64 ((toQ Q place).length : Int)) ∧ BP B w' g b r bx most last (clearQ Q place) last2 Q2 ∧ Stay B g b r w w' := by
  obtain ⟨L, h1, h2⟩ := h.bag
  refine (clear_yes place w h2 (by have := h.low; omega)).mono ?_
  rintro e w' ⟨rfl, hB, hT⟩
  obtain ⟨a1, a2⟩ := h.bagTurned (Q' := clearQ Q place) hB (by
    rw [← h1]
    unfold clearQ
    rw [List.filter_map]
    rfl) (hT.mono fun i e => .inr e) h.low.1
  exact ⟨by rw [to_key h2.rise, h1], a1, a2⟩
theorem bp_refclear (place : Int) (h : BP B w g b r bx most last Q last2 Q2) (hfit : Fit (idsQ Q2)) (hr : Rise Q2) :
    Calls Try.prog 21 #[.pointer (some ⟨r, 0, none⟩), .int .i64 place] w fun e w' => e = .returned (.int .i64 ((toQ Q2 place).length : Int)) ∧ BP B w' g b r bx most last Q last2 (clearQ Q2 place) ∧ Stay B g b r w w' := by
  refine (refclear_any place w h.ref hfit hr).mono ?_
  rintro e w' ⟨rfl, hrb, hg⟩
  obtain ⟨a1, a2⟩ := h.refTurned hrb hg h.low.2
  exact ⟨rfl, a1, a2⟩
theorem bp_look (id : Int) (h : BP B w g b r bx most last Q last2 Q2) (hid : I64 id) :
    Calls Try.prog 22 #[.pointer (some ⟨g, 0, none⟩), .int .i64 id] w fun e w' => SaysM (fun _ => True) (lookQ Q id).1 (.bool (lookQ Q id).2) e w' ∧ Below w.heap.size w w' := by
  obtain ⟨L, h1, h2⟩ := h.bag
  have hq := item_q (L := L) id
  rw [h1] at hq
  rcases hx : itemAt L id with _ | x
  · rw [hx] at hq
    have e : lookQ Q id = (.zero, false) := by unfold lookQ; rw [← hq]; rfl
    rw [e]
    refine (look_any (fun _ => True) _ zeroMsg .zero id 8 false w (fun w' hb => find_none id w' (h2.later hb) hid hx) (zeroMsg_at _ w) zero_ok rfl).mono ?_
    rintro e w' ⟨v, rfl, ⟨s, o, i, hv, hl⟩, hb⟩
    exact ⟨⟨s, o, i, by rw [hv], low_true hl⟩, hb⟩
  · rw [hx] at hq
    have e : lookQ Q id = (x.msg, true) := by unfold lookQ; rw [← hq]; rfl
    have hxm := h2.msgs x (item_mem hx).1
    rw [e]
    refine (look_any _ _ x.val x.msg id 0 true w (fun w' hb => find_some id x w' (h2.later hb) hid hx) hxm.1 hxm.2 rfl).mono ?_
    rintro e w' ⟨v, rfl, ⟨s, o, i, hv, hl⟩, hb⟩
    exact ⟨⟨s, o, i, by rw [hv], low_true hl⟩, hb⟩
theorem bp_reflook (id : Int) (h : BP B w g b r bx most last Q last2 Q2) :
    Calls Try.prog 23 #[.pointer (some ⟨r, 0, none⟩), .int .i64 id] w fun e w' => SaysM (fun _ => True) (lookQ Q2 id).1 (.bool (lookQ Q2 id).2) e w' ∧ Below w.heap.size w w' := by
  refine (reflook_any id w h.ref).mono ?_
  rintro e w' ⟨s, o, i, rfl, hl, hb⟩
  exact ⟨⟨s, o, i, rfl, low_true hl⟩, hb⟩
theorem bp_ids (h : BP B w g b r bx most last Q last2 Q2) : Calls Try.prog 25 #[.pointer (some ⟨g, 0, none⟩)] w (NewInts w (idsQ Q)) := by
  obtain ⟨L, h1, h2⟩ := h.bag
  have e : idsQ Q = idsOf L := by rw [← h1]; simp [idsQ, idsOf, Item.key]
  rw [e]
  exact ids_yes w h2 (by have := h.low; omega)
theorem bp_to (place : Int) (h : BP B w g b r bx most last Q last2 Q2) : Calls Try.prog 27 #[.pointer (some ⟨g, 0, none⟩), .int .i64 place] w (NewInts w (toQ Q place)) := by
  obtain ⟨L, h1, h2⟩ := h.bag
  have e : toQ Q place = toOf L place := by rw [to_key h2.rise, h1]
  rw [e]
  exact to_yes place w h2 (by have := h.low; omega)
end
/-- Both bags, what they keep the same. -/
structure BP0 (B : Nat) (w : World) (g b r : Nat) (most : Int) (last : Nat) (Q : List (Int × MsgD)) : Prop where
  bag : ∃ L, L.map Item.key = Q ∧ BagAt (Else3 g b r) w g b most last L
  ref : RB (Else3 g b r) w r most last Q
  gr : g ≠ r
  br : b ≠ r
  og : B ≤ g
  ob : B ≤ b
  or : B ≤ r
section
variable {B : Nat} {w w' : World} {g b r bx : Nat} {most : Int} {last : Nat} {Q : List (Int × MsgD)}
theorem BP.drop (h : BP B w g b r bx most last Q last Q) : BP0 B w g b r most last Q := ⟨h.bag, h.ref, h.gr, h.br, h.og, h.ob, h.or⟩
theorem BP0.later (h : BP0 B w g b r most last Q) (hb : Below w.heap.size w w') : BP0 B w' g b r most last Q := by
  obtain ⟨L, h1, h2⟩ := h.bag
  exact ⟨⟨L, h1, h2.later hb⟩, h.ref.later hb, h.gr, h.br, h.og, h.ob, h.or⟩
theorem BP0.with (h : BP0 B w g b r most last Q) (hb : Below w.heap.size w w') (hx : w.heap.size < w'.heap.size) (hl : last < 1000) : BP B w' g b r w.heap.size most last Q last Q := by
  obtain ⟨L, h1, h2⟩ := h.bag
  have h3 := h2.lt
  have h4 := h.ref.lt
  have h5 := h.or
  exact ⟨⟨L, h1, h2.later hb⟩, h.ref.later hb, h.gr, h.br, h.og, h.ob, h.or, ⟨by omega, hx, by omega, by omega, by omega⟩, hl, hl⟩
end
theorem same_self {F G : Nat → Prop} {s o i s2 o2 i2 : Value} (x : MsgD) {w : World} (hl : Lists F w x s o i) (hm : Lists G w x s2 o2 i2) :
    Calls Try.prog 17 #[.agg (x.cells s o i).toArray, .agg (x.cells s2 o2 i2).toArray] w fun e w' => e = .returned (.bool true) ∧ Below w.heap.size w w' := by
  have h := same_any F G s o i s2 o2 i2 x x w hl hm
  rw [decide_eq_true rfl] at h
  exact h
end Go.Proofs.Ytaimnhlpdkpobaa
