/- Texts merged: OuM, BkB, Chain, BkC, BkD, ShelfD, Ints, RefInts, BkE, OuA, SagE. -/
import Derived.Test.YtdkiopajilakcaaGreatBaseO1
import Derived.Test.YtdkiopajilakcaaGreatBaseO2
import Derived.Maps.RangeWalk
import Derived.Shelf.SlIterI.Nil
import Derived.Shelf.SortM.Plain
import Derived.Shelf.SortM.SortNone
import Derived.Ground.GgzProg
import Derived.Ground.SlgmProg
import Derived.Test.YtdkiopajilakcaaGreatProg
import Derived.Laws.CopyOwn
import Derived.Deep.QuietTactic
import Derived.BigQuiet
/- The box of package outbox, as data: places by sagas, what is asked, what the log is told. -/
namespace Go.Proofs.YtdkiopajilakcaaGreat
open Go.RowKit Go.Maps

/-- A command. -/
structure ComD where
  view : Int
  stub : Int
  saga : Int
  step : Int
  tr : Int
  back : Bool
  deriving DecidableEq
def ComD.cells (c : ComD) : List Value := [.int .i64 c.view, .int .i64 c.stub, .int .i64 c.saga, .int .i64 c.step, .int .i64 c.tr, .bool c.back]
abbrev ComD.val (c : ComD) : Value := .agg c.cells.toArray
def ComD.zero : ComD := ⟨0, 0, 0, 0, 0, false⟩
theorem ComD.one (c : ComD) : ∀ u ∈ c.cells, u.oneCell' = true := by
  intro u hu
  simp only [ComD.cells, List.mem_cons, List.not_mem_nil, or_false] at hu
  rcases hu with rfl | rfl | rfl | rfl | rfl | rfl <;> rfl
/-- A place: what is wanted, its ticks, its age, and whether the log was told. -/
structure PlD where
  c : ComD
  ticks : Int
  age : Int
  told : Bool
def PlD.cells (p : PlD) : List Value := [.int .i64 p.c.view, .int .i64 p.c.stub, .int .i64 p.c.saga, .int .i64 p.c.step, .int .i64 p.c.tr, .bool p.c.back, .int .i64 p.ticks, .int .i64 p.age, .bool p.told]
abbrev PlD.val (p : PlD) : Value := .agg p.cells.toArray
def PlD.zero : PlD := ⟨.zero, 0, 0, false⟩
theorem PlD.one (c : PlD) : ∀ u ∈ c.cells, u.oneCell' = true := by
  intro u hu
  simp only [PlD.cells, List.mem_cons, List.not_mem_nil, or_false] at hu
  rcases hu with rfl | rfl | rfl | rfl | rfl | rfl | rfl | rfl | rfl <;> rfl
def PlD.grow (p : PlD) : PlD := ⟨p.c, p.ticks, p.age + 1, p.told⟩
def PlD.tell (p : PlD) : PlD := ⟨p.c, p.ticks, p.age, true⟩
def RiseP (B : List PlD) : Prop := B.Pairwise (fun x y => x.c.saga < y.c.saga)
def plAt (B : List PlD) (id : Int) : Option PlD := B.find? (fun p => p.c.saga == id)
def pairP (p : PlD) : Int × Value := (p.c.saga, p.val)
def sagasP (B : List PlD) : List Int := B.map (·.c.saga)
theorem plAt_mem {B : List PlD} {id : Int} {p : PlD} (h : plAt B id = some p) : p ∈ B ∧ p.c.saga = id := by
  unfold plAt at h
  exact ⟨List.mem_of_find?_eq_some h, by simpa using List.find?_some h⟩
theorem plAt_none {B : List PlD} {id : Int} (h : plAt B id = none) : ∀ p ∈ B, p.c.saga ≠ id := by
  unfold plAt at h
  rw [List.find?_eq_none] at h
  intro p hp e
  exact h p hp (by simpa using e)
theorem plAt_of {B : List PlD} (hr : RiseP B) {p : PlD} (hp : p ∈ B) : plAt B p.c.saga = some p := by
  induction B with
  | nil => cases hp
  | cons z r ih =>
    obtain ⟨h1, h2⟩ := List.pairwise_cons.1 hr
    unfold plAt
    rcases List.mem_cons.1 hp with rfl | hp
    · rw [List.find?_cons_of_pos (by simp)]
    · have := h1 p hp
      rw [List.find?_cons_of_neg (by simp; omega)]
      exact ih h2 hp
/-- What a saga wants, by a box of that view. -/
def comE (v : Int) (x : Ent) : ComD := ⟨v, (wantsC x.l x.s).stub, x.id, (wantsC x.l x.s).step, (wantsC x.l x.s).tr, (wantsC x.l x.s).back⟩
def newP (v : Int) (x : Ent) : PlD := ⟨comE v x, wantsW x.l x.s, 0, false⟩
def wantE (x : Ent) : Bool := wantsB x.l x.s
def hadE (v : Int) (B : List PlD) (x : Ent) : Bool := match plAt B x.id with | some q => decide (q.c = comE v x) | none => false
def syncP (v : Int) (B : List PlD) (x : Ent) : PlD := match plAt B x.id with | some q => if q.c = comE v x then q else newP v x | none => newP v x
/-- The places behind Sync, and what it asks. -/
def syncL (v : Int) (B : List PlD) (L : List Ent) : List PlD := (L.filter wantE).map (syncP v B)
def syncA (v : Int) (B : List PlD) (L : List Ent) : List ComD := (L.filter fun x => wantE x && !hadE v B x).map (comE v)
def growL (B : List PlD) : List PlD := B.map PlD.grow
/-- Behind Tick's walk. -/
def lapsed (p : PlD) : Bool := !decide (p.age = 0) && (!p.told && decide (p.ticks ≤ p.age))
def tickP (p : PlD) : PlD := if lapsed p then p.tell else p
def askP (p : PlD) : Bool := !decide (p.age = 0) && (!(!p.told && decide (p.ticks ≤ p.age)) && decide (p.age % 4 = 0))
def opP (kind : Int) (good : Bool) (p : PlD) : OpD := ⟨kind, 0, 0, ⟨#[]⟩, [], p.c.saga, p.c.step, p.c.tr, p.c.back, good⟩
def tickL (B : List PlD) : List PlD := B.map tickP
def tickA (B : List PlD) : List ComD := (B.filter askP).map (·.c)
def tickO (B : List PlD) : List OpD := (B.filter lapsed).map (opP 5 false)
/-- What a result does: the place, if it wants just that. -/
def resP (B : List PlD) (c : ComD) : Option PlD := match plAt B c.saga with | some p => if !p.told && decide (p.c = c) then some p else none | none => none
def tellL (B : List PlD) (id : Int) : List PlD := B.map fun p => if p.c.saga = id then p.tell else p

theorem syncP_saga (v : Int) (B : List PlD) (x : Ent) : (syncP v B x).c = comE v x := by
  unfold syncP
  cases plAt B x.id with
  | none => rfl
  | some q => simp only; split <;> first | assumption | rfl
theorem sync_rise (v : Int) (B : List PlD) {L : List Ent} (hr : RiseE L) : RiseP (syncL v B L) := by
  unfold syncL RiseP
  rw [List.pairwise_map]
  refine (List.Pairwise.filter _ hr).imp fun {x y} h => ?_
  rw [syncP_saga, syncP_saga]
  exact h
theorem syncL_len (v : Int) (B : List PlD) (L : List Ent) : (syncL v B L).length ≤ L.length := by
  unfold syncL
  rw [List.length_map]
  exact List.length_filter_le _ _
theorem syncA_len (v : Int) (B : List PlD) (L : List Ent) : (syncA v B L).length ≤ L.length := by
  unfold syncA
  rw [List.length_map]
  exact List.length_filter_le _ _
theorem grow_rise {B : List PlD} (h : RiseP B) : RiseP (growL B) := List.pairwise_map.2 (h.imp fun {_ _} h => h)
theorem tickP_c (p : PlD) : (tickP p).c = p.c := by unfold tickP; split <;> rfl
theorem tick_rise {B : List PlD} (h : RiseP B) : RiseP (tickL B) := List.pairwise_map.2 (h.imp fun {x y} h => by rw [tickP_c, tickP_c]; exact h)
theorem tell_rise {B : List PlD} (id : Int) (h : RiseP B) : RiseP (tellL B id) := List.pairwise_map.2 (h.imp fun {x y} h => by
  have e : ∀ p : PlD, (if p.c.saga = id then p.tell else p).c = p.c := fun p => by split <;> rfl
  rw [e, e]; exact h)
/-- A map, one of whose values is another one. -/
theorem put_there (L1 L2 : List (Int × Value)) (a : Int) (u v : Value) (h : (L1 ++ (a, u) :: L2).Pairwise (fun x y => x.1 < y.1)) : (mapD (L1 ++ (a, u) :: L2)).put (.int .i64 a) (.held v) = mapD (L1 ++ (a, v) :: L2) := by
  obtain ⟨h1, h2, h3⟩ := List.pairwise_append.1 h
  obtain ⟨h4, _⟩ := List.pairwise_cons.1 h2
  unfold mapD
  show DataW.map (DataW.insert _ _) = _
  congr 1
  have f1 : (L1.map fun p : Int × Value => ((.int .i64 p.1, .held p.2) : Lit × DataW Value)).filter (fun p => !p.1.sameKey (.int .i64 a)) = L1.map fun p => (.int .i64 p.1, .held p.2) := by
    rw [List.filter_eq_self]
    intro p hp
    obtain ⟨q, hq, rfl⟩ := List.mem_map.1 hp
    have := h3 q hq (a, u) (by simp)
    simp [Lit.sameKey]
    omega
  have f2 : (L2.map fun p : Int × Value => ((.int .i64 p.1, .held p.2) : Lit × DataW Value)).filter (fun p => !p.1.sameKey (.int .i64 a)) = L2.map fun p => (.int .i64 p.1, .held p.2) := by
    rw [List.filter_eq_self]
    intro p hp
    obtain ⟨q, hq, rfl⟩ := List.mem_map.1 hp
    have := h4 q hq
    simp [Lit.sameKey]
    omega
  rw [List.map_append, List.map_cons, List.filter_append, List.filter_cons_of_neg (by simp [Lit.sameKey]), f1, f2, List.map_append, List.map_cons]
  have key : ∀ M : List (Int × Value), (∀ p ∈ M, p.1 < a) → DataW.insert ((.int .i64 a, .held v) : Lit × DataW Value) ((M.map fun p => (.int .i64 p.1, .held p.2)) ++ L2.map fun p => (.int .i64 p.1, .held p.2)) = (M.map fun p => (.int .i64 p.1, .held p.2)) ++ (.int .i64 a, .held v) :: L2.map fun p => (.int .i64 p.1, .held p.2) := by
    intro M
    induction M with
    | nil =>
      intro _
      cases L2 with
      | nil => rfl
      | cons q r =>
        have := h4 q (by simp)
        show DataW.insert _ (_ :: _) = _
        unfold DataW.insert
        rw [if_pos (by simp [Lit.before]; omega)]
        rfl
    | cons q r ih =>
      intro hM
      have := hM q (by simp)
      rw [List.map_cons, List.cons_append, List.cons_append]
      unfold DataW.insert
      rw [if_neg (by simp [Lit.before]; omega), ih (fun p hp => hM p (by simp [hp]))]
  exact key L1 fun p hp => h3 p hp (a, u) (by simp)
theorem found_pl (B : List PlD) (z : Value) (id : Int) : foundIn (B.map pairP) z id = match plAt B id with | some p => (p.val, true) | none => (z, false) := by
  unfold foundIn plAt
  rw [List.find?_map]
  show (match (B.find? (fun p => p.c.saga == id)).map pairP with | some p => (p.2, true) | none => (z, false)) = _
  cases B.find? (fun p => p.c.saga == id) <;> rfl
end Go.Proofs.YtdkiopajilakcaaGreat
/- What is counted of a book: count, Count, full, underWay of package book. -/
namespace Go.Proofs.YtdkiopajilakcaaGreat
open Go.RowKit Go.Maps

/-- So many of those that are no longer to come are such. -/
def Cnt (p : Ent → Bool) (L : List Ent) (left : Lit → Bool) (n : Nat) : Prop := n = L.countP fun x => p x && !left (.int .i64 x.id)
theorem Cnt.start (p : Ent → Bool) (L : List Ent) (V : Ent → Value) : Cnt p L (Maps.has (mapD (L.map fun x => (x.id, V x)))) 0 := by
  unfold Cnt
  symm
  rw [List.countP_eq_zero]
  intro x hx
  rw [has_mapD]
  have : ((L.map fun x => (x.id, V x)).any fun q => q.1 == x.id) = true := List.any_eq_true.2 ⟨(x.id, V x), List.mem_map.2 ⟨x, hx, rfl⟩, by simp⟩
  rw [this]
  simp
theorem count_strike (p : Ent → Bool) (x : Ent) (left : Lit → Bool) : ∀ (L : List Ent), RiseE L → x ∈ L → left (.int .i64 x.id) = true →
    L.countP (fun z => p z && !(left (.int .i64 z.id) && !(Lit.int .i64 z.id).sameKey (.int .i64 x.id))) = L.countP (fun z => p z && !left (.int .i64 z.id)) + (if p x then 1 else 0)
  | [], _, h, _ => by cases h
  | z :: r, hr, hx, hl => by
    obtain ⟨h1, h2⟩ := List.pairwise_cons.1 hr
    rw [List.countP_cons, List.countP_cons]
    rcases List.mem_cons.1 hx with rfl | hx
    · have e : r.countP (fun z => p z && !(left (.int .i64 z.id) && !(Lit.int .i64 z.id).sameKey (.int .i64 x.id))) = r.countP (fun z => p z && !left (.int .i64 z.id)) := by
        refine List.countP_congr fun y hy => ?_
        have := h1 y hy
        have hs : (Lit.int .i64 y.id).sameKey (.int .i64 x.id) = false := by simp [Lit.sameKey]; omega
        rw [hs]
        simp
      rw [e, hl]
      have hs : (Lit.int .i64 x.id).sameKey (.int .i64 x.id) = true := by simp [Lit.sameKey]
      rw [hs]
      cases p x <;> simp
    · have := count_strike p x left r h2 hx hl
      rw [this]
      have hz := h1 x hx
      have hs : (Lit.int .i64 z.id).sameKey (.int .i64 x.id) = false := by simp [Lit.sameKey]; omega
      rw [hs]
      simp
      omega
theorem Cnt.next {p : Ent → Bool} {L : List Ent} {left : Lit → Bool} {n : Nat} {x : Ent} (h : Cnt p L left n) (hr : RiseE L) (hx : x ∈ L) (hl : left (.int .i64 x.id) = true) :
    Cnt p L (fun z => left z && !z.sameKey (.int .i64 x.id)) (n + if p x then 1 else 0) := by
  unfold Cnt at *
  rw [count_strike p x left L hr hx hl, h]
theorem Cnt.done {p : Ent → Bool} {L : List Ent} {left : Lit → Bool} {n : Nat} (h : Cnt p L left n) (hl : ∀ z, left z = false) : n = L.countP p := by
  unfold Cnt at h
  rw [h]
  refine List.countP_congr fun x _ => ?_
  rw [hl]
  simp
/-- What comes of such a map is one of its sagas. -/
theorem came_ent {f : Int → Loc} {L : List Ent} {x : Int} {d : DataW Value} (h : ∀ zd, (mapD (L.map (pairE f))).atKey (.int .i64 x) zd = d) : ∃ y ∈ L, y.id = x ∧ d = .held (y.val f) := by
  have h0 := h .nil
  have h1 := h (.held (.bool true))
  rw [at_mapD] at h0 h1
  cases hf : (L.map (pairE f)).find? (fun p => p.1 == x) with
  | none => rw [hf] at h0 h1; simp only at h0 h1; rw [← h0] at h1; cases h1
  | some p =>
    rw [hf] at h0
    obtain ⟨y, hy, rfl⟩ := List.mem_map.1 (List.mem_of_find?_eq_some hf)
    exact ⟨y, hy, by simpa [pairE] using List.find?_some hf, h0.symm⟩
theorem later_grown {w w' : World} (h : Later w w') : w.grownBy w' none := ⟨h.os, h.tape, h.output, h.size, fun i hi _ => h.block i hi⟩
theorem later_of_grown {w w' : World} (h : w.grownBy w' none) : Later w w' := ⟨h.os, h.tape, h.output, h.size, fun i hi => h.block i hi (by simp)⟩

section
variable {F : Nat → Prop} {w : World} {g b k : Nat} {most : Int} {t : BkS}
set_option maxHeartbeats 4000000 in
set_option maxRecDepth 100000 in
theorem count_any (gf : Nat) (cb : Array Value) (p : Ent → Bool) (h : BookAt F w g b k most t) (hn : t.L.length ≤ 1000000) (eg : ∀ args w, (callFunc gf args).run Tryz.prog w = .ok (.enter gf args) w)
    (hc : ∀ W, Later w W → ∀ x ∈ t.L, ∀ q n c, Calls Tryz.prog gf (#[.int .i64 x.id, (x.s.withV q n c).val] ++ cb) W (Gives (.bool (p x)) W)) :
    Calls Tryz.prog 97 #[.pointer (some ⟨g, 0, none⟩), .func (.func gf) #[] cb] w (Gives (.int .i64 ((t.L.countP p : Nat) : Int)) w) := by
  have C := hide (made_yes h)
  have c2 := h.c2
  obtain ⟨f, hm, _⟩ := h.body
  have HM := hide hm
  have HR := hide h.ok.1
  have HC := hide hc
  obtain ⟨L, hL⟩ : ∃ L, t.L = L := ⟨_, rfl⟩
  rw [hL] at HM HR HC hn ⊢
  clear hL h hc hm
  go_enter Tryz.func97, Tryz.ntmps97
  go_wp2_with (fail)
  refine C.out.mono ?_
  rintro e w1 ⟨rfl, rfl⟩
  obtain ⟨R, hRR⟩ : ∃ R, w.heap.size = R := ⟨_, rfl⟩
  have HRR := hide hRR
  clear hRR
  go_wp2_with (at_range; refine wpList_range_own _ rfl _ 88 rfl 3 72 Tryz.int_law Tryz.underlying88 _ b k _ rfl HM.out ?_; rw [HRR.out]; intro w2 hrg0 hg0 hs0)
  have HG0 : Hid (Later w w2) := later_of_grown hg0
  have HRG0 := hide hrg0
  clear hrg0 hg0 hs0
  go_frame
  go_loopw [5] (fun n wr => ∃ (q : Nat) (left : Lit → Bool) (cnt : Nat), n = .int .i64 (q : Int) ∧ wr.ranges Tryz.prog 3 heldR b R k (mapD (L.map (pairE f))) left cnt ∧ Cnt p L left q ∧ Later w wr) (fun _ wr => wr.rangeLeft b R)
  case atStart => exact ⟨0, _, _, rfl, HRG0.out, Cnt.start p L (Ent.val f), HG0.out⟩
  case round =>
    obtain ⟨q, left, cnt, rfl, hrg, htop, hb⟩ := hrel
    have HRG := hide hrg
    have HTOP := hide htop
    have HB := hide hb
    have hq : q ≤ 1000000 := by
      have h1 : q = L.countP _ := htop
      have h2 := List.countP_le_length (p := fun x => p x && !left (.int .i64 x.id)) (l := L)
      omega
    clear hrg htop hb HRG0 HG0
    go_wp2_with (at_next; refine wpList_next_ranges _ rfl _ rfl 3 Tryz.int_law heldR (Value.int .i64) id (fun key kl hkey => by obtain ⟨x, rfl, _⟩ := Maps.keyOf_int_inv Tryz.underlying3 hkey; exact ⟨x, rfl⟩) (fun v _ _ => ⟨v, rfl⟩) b R k _ _ _ rfl HRG.out ?_ ?_)
    · intro _ hl0
      have hd := HTOP.out.done hl0
      subst hd
      go_wp2
      go_ret
      exact ⟨rfl, HB.out⟩
    · intro x c kl yd yp w3 cnt3 hkey hlx hv hat hrg3 hlt hg3 hs3 hen
      obtain ⟨x', ex, rfl, _⟩ := Maps.keyOf_int_inv Tryz.underlying3 hkey
      cases ex
      obtain ⟨z, hz, rfl, hzd⟩ := came_ent hat
      have hcv : c = z.val f := by
        have e1 : (DataW.held c, ([] : List MemPlace)) = (yd, yp) := Option.some.inj hv
        have e2 : DataW.held c = yd := congrArg Prod.fst e1
        rw [← e2] at hzd
        exact DataW.held.inj hzd
      subst hcv
      have HRG3 := hide hrg3
      have HB3 : Hid (Later w w3) := Below.grown HB.out hg3 (Below.size HB.out) (fun k hk => by have := Option.some.inj hk; have := HRR.out; omega)
      have HT3 := hide (HTOP.out.next HR.out hz hlx)
      have HZ := hide hz
      obtain ⟨zi, zs, zl⟩ := z
      simp only at HT3 HZ hen ⊢
      simp only at HRG3
      obtain ⟨lc, hlc⟩ : ∃ lc, f zi = lc := ⟨_, rfl⟩
      have hvz : Ent.val f ⟨zi, zs, zl⟩ = (zs.withV lc.p lc.n lc.c).val := by rw [← hlc]; rfl
      rw [hvz] at hen ⊢
      obtain ⟨s2, hs2⟩ : ∃ s2, zs.withV lc.p lc.n lc.c = s2 := ⟨_, rfl⟩
      rw [hs2] at hen ⊢
      have HS2 := hide hs2
      have HLT := hide hlt
      clear hat hrg3 hg3 hs3 hlx hv hkey hz hzd hvz hlc hs2 hlt
      obtain ⟨v, hv⟩ : ∃ v, v = w3.heap.size := ⟨_, rfl⟩
      have T3 : Hid (SBox 72 w3.heap.size SagaD.zero (w3.alloc (.cells #[.string ⟨#[]⟩, .slice none 0 0, .int .i64 0, .int .i64 0, .int .i64 0, .bool false, .bool false, .bool false, .bool false, .bool false, .bool false, .bool false, .bool false] 72 (0, 0)))) := heap_alloc_new _ _
      have L3 : Hid (Later w3 (w3.alloc (.cells #[.string ⟨#[]⟩, .slice none 0 0, .int .i64 0, .int .i64 0, .int .i64 0, .bool false, .bool false, .bool false, .bool false, .bool false, .bool false, .bool false, .bool false] 72 (0, 0)))) := (Below.refl _ _).alloc (Nat.le_refl _) _
      clear hv v
      go_wp2_with (refine wpList_store_saga (s := s2) (by rfl) _ _ (by rfl) (by rfl) T3.out (by rfl) ?_)
      intro w4 X4 G4
      have L4 : Hid (Later w3 w4) := L3.out.grown G4 (by simp) (fun k hk => by have := Option.some.inj hk; omega)
      have XX := hide X4
      clear X4 G4 hen
      go_wp2_with (refine wpList_load_saga (by rfl) _ (by rfl) (by rfl) XX.out ?_)
      have hcall := HC.out w4 (Later.trans HB3.out L4.out) ⟨zi, zs, zl⟩ HZ.out lc.p lc.n lc.c
      simp only [HS2.out] at hcall
      go_at_fn gf
      refine hcall.mono ?_
      rintro e w5 ⟨rfl, hl5⟩
      have L5 : Hid (Later w3 w5) := Later.trans L4.out hl5
      have HRG5 := hide (HRG3.out.kept (later_grown L5.out) (by simp) (by simp))
      have HB5 : Hid (Later w w5) := Later.trans HB3.out L5.out
      clear hcall hl5
      cases hp : p ⟨zi, zs, zl⟩ with
      | true =>
        have HT5 : Hid (Cnt p L (fun z => left z && !z.sameKey (.int .i64 zi)) (q + 1)) := by
          have := HT3.out
          rw [hp] at this
          exact this
        clear hp
        go_wp2
        go_roundw
        case rel => exact ⟨q + 1, _, _, by go_num, HRG5.out, HT5.out, HB5.out⟩
        case measure => rw [HRG5.out.left_eq, HRG.out.left_eq]; exact HLT.out
      | false =>
        have HT5 : Hid (Cnt p L (fun z => left z && !z.sameKey (.int .i64 zi)) q) := by
          have := HT3.out
          rw [hp] at this
          exact this
        clear hp
        go_wp2
        go_roundw
        case rel => exact ⟨q, _, _, rfl, HRG5.out, HT5.out, HB5.out⟩
        case measure => rw [HRG5.out.left_eq, HRG.out.left_eq]; exact HLT.out
end
end Go.Proofs.YtdkiopajilakcaaGreat
/- A long chain of '&&' over fields of two structs, one conjunct at a time: the frame is known by four of its slots alone. -/
namespace Go.Proofs.YtdkiopajilakcaaGreat
open Go.RowKit

/-- The frame: two addresses in slots 2 and 3, and what holds so far in slot k. -/
structure Fr (X Y : Value) (k : Nat) (c : Bool) (n : Nat) (a : Act) : Prop where
  x : a.tmps[2]? = some X
  y : a.tmps[3]? = some Y
  c : a.tmps[k]? = some (.bool c)
  n : a.tmps.size = n
  d : a.defers = []
theorem put_tmps (a : Act) (d : Nat) (v : Value) (i : Nat) : (a.put (some d) v).tmps[i]? = if d = i then (if i < a.tmps.size then some v else none) else a.tmps[i]? := by
  show (a.tmps.setIfInBounds d v)[i]? = _
  rw [Array.getElem?_setIfInBounds]
  by_cases h : d = i
  · subst h
    simp
  · simp [h]
theorem put_same (a : Act) (d : Nat) (v : Value) (h : d < a.tmps.size) : (a.put (some d) v).tmps[d]? = some v := by rw [put_tmps, if_pos rfl, if_pos h]
theorem put_other (a : Act) (d : Nat) (v : Value) (i : Nat) (h : d ≠ i) : (a.put (some d) v).tmps[i]? = a.tmps[i]? := by rw [put_tmps, if_neg h]
theorem put_size (a : Act) (d : Nat) (v : Value) : (a.put (some d) v).tmps.size = a.tmps.size := by simp [Act.put]
theorem eval_of {a : Act} {i : Nat} {v : Value} (h : a.tmps[i]? = some v) : a.eval (.tmp i) = v := by
  show a.tmps.getD i undef = v
  rw [Array.getD_eq_getD_getElem?, h]
  rfl
/-- The same without a word of what holds so far. -/
structure Fr0 (X Y : Value) (n : Nat) (a : Act) : Prop where
  x : a.tmps[2]? = some X
  y : a.tmps[3]? = some Y
  n : a.tmps.size = n
  d : a.defers = []
section
variable {X Y : Value} {k n : Nat} {c : Bool} {a : Act}
theorem Fr0.put (h : Fr0 X Y n a) (d : Nat) (v : Value) (h2 : d ≠ 2) (h3 : d ≠ 3) : Fr0 X Y n (a.put (some d) v) := ⟨(put_other a d v 2 h2).trans h.x, (put_other a d v 3 h3).trans h.y, (put_size a d v).trans h.n, h.d⟩
theorem Fr.put (h : Fr X Y k c n a) (d : Nat) (v : Value) (h2 : d ≠ 2) (h3 : d ≠ 3) (hk : d ≠ k) : Fr X Y k c n (a.put (some d) v) :=
  ⟨(put_other a d v 2 h2).trans h.x, (put_other a d v 3 h3).trans h.y, (put_other a d v k hk).trans h.c, (put_size a d v).trans h.n, h.d⟩
variable {P : Program} {ops : Array Oper} {Q : Exit → Act → World → Prop} {rest : List Oper} {w : World}
theorem wpList_val {o : Oper} {d : Nat} {v : Value} {w' : World} (hd : o.dst = some d) (hw : Region.wanted o (yielded ops a.tmps) = true) (hx : (execOp a.eval o).run P w = .ok (.value v) w')
    (h : wpList P ops Q rest (a.put (some d) v) w') : wpList P ops Q (o :: rest) a w := by
  refine wpList_step fun K hK => ?_
  rw [if_pos hw]
  unfold Oper.wp
  rw [hx, Oper.upon_value, hd]
  exact hK _ _ h
theorem want_true {o : Oper} {j : Nat} {k : Nat} (hg : o.guard = some (j, true)) (hj : (ops[j]?).bind (·.dst) = some k) (hk : a.tmps[k]? = some (.bool true)) : Region.wanted o (yielded ops a.tmps) = true := by
  unfold Region.wanted yielded
  rw [hg]
  simp only [hj, Option.bind_some, hk]
  rfl
theorem want_false {o : Oper} {j : Nat} {k : Nat} (hg : o.guard = some (j, true)) (hj : (ops[j]?).bind (·.dst) = some k) (hk : a.tmps[k]? = some (.bool false)) : Region.wanted o (yielded ops a.tmps) = false := by
  unfold Region.wanted yielded
  rw [hg]
  simp only [hj, Option.bind_some, hk]
  rfl
theorem want_none {o : Oper} (hg : o.guard = none) : Region.wanted o (yielded ops a.tmps) = true := by
  unfold Region.wanted
  rw [hg]
theorem skip_one {o : Oper} {j d : Nat} (h : Fr X Y k false n a) (hj : (ops[j]?).bind (·.dst) = some k) (hd : o.dst = some d) (hg : o.guard = some (j, true)) (h2 : d ≠ 2) (h3 : d ≠ 3) (hk : d ≠ k)
    (next : ∀ a', Fr X Y k false n a' → wpList P ops Q rest a' w) : wpList P ops Q (o :: rest) a w := by
  refine wpList_skip (want_false hg hj h.c) ?_
  rw [hd]
  exact next _ (h.put d undef h2 h3 hk)

/-- One conjunct: the operations at slots s to s + 4 are wanted just if all holds so far; then the pick, then a move. -/
theorem conj {q : Bool} {s : Nat} {W : World → Prop} (j t : Nat) (h : Fr X Y k c n a) (hj : (ops[j]?).bind (·.dst) = some k) (hs : k < s) (hs3 : 3 < s) (hn : s + 6 ≤ n) (ht : 3 < t) (htn : t < n) (hW : W w)
    {o1 o2 o3 o4 o5 o6 o7 : Oper} {px py vx vy : Value}
    (g1 : o1.dst = some s ∧ o1.guard = some (j, true)) (g2 : o2.dst = some (s + 1) ∧ o2.guard = some (j, true)) (g3 : o3.dst = some (s + 2) ∧ o3.guard = some (j, true)) (g4 : o4.dst = some (s + 3) ∧ o4.guard = some (j, true)) (g5 : o5.dst = some (s + 4) ∧ o5.guard = some (j, true))
    (g6 : o6.op = .pick (.tmp k) (.tmp (s + 4)) (.const (.bool false)) ∧ o6.dst = some (s + 5) ∧ o6.guard = none) (g7 : (o7.op = .move (.tmp (s + 5)) ∨ o7.op = .assign (.tmp (s + 5))) ∧ o7.dst = some t ∧ o7.guard = none)
    (e1 : ∀ a' : Act, a'.tmps[2]? = some X → (execOp a'.eval o1).run P w = .ok (.value px) w)
    (e2 : ∀ a' : Act, a'.tmps[s]? = some px → (execOp a'.eval o2).run P w = .ok (.value vx) w)
    (e3 : ∀ a' : Act, a'.tmps[3]? = some Y → (execOp a'.eval o3).run P w = .ok (.value py) w)
    (e4 : ∀ a' : Act, a'.tmps[(s + 2)]? = some py → (execOp a'.eval o4).run P w = .ok (.value vy) w)
    (e5 : ∀ (a' : Act) (r : List Oper), a'.tmps[(s + 1)]? = some vx → a'.tmps[(s + 3)]? = some vy → Region.wanted o5 (yielded ops a'.tmps) = true → (∀ w', W w' → wpList P ops Q r (a'.put (some (s + 4)) (.bool q)) w') → wpList P ops Q (o5 :: r) a' w)
    (next : ∀ a' w', Fr X Y t (c && q) n a' → W w' → wpList P ops Q rest a' w') : wpList P ops Q (o1 :: o2 :: o3 :: o4 :: o5 :: o6 :: o7 :: rest) a w := by
  have last : ∀ (a' : Act) (w' : World) (b : Bool), Fr X Y k c n a' → (c = true → a'.tmps[s + 4]? = some (.bool q)) → W w' → wpList P ops Q (o6 :: o7 :: rest) a' w' := by
    intro a' w' b h' hq hw'
    refine wpList_val (w' := w') (v := .bool (c && q)) g6.2.1 (want_none g6.2.2) ?_ ?_
    · unfold execOp
      simp only [g6.1, eval_of h'.c]
      cases c with
      | false => rfl
      | true =>
        simp only [eval_of (hq rfl)]
        rfl
    · refine wpList_val (w' := w') (v := .bool (c && q)) g7.2.1 (want_none g7.2.2) ?_ ?_
      · unfold execOp
        rcases g7.1 with g | g <;> (simp only [g, eval_of (put_same a' (s + 5) (.bool (c && q)) (by have := h'.n; omega))]; rfl)
      · have h5 := h'.put (s + 5) (.bool (c && q)) (by omega) (by omega) (by omega)
        exact next _ _ ⟨(put_other _ t _ 2 (by omega)).trans h5.x, (put_other _ t _ 3 (by omega)).trans h5.y, put_same _ _ _ (by have := h5.n; omega), (put_size _ _ _).trans h5.n, h5.d⟩ hw'
  cases c with
  | false =>
    refine skip_one h hj g1.1 g1.2 (by omega) (by omega) (by omega) fun a1 h1 => ?_
    refine skip_one h1 hj g2.1 g2.2 (by omega) (by omega) (by omega) fun a2 h2 => ?_
    refine skip_one h2 hj g3.1 g3.2 (by omega) (by omega) (by omega) fun a3 h3 => ?_
    refine skip_one h3 hj g4.1 g4.2 (by omega) (by omega) (by omega) fun a4 h4 => ?_
    refine skip_one h4 hj g5.1 g5.2 (by omega) (by omega) (by omega) fun a5 h5 => ?_
    exact last a5 w false h5 (fun h => by cases h) hW
  | true =>
    have sz := h.n
    refine wpList_val g1.1 (want_true g1.2 hj h.c) (e1 a h.x) ?_
    have h1 := h.put s px (by omega) (by omega) (by omega)
    have t1 : (a.put (some s) px).tmps[s]? = some px := put_same a s px (by omega)
    refine wpList_val g2.1 (want_true g2.2 hj h1.c) (e2 _ t1) ?_
    have h2 := h1.put (s + 1) vx (by omega) (by omega) (by omega)
    have t2 := put_same (a.put (some s) px) (s + 1) vx (by have := h1.n; omega)
    refine wpList_val g3.1 (want_true g3.2 hj h2.c) (e3 _ h2.y) ?_
    have h3 := h2.put (s + 2) py (by omega) (by omega) (by omega)
    have t3 := put_same ((a.put (some s) px).put (some (s + 1)) vx) (s + 2) py (by have := h2.n; omega)
    have t2' := (put_other ((a.put (some s) px).put (some (s + 1)) vx) (s + 2) py (s + 1) (by omega)).trans t2
    refine wpList_val g4.1 (want_true g4.2 hj h3.c) (e4 _ t3) ?_
    have h4 := h3.put (s + 3) vy (by omega) (by omega) (by omega)
    have t4 := put_same (((a.put (some s) px).put (some (s + 1)) vx).put (some (s + 2)) py) (s + 3) vy (by have := h3.n; omega)
    have t2'' := (put_other (((a.put (some s) px).put (some (s + 1)) vx).put (some (s + 2)) py) (s + 3) vy (s + 1) (by omega)).trans t2'
    refine e5 _ _ t2'' t4 (want_true g5.2 hj h4.c) fun w' hw' => ?_
    have h5 := h4.put (s + 4) (.bool q) (by omega) (by omega) (by omega)
    exact last _ w' true h5 (fun _ => put_same _ _ _ (by have := h4.n; omega)) hw'
/-- One conjunct over fields of fields: the operations at slots s to s + 6 are wanted just if all holds so far; then the pick, then a move. -/
theorem conj2 {q : Bool} {s : Nat} {W : World → Prop} (j t : Nat) (h : Fr X Y k c n a) (hj : (ops[j]?).bind (·.dst) = some k) (hs : k < s) (hs3 : 3 < s) (hn : s + 8 ≤ n) (ht : 3 < t) (htn : t < n) (hW : W w)
    {o1 o1' o2 o3 o3' o4 o5 o6 o7 : Oper} {px px' py py' vx vy : Value}
    (g1 : o1.dst = some s ∧ o1.guard = some (j, true)) (g1' : o1'.dst = some (s + 1) ∧ o1'.guard = some (j, true)) (g2 : o2.dst = some (s + 2) ∧ o2.guard = some (j, true)) (g3 : o3.dst = some (s + 3) ∧ o3.guard = some (j, true)) (g3' : o3'.dst = some (s + 4) ∧ o3'.guard = some (j, true)) (g4 : o4.dst = some (s + 5) ∧ o4.guard = some (j, true)) (g5 : o5.dst = some (s + 6) ∧ o5.guard = some (j, true))
    (g6 : o6.op = .pick (.tmp k) (.tmp (s + 6)) (.const (.bool false)) ∧ o6.dst = some (s + 7) ∧ o6.guard = none) (g7 : (o7.op = .move (.tmp (s + 7)) ∨ o7.op = .assign (.tmp (s + 7))) ∧ o7.dst = some t ∧ o7.guard = none)
    (e1 : ∀ a' : Act, a'.tmps[2]? = some X → (execOp a'.eval o1).run P w = .ok (.value px) w)
    (e1' : ∀ a' : Act, a'.tmps[s]? = some px → (execOp a'.eval o1').run P w = .ok (.value px') w)
    (e2 : ∀ a' : Act, a'.tmps[s + 1]? = some px' → (execOp a'.eval o2).run P w = .ok (.value vx) w)
    (e3 : ∀ a' : Act, a'.tmps[3]? = some Y → (execOp a'.eval o3).run P w = .ok (.value py) w)
    (e3' : ∀ a' : Act, a'.tmps[s + 3]? = some py → (execOp a'.eval o3').run P w = .ok (.value py') w)
    (e4 : ∀ a' : Act, a'.tmps[s + 4]? = some py' → (execOp a'.eval o4).run P w = .ok (.value vy) w)
    (e5 : ∀ (a' : Act) (r : List Oper), a'.tmps[(s + 2)]? = some vx → a'.tmps[(s + 5)]? = some vy → Region.wanted o5 (yielded ops a'.tmps) = true → (∀ w', W w' → wpList P ops Q r (a'.put (some (s + 6)) (.bool q)) w') → wpList P ops Q (o5 :: r) a' w)
    (next : ∀ a' w', Fr X Y t (c && q) n a' → W w' → wpList P ops Q rest a' w') : wpList P ops Q (o1 :: o1' :: o2 :: o3 :: o3' :: o4 :: o5 :: o6 :: o7 :: rest) a w := by
  have last : ∀ (a' : Act) (w' : World) (b : Bool), Fr X Y k c n a' → (c = true → a'.tmps[s + 6]? = some (.bool q)) → W w' → wpList P ops Q (o6 :: o7 :: rest) a' w' := by
    intro a' w' b h' hq hw'
    refine wpList_val (w' := w') (v := .bool (c && q)) g6.2.1 (want_none g6.2.2) ?_ ?_
    · unfold execOp
      simp only [g6.1, eval_of h'.c]
      cases c with
      | false => rfl
      | true =>
        simp only [eval_of (hq rfl)]
        rfl
    · refine wpList_val (w' := w') (v := .bool (c && q)) g7.2.1 (want_none g7.2.2) ?_ ?_
      · unfold execOp
        rcases g7.1 with g | g <;> (simp only [g, eval_of (put_same a' (s + 7) (.bool (c && q)) (by have := h'.n; omega))]; rfl)
      · have h5 := h'.put (s + 7) (.bool (c && q)) (by omega) (by omega) (by omega)
        exact next _ _ ⟨(put_other _ t _ 2 (by omega)).trans h5.x, (put_other _ t _ 3 (by omega)).trans h5.y, put_same _ _ _ (by have := h5.n; omega), (put_size _ _ _).trans h5.n, h5.d⟩ hw'
  cases c with
  | false =>
    refine skip_one h hj g1.1 g1.2 (by omega) (by omega) (by omega) fun a1 h1 => ?_
    refine skip_one h1 hj g1'.1 g1'.2 (by omega) (by omega) (by omega) fun b1 hb1 => ?_
    refine skip_one hb1 hj g2.1 g2.2 (by omega) (by omega) (by omega) fun a2 h2 => ?_
    refine skip_one h2 hj g3.1 g3.2 (by omega) (by omega) (by omega) fun a3 h3 => ?_
    refine skip_one h3 hj g3'.1 g3'.2 (by omega) (by omega) (by omega) fun b3 hb3 => ?_
    refine skip_one hb3 hj g4.1 g4.2 (by omega) (by omega) (by omega) fun a4 h4 => ?_
    refine skip_one h4 hj g5.1 g5.2 (by omega) (by omega) (by omega) fun a5 h5 => ?_
    exact last a5 w false h5 (fun h => by cases h) hW
  | true =>
    have sz := h.n
    refine wpList_val g1.1 (want_true g1.2 hj h.c) (e1 a h.x) ?_
    have h1 := h.put s px (by omega) (by omega) (by omega)
    have t1 : (a.put (some s) px).tmps[s]? = some px := put_same a s px (by omega)
    generalize a.put (some s) px = a1 at t1 h1 ⊢
    refine wpList_val g1'.1 (want_true g1'.2 hj h1.c) (e1' _ t1) ?_
    have tb1 := put_same a1 (s + 1) px' (by have := h1.n; omega)
    have hb1 := h1.put (s + 1) px' (by omega) (by omega) (by omega)
    generalize a1.put (some (s + 1)) px' = b1 at tb1 hb1 ⊢
    refine wpList_val g2.1 (want_true g2.2 hj hb1.c) (e2 _ tb1) ?_
    have t2 := put_same b1 (s + 2) vx (by have := hb1.n; omega)
    have h2 := hb1.put (s + 2) vx (by omega) (by omega) (by omega)
    generalize b1.put (some (s + 2)) vx = a2 at t2 h2 ⊢
    refine wpList_val g3.1 (want_true g3.2 hj h2.c) (e3 _ h2.y) ?_
    have t3 := put_same a2 (s + 3) py (by have := h2.n; omega)
    have u3 := (put_other a2 (s + 3) py (s + 2) (by omega)).trans t2
    have h3 := h2.put (s + 3) py (by omega) (by omega) (by omega)
    generalize a2.put (some (s + 3)) py = a3 at t3 u3 h3 ⊢
    refine wpList_val g3'.1 (want_true g3'.2 hj h3.c) (e3' _ t3) ?_
    have tb3 := put_same a3 (s + 4) py' (by have := h3.n; omega)
    have ub3 := (put_other a3 (s + 4) py' (s + 2) (by omega)).trans u3
    have hb3 := h3.put (s + 4) py' (by omega) (by omega) (by omega)
    generalize a3.put (some (s + 4)) py' = b3 at tb3 ub3 hb3 ⊢
    refine wpList_val g4.1 (want_true g4.2 hj hb3.c) (e4 _ tb3) ?_
    have t4 := put_same b3 (s + 5) vy (by have := hb3.n; omega)
    have u4 := (put_other b3 (s + 5) vy (s + 2) (by omega)).trans ub3
    have h4 := hb3.put (s + 5) vy (by omega) (by omega) (by omega)
    generalize b3.put (some (s + 5)) vy = a4 at t4 u4 h4 ⊢
    refine e5 _ _ u4 t4 (want_true g5.2 hj h4.c) fun w' hw' => ?_
    have h5 := h4.put (s + 6) (.bool q) (by omega) (by omega) (by omega)
    exact last _ w' true h5 (fun _ => put_same _ _ _ (by have := h4.n; omega)) hw'
/-- The first conjunct, that is always wanted: no pick. -/
theorem conj_first {q : Bool} {s : Nat} (hx : a.tmps[2]? = some X) (hy : a.tmps[3]? = some Y) (hsz : a.tmps.size = n) (hd : a.defers = []) (hs3 : 3 < s) (hn : s + 5 < n)
    {o1 o2 o3 o4 o5 o6 : Oper} {px py vx vy : Value}
    (g1 : o1.dst = some s ∧ o1.guard = none) (g2 : o2.dst = some (s + 1) ∧ o2.guard = none) (g3 : o3.dst = some (s + 2) ∧ o3.guard = none) (g4 : o4.dst = some (s + 3) ∧ o4.guard = none) (g5 : o5.dst = some (s + 4) ∧ o5.guard = none)
    (g6 : o6.op = .move (.tmp (s + 4)) ∧ o6.dst = some (s + 5) ∧ o6.guard = none)
    (e1 : ∀ a' : Act, a'.tmps[2]? = some X → (execOp a'.eval o1).run P w = .ok (.value px) w)
    (e2 : ∀ a' : Act, a'.tmps[s]? = some px → (execOp a'.eval o2).run P w = .ok (.value vx) w)
    (e3 : ∀ a' : Act, a'.tmps[3]? = some Y → (execOp a'.eval o3).run P w = .ok (.value py) w)
    (e4 : ∀ a' : Act, a'.tmps[(s + 2)]? = some py → (execOp a'.eval o4).run P w = .ok (.value vy) w)
    (e5 : ∀ a' : Act, a'.tmps[(s + 1)]? = some vx → a'.tmps[(s + 3)]? = some vy → (execOp a'.eval o5).run P w = .ok (.value (.bool q)) w)
    (next : ∀ a', Fr X Y (s + 5) q n a' → wpList P ops Q rest a' w) : wpList P ops Q (o1 :: o2 :: o3 :: o4 :: o5 :: o6 :: rest) a w := by
  have h0 : Fr0 X Y n a := ⟨hx, hy, hsz, hd⟩
  refine wpList_val g1.1 (want_none g1.2) (e1 a h0.x) ?_
  have t1 := put_same a s px (by have := h0.n; omega)
  have h1 := h0.put s px (by omega) (by omega)
  generalize a.put (some s) px = a1 at t1 h1 ⊢
  refine wpList_val g2.1 (want_none g2.2) (e2 _ t1) ?_
  have t2 := put_same a1 (s + 1) vx (by have := h1.n; omega)
  have h2 := h1.put (s + 1) vx (by omega) (by omega)
  generalize a1.put (some (s + 1)) vx = a2 at t2 h2 ⊢
  refine wpList_val g3.1 (want_none g3.2) (e3 _ h2.y) ?_
  have t3 := put_same a2 (s + 2) py (by have := h2.n; omega)
  have t2' := (put_other a2 (s + 2) py (s + 1) (by omega)).trans t2
  have h3 := h2.put (s + 2) py (by omega) (by omega)
  generalize a2.put (some (s + 2)) py = a3 at t3 t2' h3 ⊢
  refine wpList_val g4.1 (want_none g4.2) (e4 _ t3) ?_
  have t4 := put_same a3 (s + 3) vy (by have := h3.n; omega)
  have t2'' := (put_other a3 (s + 3) vy (s + 1) (by omega)).trans t2'
  have h4 := h3.put (s + 3) vy (by omega) (by omega)
  generalize a3.put (some (s + 3)) vy = a4 at t4 t2'' h4 ⊢
  refine wpList_val g5.1 (want_none g5.2) (e5 _ t2'' t4) ?_
  have t5 := put_same a4 (s + 4) (.bool q) (by have := h4.n; omega)
  have h5 := h4.put (s + 4) (.bool q) (by omega) (by omega)
  generalize a4.put (some (s + 4)) (.bool q) = a5 at t5 h5 ⊢
  refine wpList_val (w' := w) (v := .bool q) g6.2.1 (want_none g6.2.2) ?_ ?_
  · unfold execOp
    simp only [g6.1, eval_of t5]
    rfl
  · have h6 := h5.put (s + 5) (.bool q) (by omega) (by omega)
    exact next _ ⟨h6.x, h6.y, put_same _ _ _ (by have := h5.n; omega), h6.n, h6.d⟩
end
end Go.Proofs.YtdkiopajilakcaaGreat
/- underWay, Count and full of package book. -/
namespace Go.Proofs.YtdkiopajilakcaaGreat
open Go.RowKit Go.Maps
section
variable {w : World}
set_option maxHeartbeats 1000000 in
set_option maxRecDepth 100000 in
theorem under_any (s : SagaD) : Calls Tryz.prog 99 #[s.val] w (Gives (.bool (decide (s.st = 1) || decide (s.st = 2))) w) := by
  obtain ⟨W1, hW1⟩ : ∃ W1, W1 = w.alloc (.cells s.cells.toArray 72 (0, 0)) := ⟨_, rfl⟩
  obtain ⟨y, hy⟩ : ∃ y, y = w.heap.size := ⟨_, rfl⟩
  have X1 : Hid (SBox 72 y s W1) := by rw [hW1, hy]; exact heap_alloc_new _ _
  have L1 : Hid (Later w W1) := by rw [hW1]; exact (Below.refl _ _).alloc (Nat.le_refl _) _
  have c2 := X1.out.c2
  rw [hW1, hy] at c2
  obtain ⟨st, hst⟩ : ∃ st, s.st = st := ⟨_, rfl⟩
  rw [hst] at c2 ⊢
  have HW1 := hide hW1.symm
  have HY := hide hy.symm
  clear hW1 hy hst
  by_cases h1 : st = 1
  · subst h1
    go_enter Tryz.func99, Tryz.ntmps99
    go_wp2
    go_ret
    exact ⟨rfl, by rw [HW1.out]; exact L1.out⟩
  · have e1 : (st == 1) = false := by simpa using h1
    have d1 : decide (st = 1) = false := by simpa using h1
    rw [d1]
    by_cases h2 : st = 2
    · subst h2
      clear h1 d1 e1
      go_enter Tryz.func99, Tryz.ntmps99
      go_wp2
      go_ret
      exact ⟨rfl, by rw [HW1.out]; exact L1.out⟩
    · have e2 : (st == 2) = false := by simpa using h2
      have d2 : decide (st = 2) = false := by simpa using h2
      rw [d2]
      clear h1 h2 d1 d2
      go_enter Tryz.func99, Tryz.ntmps99
      go_wp2
      go_ret
      exact ⟨rfl, by rw [HW1.out]; exact L1.out⟩
/-- Does it go on, and is it another one? -/
def another (id : Int) (x : Ent) : Bool := (x.id != id) && x.isOpen
set_option maxHeartbeats 1000000 in
set_option maxRecDepth 100000 in
theorem another_is (x : Ent) (q : Option Addr) (n c : Nat) {pg : Nat} {but : Int} (hp : pg < w.heap.size) (hc : w.cell? ⟨pg, 0, none⟩ = some (.int .i64 but)) :
    Calls Tryz.prog 98 #[.int .i64 x.id, (x.s.withV q n c).val, .pointer (some ⟨pg, 0, none⟩)] w (Gives (.bool (another but x)) w) := by
  obtain ⟨s, hs⟩ : ∃ s, x.s.withV q n c = s := ⟨_, rfl⟩
  have hst : x.s.st = s.st := by rw [← hs]; rfl
  unfold another Ent.isOpen
  rw [hs, hst]
  obtain ⟨W1, hW1⟩ : ∃ W1, W1 = w.alloc (.cells s.cells.toArray 72 (0, 0)) := ⟨_, rfl⟩
  obtain ⟨y, hy⟩ : ∃ y, y = w.heap.size := ⟨_, rfl⟩
  have X1 : Hid (SBox 72 y s W1) := by rw [hW1, hy]; exact heap_alloc_new _ _
  have L1 : Hid (Later w W1) := by rw [hW1]; exact (Below.refl _ _).alloc (Nat.le_refl _) _
  have c1 : W1.cell? ⟨pg, 0, none⟩ = some (.int .i64 but) := (Below.cell L1.out (p := ⟨pg, 0, none⟩) hp).trans hc
  have C := hide (under_any (w := W1) s)
  obtain ⟨id, hid⟩ : ∃ id, x.id = id := ⟨_, rfl⟩
  rw [hid]
  obtain ⟨r, hr⟩ : ∃ r, (decide (s.st = 1) || decide (s.st = 2)) = r := ⟨_, rfl⟩
  rw [hr] at C ⊢
  rw [hW1] at c1
  have HW1 := hide hW1.symm
  have HY := hide hy.symm
  have X2 : Hid (SBox 72 w.heap.size s (w.alloc (.cells s.cells.toArray 72 (0, 0)))) := heap_alloc_new _ _
  clear hW1 hy hs hst hc hp hid hr X1
  by_cases hb : id = but
  · have e1 : (id != but) = false := by simpa using hb
    rw [e1]
    go_enter Tryz.func98, Tryz.ntmps98
    go_wp2
    go_ret
    exact ⟨rfl, by rw [HW1.out]; exact L1.out⟩
  · have e1 : (id != but) = true := by simpa using hb
    rw [e1]
    go_enter Tryz.func98, Tryz.ntmps98
    go_wp2_with (refine wpList_val rfl (by rfl) (exec_load_saga _ (by rfl) (by rfl) X2.out) ?_; rw [HW1.out])
    refine C.out.mono ?_
    rintro e w2 ⟨rfl, hl⟩
    have HL := hide hl
    clear hl
    go_wp2
    go_ret
    exact ⟨rfl, L1.out.trans HL.out⟩
end
section
variable {F : Nat → Prop} {w : World} {g b k : Nat} {most : Int} {t : BkS}
theorem enters_another : ∀ args w, (callFunc 98 args).run Tryz.prog w = .ok (.enter 98 args) w := enters_of Tryz.func98 (by kernel_rfl) rfl
def stateN (L : List Ent) (st : Int) : Nat := L.countP fun x => x.s.st == st
def fullB (L : List Ent) (most id : Int) : Bool := decide (most ≤ ((L.countP (another id) : Nat) : Int))
set_option maxHeartbeats 1000000 in
set_option maxRecDepth 100000 in
theorem full_any (id : Int) (h : BookAt F w g b k most t) (hn : t.L.length ≤ 1000000) : Calls Tryz.prog 64 #[.pointer (some ⟨g, 0, none⟩), .int .i64 id] w (Gives (.bool (fullB t.L most id)) w) := by
  obtain ⟨W1, hW1⟩ : ∃ W1, W1 = w.alloc (.cells #[.int .i64 id] 3 (0, 0)) := ⟨_, rfl⟩
  obtain ⟨y, hy⟩ : ∃ y, y = w.heap.size := ⟨_, rfl⟩
  have L1 : Hid (Later w W1) := by rw [hW1]; exact (Below.refl _ _).alloc (Nat.le_refl _) _
  have hb : W1.heap[y]? = some (.cells #[.int .i64 id] 3 (0, 0)) := by rw [hW1, hy]; exact heap_alloc_new _ _
  have hc : W1.cell? ⟨y, 0, none⟩ = some (.int .i64 id) := cell_of_row W1 y 0 _ _ _ hb
  have hlt := lt_of_block hb
  obtain ⟨r, hr⟩ : ∃ r, t.L.countP (another id) = r := ⟨_, rfl⟩
  have C : Hid (∀ W, Later W1 W → Calls Tryz.prog 97 #[.pointer (some ⟨g, 0, none⟩), .func (.func 98) #[] #[.pointer (some ⟨y, 0, none⟩)]] W (Gives (.int .i64 (r : Int)) W)) := fun W hWW => by
    have hl0 : Later w W1 := L1.out
    have hlw : Later w W := Later.trans hl0 hWW
    have hbw := h.later hlw
    have := count_any 98 #[.pointer (some ⟨y, 0, none⟩)] (another id) hbw hn enters_another fun W' hW x _ q n c => by
      have hl9 : Later W1 W' := Later.trans hWW hW
      have h1 : y < W'.heap.size := Nat.lt_of_lt_of_le hlt (Below.size hl9)
      have h2 : W'.cell? ⟨y, 0, none⟩ = some (.int .i64 id) := (Below.cell hl9 (p := ⟨y, 0, none⟩) hlt).trans hc
      exact another_is x q n c h1 h2
    rw [hr] at this
    exact this
  have CF : Hid (∀ W, Later w W → W.cell? ⟨g, 0, none⟩ = some (.int .i64 most)) := fun W hW => (h.later hW).c0
  unfold fullB
  rw [hr]
  have HW1 := hide hW1.symm
  have HY := hide hy.symm
  clear h hn hW1 hy hb hc hlt hr
  go_enter Tryz.func64, Tryz.ntmps64
  go_wp2_with (fail)
  simp only [HW1.out, HY.out]
  refine wp_region_L (by kernel_rfl) ?_
  refine wpAnyL_take (i := 0) (d := some 5) (v := ?vaa0) rfl rfl (by kernel_rfl) (by kernel_rfl) (by kernel_rfl) (fun _ _ _ h => h) (by rfl) ?yaa0 ?_
  case yaa0 => (intro w' hw'; go_simp; try (with_reducible rfl))
  simp only [Act.put]; try simp only [List.setIfInBounds_toArray]; try simp only [List.set_cons_zero, List.set_cons_succ]
  refine wpAnyL_take (i := 1) (d := some 6) (v := ?vaa1) rfl rfl (by kernel_rfl) (by kernel_rfl) (by kernel_rfl) (fun _ _ _ h => h) (by rfl) ?yaa1 ?_
  case yaa1 => (intro w' hw'; go_simp; try (with_reducible rfl))
  simp only [Act.put]; try simp only [List.setIfInBounds_toArray]; try simp only [List.set_cons_zero, List.set_cons_succ]
  refine wpAnyL_take (i := 3) (d := some 8) (v := ?vaa3) rfl rfl (by kernel_rfl) (by kernel_rfl) (by kernel_rfl) (fun _ _ _ h => h) (by rfl) ?yaa3 ?_
  case yaa3 => (intro w' hw'; go_simp; try (with_reducible rfl))
  simp only [Act.put]; try simp only [List.setIfInBounds_toArray]; try simp only [List.set_cons_zero, List.set_cons_succ]
  refine wpAnyL_take (i := 4) (d := some 9) (v := ?vaa4) rfl rfl (by kernel_rfl) (by kernel_rfl) (by kernel_rfl) (fun _ _ _ h => h) (by rfl) ?yaa4 ?_
  case yaa4 => (intro w' hw'; go_simp; try (with_reducible rfl))
  simp only [Act.put]; try simp only [List.setIfInBounds_toArray]; try simp only [List.set_cons_zero, List.set_cons_succ]
  refine wpAnyL_take (i := 5) (d := some 10) (v := ?vaa5) rfl rfl (by kernel_rfl) (by kernel_rfl) (by kernel_rfl) (fun _ _ _ h => h) (by rfl) ?yaa5 ?_
  case yaa5 => (intro w' hw'; go_simp; try (with_reducible rfl))
  simp only [Act.put]; try simp only [List.setIfInBounds_toArray]; try simp only [List.set_cons_zero, List.set_cons_succ]
  refine wpAnyL_take (i := 6) (d := some 11) (v := ?vaa6) rfl rfl (by kernel_rfl) (by kernel_rfl) (by kernel_rfl) (fun _ _ _ h => h) (by rfl) ?yaa6 ?_
  case yaa6 => (intro w' hw'; have hd1 : Later w W1.drew := Later.trans (show Later w W1 from L1.out) (Later.drew _); have cc := CF.out _ (Later.trans hd1 hw'); clear hd1; go_simp; try (with_reducible rfl))
  simp only [Act.put]; try simp only [List.setIfInBounds_toArray]; try simp only [List.set_cons_zero, List.set_cons_succ]
  refine wpAnyL_only (i := 2) rfl (by kernel_rfl) (by rfl) fun K hK => ?_
  go_simp
  refine (C.out _ (Later.drew _)).mono ?_
  rintro e w1 ⟨rfl, hl⟩
  have hd0 : Later w W1 := L1.out
  have hd1 : Later W1 W1.drew := Later.drew _
  have hd2 : Later W1 w1 := Later.trans hd1 hl
  have HL : Hid (Later w w1) := Later.trans hd0 hd2
  clear hd0 hd1 hd2
  refine hK.out _ _ hl ?_
  clear hl
  clear hK K
  try (simp only [Act.put]; try simp only [List.setIfInBounds_toArray]; try simp only [List.set_cons_zero, List.set_cons_succ])
  refine wpAnyL_take (i := 7) (d := some 12) (v := ?vaa7) rfl rfl (by kernel_rfl) (by kernel_rfl) (by kernel_rfl) (fun _ _ _ h => h) (by rfl) ?yaa7 ?_
  case yaa7 => (intro w' hw'; go_simp; try (with_reducible rfl))
  simp only [Act.put]; try simp only [List.setIfInBounds_toArray]; try simp only [List.set_cons_zero, List.set_cons_succ]
  refine wpAnyL_take (i := 8) (d := some 4) (v := ?vaa8) rfl rfl (by kernel_rfl) (by kernel_rfl) (by kernel_rfl) (fun _ _ _ h => h) (by rfl) ?yaa8 ?_
  case yaa8 => (intro w' hw'; go_simp; try (with_reducible rfl))
  simp only [Act.put]; try simp only [List.setIfInBounds_toArray]; try simp only [List.set_cons_zero, List.set_cons_succ]
  refine wpAnyL_done (by kernel_rfl) ?_ _
  go_wp2
  go_ret
  exact ⟨rfl, HL.out⟩
end
end Go.Proofs.YtdkiopajilakcaaGreat
/- Saga, Status and New of package book. -/
namespace Go.Proofs.YtdkiopajilakcaaGreat
open Go.RowKit Go.Maps
/-- What a look-up says, whether it is there or not. -/
def AtV (F : Nat → Prop) (s : SagaD) (l : List StepD) (ok : Bool) (w : World) (e : Ending) (w' : World) : Prop := ∃ p n c, e = .returned (.tuple #[(s.withV p n c).val, .bool ok]) ∧ StepsAt F w' (.slice p n c) l ∧ Later w w'
def atS (t : BkS) (id : Int) : SagaD := match entAt t.L id with | some x => x.s | none => SagaD.zero
def atL (t : BkS) (id : Int) : List StepD := match entAt t.L id with | some x => x.l | none => []
def atB (t : BkS) (id : Int) : Bool := (entAt t.L id).isSome
section
variable {F : Nat → Prop} {w : World} {g b k : Nat} {most : Int} {t : BkS}
theorem bat_any (h : BookAt F w g b k most t) {id : Int} (hid : I64 id) : Calls Tryz.prog 59 #[.pointer (some ⟨g, 0, none⟩), .int .i64 id] w (AtV F (atS t id) (atL t id) (atB t id) w) := by
  unfold atS atL atB
  cases hx : entAt t.L id with
  | some x => exact at_some h hid hx
  | none =>
    refine (at_none h hid hx).mono ?_
    rintro e w' ⟨rfl, hl⟩
    exact ⟨none, 0, 0, rfl, StepsAt.nil_ _ _, hl⟩
theorem atL_len (h : BookAt F w g b k most t) (id : Int) : (atL t id).length ≤ 8 := by
  unfold atL
  cases hx : entAt t.L id with
  | some x => exact (h.ok.2.1 x (entAt_mem hx).1).1.2.1
  | none => simp
/-- A saga in memory of its own. -/
def OwnV (s : SagaD) (l : List StepD) (ok : Bool) (w : World) (e : Ending) (w' : World) : Prop := ∃ p n c, e = .returned (.tuple #[(s.withV p n c).val, .bool ok]) ∧ StepsAt (w.heap.size ≤ ·) w' (.slice p n c) l ∧ Later w w'
set_option maxHeartbeats 4000000 in
set_option maxRecDepth 100000 in
theorem saga_any (h : BookAt F w g b k most t) {id : Int} (hid : I64 id) : Calls Tryz.prog 30 #[.pointer (some ⟨g, 0, none⟩), .int .i64 id] w (OwnV (atS t id) (atL t id) (atB t id) w) := by
  obtain ⟨W1, hW1⟩ : ∃ W1, W1 = w.alloc (.cells #[.string ⟨#[]⟩, .slice none 0 0, .int .i64 0, .int .i64 0, .int .i64 0, .bool false, .bool false, .bool false, .bool false, .bool false, .bool false, .bool false, .bool false] 72 (0, 0)) := ⟨_, rfl⟩
  obtain ⟨y, hy⟩ : ∃ y, y = w.heap.size := ⟨_, rfl⟩
  have Y1 : Hid (SBox 72 y SagaD.zero W1) := by rw [hW1, hy]; exact heap_alloc_new _ _
  have L1 : Hid (Later w W1) := by rw [hW1]; exact (Below.refl _ _).alloc (Nat.le_refl _) _
  have HY : Hid (w.heap.size ≤ y) := Nat.le_of_eq hy.symm
  have C := hide (bat_any (h.later L1.out) hid)
  have HL8 := hide (atL_len h id)
  obtain ⟨s, hs⟩ : ∃ s, atS t id = s := ⟨_, rfl⟩
  obtain ⟨l, hl⟩ : ∃ l, atL t id = l := ⟨_, rfl⟩
  obtain ⟨q, hq⟩ : ∃ q, atB t id = q := ⟨_, rfl⟩
  rw [hs, hl, hq] at C
  rw [hl] at HL8
  rw [hs, hl, hq]
  have HW1 := hide hW1.symm
  have HG := hide hy.symm
  clear h hid hW1 hy hs hl hq
  go_enter Tryz.func30, Tryz.ntmps30
  go_wp2_with (fail)
  simp only [HW1.out, HG.out]
  refine C.out.mono ?_
  rintro e w2 ⟨p, n, c, rfl, hs, hl2⟩
  obtain ⟨s2, hs2⟩ : ∃ s2, s.withV p n c = s2 := ⟨_, rfl⟩
  have hv : s2.v = .slice p n c := by rw [← hs2]; rfl
  rw [← hv] at hs
  have L2a : Later w W1 := L1.out
  have L2 : Hid (Later w w2) := Later.trans L2a hl2
  have Y2 : Hid (SBox 72 y SagaD.zero w2) := Y1.out.below hl2
  rw [hs2]
  have HS2 := hide hs2
  have T2 : Hid (SBox 72 w2.heap.size SagaD.zero (w2.alloc (.cells #[.string ⟨#[]⟩, .slice none 0 0, .int .i64 0, .int .i64 0, .int .i64 0, .bool false, .bool false, .bool false, .bool false, .bool false, .bool false, .bool false, .bool false] 72 (0, 0)))) := heap_alloc_new _ _
  have L2b : Hid (Later w2 (w2.alloc (.cells #[.string ⟨#[]⟩, .slice none 0 0, .int .i64 0, .int .i64 0, .int .i64 0, .bool false, .bool false, .bool false, .bool false, .bool false, .bool false, .bool false, .bool false] 72 (0, 0)))) := (Below.refl _ _).alloc (Nat.le_refl _) _
  have HS := hide hs
  clear hs hl2 C L2a hv hs2
  go_wp2_with (refine wpList_store_saga (s := s2) (by rfl) _ _ (by rfl) (by rfl) T2.out (by rfl) ?_)
  intro w3 X3 G3
  have L3 : Hid (Later w2 w3) := L2b.out.grown G3 (by simp) (fun k hk => by have := Option.some.inj hk; omega)
  have HX3 := hide X3
  have C2 := hide (bown_any (StepsAt.kept HS.out (Kept.of_below L3.out F)) (by have := HL8.out; omega))
  have Y3 : Hid (SBox 72 y SagaD.zero w3) := Y2.out.below L3.out
  clear X3 G3
  go_wp2_with (refine wpList_load_saga (by rfl) _ (by rfl) (by rfl) HX3.out ?_)
  refine C2.out.mono ?_
  rintro e w4 ⟨p4, n4, c4, rfl, hs4, hl4⟩
  have Y4 : Hid (SBox 72 y SagaD.zero w4) := Y3.out.below hl4
  have L4a : Later w w2 := L2.out
  have L4b : Later w2 w4 := Later.trans L3.out hl4
  have L4 : Hid (Later w w4) := Later.trans L4a L4b
  have HS4 := hide hs4
  have HLT : Hid (y < w3.heap.size) := SBox.lt Y3.out
  clear hs4 hl4 L4a L4b C2
  go_wp2_with (refine wpList_store_saga (s := s2.withV p4 n4 c4) (by rfl) _ _ (by rfl) (by rfl) Y4.out (by rfl) ?_)
  intro w5 Z5 G5
  have HZ5 := hide Z5
  have HLF : Hid (Later w w5) := L4.out.grown G5 (Below.size L4.out) (fun k hk => by have := Option.some.inj hk; have := HY.out; omega)
  have S5 : Hid (StepsAt (w.heap.size ≤ ·) w5 (.slice p4 n4 c4) l) := FlatAt.mono (StepsAt.kept HS4.out (Kept.of_grown G5 (fun k hk hf => by have := Option.some.inj hk; have := HLT.out; omega))) (fun i _ hf => by have h1 : w3.heap.size ≤ i := hf; have h2 := Below.size L2.out; have h3 := Below.size L3.out; omega)
  clear Z5 G5
  go_wp2
  refine bodyPost_ret (results_box2 Tryz.results30 _ _ y 72 _ _ (by rfl) HZ5.out Tryz.underlying72 (by rfl) (by kernel_rfl) (.bool q) (by rfl)) (by rfl) ?_
  exact ⟨p4, n4, c4, by rw [← HS2.out]; rfl, S5.out, HLF.out⟩

/-- The block g holds a reply. -/
def RBox (g : Nat) (r : RepD) (w : World) : Prop := w.heap[g]? = some (.cells r.cells.toArray 40 (0, 0))
theorem RepD.one (r : RepD) : ∀ u ∈ r.cells, u.oneCell' = true := by
  intro u hu
  simp only [RepD.cells, List.mem_cons, List.not_mem_nil, or_false] at hu
  rcases hu with rfl | rfl | rfl | rfl <;> rfl
theorem rep_put (x y : RepD) : putAt x.cells.toArray 0 y.cells = y.cells.toArray := by simp [putAt, RepD.cells]
theorem RBox.below {g : Nat} {r : RepD} {w w' : World} (h : RBox g r w) (hl : Later w w') : RBox g r w' := (Below.block hl g (lt_of_block h)).trans h
theorem RBox.other {g : Nat} {x : RepD} {w w' : World} (h : RBox g x w) {r : Option Nat} (hg : w.grownBy w' r) (hr : some g ≠ r) : RBox g x w' := (hg.block g (lt_of_block h) hr).trans h
theorem RBox.turned {Q : Nat → Prop} {g : Nat} {r : RepD} {w w' : World} (h : RBox g r w) (ht : Turned Q w w') (hq : ¬ Q g) : RBox g r w' := (ht.block g (lt_of_block h) hq).trans h
section
variable {ops : Array Oper} {rest : List Oper} {op : Oper} {a : Act} {W : World} {Q : Exit → Act → World → Prop} {g : Nat} {r z : RepD}
theorem wpList_store_rep (hgd : op.guard = none) (x y : Operand) (ho : op.op = .store 40 x y) (hx : a.eval x = .pointer (some ⟨g, 0, none⟩)) (hg : RBox g z W) (hy : a.eval y = r.val)
    (h : ∀ w', RBox g r w' → W.grownBy w' (some g) → wpList Tryz.prog ops Q rest (a.put op.dst undef) w') : wpList Tryz.prog ops Q (op :: rest) a W :=
  wpList_store_box hgd 40 x y ho g 0 r.cells.toArray hx hy _ _ hg (by kernel_rfl) (by exact Nat.le_of_ble_eq_true rfl) (by exact r.one) (fun w' hb hg' => h w' (by rw [show r.cells.toArray.toList = r.cells from rfl, rep_put] at hb; exact hb) hg')
end
/-- The Status of that number. -/
theorem status_at (L : List Ent) (last id : Int) : statusF L id = if atB ⟨last, L⟩ id then ⟨0, id, (atS ⟨last, L⟩ id).st, (atS ⟨last, L⟩ id).step⟩ else errR 8 := by
  unfold statusF atB atS
  cases hx : entAt L id <;> rfl
set_option maxHeartbeats 4000000 in
set_option maxRecDepth 100000 in
theorem status_any (h : BookAt F w g b k most t) {id : Int} (hid : I64 id) : Calls Tryz.prog 37 #[.pointer (some ⟨g, 0, none⟩), .int .i64 id] w (Gives (statusF t.L id).val w) := by
  obtain ⟨W1, hW1⟩ : ∃ W1, W1 = w.alloc (.cells #[.int .i64 0, .int .i64 0, .int .i64 0, .int .i64 0] 40 (0, 0)) := ⟨_, rfl⟩
  obtain ⟨y, hy⟩ : ∃ y, y = w.heap.size := ⟨_, rfl⟩
  have Y1 : Hid (RBox y (errR 0) W1) := by rw [hW1, hy]; exact heap_alloc_new _ _
  have L1 : Hid (Later w W1) := by rw [hW1]; exact (Below.refl _ _).alloc (Nat.le_refl _) _
  have HY : Hid (w.heap.size ≤ y) := Nat.le_of_eq hy.symm
  have CM := hide (made_yes (h.later L1.out))
  have C := hide (bat_any (h.later L1.out) hid)
  rw [status_at t.L t.last id]
  change Calls _ _ _ _ (Gives (if atB t id then (⟨0, id, (atS t id).st, (atS t id).step⟩ : RepD) else errR 8).val w)
  obtain ⟨s, hs⟩ : ∃ s, atS t id = s := ⟨_, rfl⟩
  obtain ⟨l, hl⟩ : ∃ l, atL t id = l := ⟨_, rfl⟩
  obtain ⟨q, hq⟩ : ∃ q, atB t id = q := ⟨_, rfl⟩
  rw [hs, hl, hq] at C
  rw [hs, hq]
  have HW1 := hide hW1.symm
  have HG := hide hy.symm
  clear h hid hW1 hy hs hl hq
  cases q with
  | true =>
    rw [if_pos rfl]
    obtain ⟨st, hst⟩ : ∃ st, s.st = st := ⟨_, rfl⟩
    obtain ⟨sp, hsp⟩ : ∃ sp, s.step = sp := ⟨_, rfl⟩
    rw [hst, hsp]
    have HST := hide hst
    have HSP := hide hsp
    clear hst hsp
    go_enter Tryz.func37, Tryz.ntmps37
    go_wp2_with (fail)
    simp only [HW1.out, HG.out]
    refine CM.out.mono ?_
    rintro e w2 ⟨rfl, rfl⟩
    go_wp2_with (fail)
    refine C.out.mono ?_
    rintro e w2 ⟨p, n, c, rfl, hs, hl2⟩
    obtain ⟨s2, hs2⟩ : ∃ s2, s.withV p n c = s2 := ⟨_, rfl⟩
    have E2 : Hid (s2.st = st) := by show s2.st = st; rw [← hs2]; exact HST.out
    have E3 : Hid (s2.step = sp) := by show s2.step = sp; rw [← hs2]; exact HSP.out
    rw [hs2]
    have L2a : Later w W1 := L1.out
    have L2 : Hid (Later w w2) := Later.trans L2a hl2
    have Y2 : Hid (RBox y (errR 0) w2) := Y1.out.below hl2
    have T2 : Hid (SBox 72 w2.heap.size SagaD.zero (w2.alloc (.cells #[.string ⟨#[]⟩, .slice none 0 0, .int .i64 0, .int .i64 0, .int .i64 0, .bool false, .bool false, .bool false, .bool false, .bool false, .bool false, .bool false, .bool false] 72 (0, 0)))) := heap_alloc_new _ _
    have L2b : Hid (Later w2 (w2.alloc (.cells #[.string ⟨#[]⟩, .slice none 0 0, .int .i64 0, .int .i64 0, .int .i64 0, .bool false, .bool false, .bool false, .bool false, .bool false, .bool false, .bool false, .bool false] 72 (0, 0)))) := (Below.refl _ _).alloc (Nat.le_refl _) _
    clear hs hl2 C CM L2a hs2
    go_wp2_with (refine wpList_store_saga (s := s2) (by rfl) _ _ (by rfl) (by rfl) T2.out (by rfl) ?_)
    intro w3 X3 G3
    have L3 : Hid (Later w2 w3) := L2b.out.grown G3 (by simp) (fun k hk => by have := Option.some.inj hk; omega)
    have c2 := SBox.c2 X3
    have c3 := SBox.c3 X3
    have Y3 : Hid (RBox y (errR 0) w3) := Y2.out.below L3.out
    have L4a : Later w w2 := L2.out
    have L4b : Later w2 w3 := L3.out
    have L4 : Hid (Later w w3) := Later.trans L4a L4b
    clear X3 G3 L4a L4b
    rw [E2.out] at c2
    rw [E3.out] at c3
    go_wp2_with (refine wpList_store_rep (r := ⟨0, id, st, sp⟩) (by rfl) _ _ (by rfl) (by rfl) Y3.out (by rfl) ?_)
    intro w5 Z5 G5
    have HLF : Hid (Later w w5) := L4.out.grown G5 (Below.size L4.out) (fun k hk => by have := Option.some.inj hk; have := HY.out; omega)
    have HZ5 := hide Z5
    clear Z5 G5
    go_wp2
    refine bodyPost_ret (results_cell_row Tryz.results37 _ _ y 40 _ (0, 0) _ (by rfl) HZ5.out Tryz.underlying40 (by rfl) (by kernel_rfl)) (by rfl) ?_
    exact ⟨rfl, HLF.out⟩
  | false =>
    rw [if_neg (by simp)]
    go_enter Tryz.func37, Tryz.ntmps37
    go_wp2_with (fail)
    simp only [HW1.out, HG.out]
    refine CM.out.mono ?_
    rintro e w2 ⟨rfl, rfl⟩
    go_wp2_with (fail)
    refine C.out.mono ?_
    rintro e w2 ⟨p, n, c, rfl, hs, hl2⟩
    obtain ⟨s2, hs2⟩ : ∃ s2, s.withV p n c = s2 := ⟨_, rfl⟩
    rw [hs2]
    have L2a : Later w W1 := L1.out
    have L2 : Hid (Later w w2) := Later.trans L2a hl2
    have Y2 : Hid (RBox y (errR 0) w2) := Y1.out.below hl2
    have T2 : Hid (SBox 72 w2.heap.size SagaD.zero (w2.alloc (.cells #[.string ⟨#[]⟩, .slice none 0 0, .int .i64 0, .int .i64 0, .int .i64 0, .bool false, .bool false, .bool false, .bool false, .bool false, .bool false, .bool false, .bool false] 72 (0, 0)))) := heap_alloc_new _ _
    have L2b : Hid (Later w2 (w2.alloc (.cells #[.string ⟨#[]⟩, .slice none 0 0, .int .i64 0, .int .i64 0, .int .i64 0, .bool false, .bool false, .bool false, .bool false, .bool false, .bool false, .bool false, .bool false] 72 (0, 0)))) := (Below.refl _ _).alloc (Nat.le_refl _) _
    clear hs hl2 C CM L2a hs2
    go_wp2_with (refine wpList_store_saga (s := s2) (by rfl) _ _ (by rfl) (by rfl) T2.out (by rfl) ?_)
    intro w3 X3 G3
    have L3 : Hid (Later w2 w3) := L2b.out.grown G3 (by simp) (fun k hk => by have := Option.some.inj hk; omega)
    have Y3 : Hid (RBox y (errR 0) w3) := Y2.out.below L3.out
    have L4a : Later w w2 := L2.out
    have L4b : Later w2 w3 := L3.out
    have L4 : Hid (Later w w3) := Later.trans L4a L4b
    clear X3 G3 L4a L4b
    go_wp2_with (refine wpList_store_rep (r := errR 8) (by rfl) _ _ (by rfl) (by rfl) Y3.out (by rfl) ?_)
    intro w5 Z5 G5
    have HLF : Hid (Later w w5) := L4.out.grown G5 (Below.size L4.out) (fun k hk => by have := Option.some.inj hk; have := HY.out; omega)
    have HZ5 := hide Z5
    clear Z5 G5
    go_wp2
    refine bodyPost_ret (results_cell_row Tryz.results37 _ _ y 40 _ (0, 0) _ (by rfl) HZ5.out Tryz.underlying40 (by rfl) (by kernel_rfl)) (by rfl) ?_
    exact ⟨rfl, HLF.out⟩
/-- What New hands back where there may be so many. -/
def NewBook (w : World) (most : Int) (e : Ending) (w' : World) : Prop :=
  ∃ g b, e = .returned (.pointer (some ⟨g, 0, none⟩)) ∧ w.heap.size ≤ g ∧ w.heap.size ≤ b ∧ Later w w' ∧ ∀ F : Nat → Prop, ¬ F g → ¬ F b → BookAt F w' g b 0 most ⟨0, []⟩
set_option maxHeartbeats 400000 in
theorem new_no (most : Int) (w : World) (h : most < 0 ∨ 32 < most) : Calls Tryz.prog 12 #[.int .i64 most] w fun e w' => e = .returned (.pointer none) ∧ w = w' := by
  by_cases h0 : most < 0
  · clear h
    go_enter Tryz.func12, Tryz.ntmps12
    go_wp2
    go_ret
    exact ⟨rfl, rfl⟩
  · have h1 : 32 < most := by omega
    clear h
    go_enter Tryz.func12, Tryz.ntmps12
    go_wp2
    go_ret
    exact ⟨rfl, rfl⟩
set_option maxHeartbeats 400000 in
theorem new_yes (most : Int) (w : World) (h0 : 0 ≤ most) (h1 : most ≤ 32) : Calls Tryz.prog 12 #[.int .i64 most] w (NewBook w most) := by
  have hmm := @run_makeMap Tryz.prog
  go_enter Tryz.func12, Tryz.ntmps12
  go_wp2
  go_ret
  refine ⟨w.heap.size + 1, w.heap.size, rfl, by omega, by omega, ((Below.refl _ _).alloc (Nat.le_refl _) _).alloc (by simp) _, fun F hg hb => ⟨heap_alloc2_new w _ _, ⟨fun _ => ⟨none, 0, 0⟩, ?_, by simp⟩, ⟨.nil, by simp, by decide, by decide⟩, by omega, hg, hb⟩⟩
  exact (World.ownsMap_made w Tryz.prog 3 heldR).alloc _
end
end Go.Proofs.YtdkiopajilakcaaGreat
/- Contracts of the library laid at this program: its numbers, and that its bodies are the ones that the contracts speak of. -/
namespace Go.Proofs.YtdkiopajilakcaaGreat
open Go.Shelf
def Tryz.keysA_ren : Go.Shelf.Ren := ⟨fun | 7 => 87 | 10 => 111 | n => n, fun | 23 => 88 | 26 => 3 | 3 => 72 | 28 => 123 | 0 => 0 | 27 => 122 | 33 => 129 | 4 => 4 | n => n, fun | n => n⟩
theorem Tryz.keysA : Go.Proofs.SlLaysZI.n7 Tryz.prog Tryz.keysA_ren := {
  mixed := by kernel_rfl
  f7 := ⟨Tryz.f87.name, by decide, Tryz.func87.trans (congrArg some (by kernel_rfl))⟩
  f10 := ⟨Tryz.f111.name, by decide, Tryz.func111.trans (congrArg some (by kernel_rfl))⟩
  t0 := Tryz.underlying0
  a0 := Tryz.isAgg0
  z0 := Tryz.sizeOf0
  v0 := Tryz.zeroValue0
  t4 := Tryz.underlying4
  a4 := Tryz.isAgg4
  z4 := Tryz.sizeOf4
  v4 := Tryz.zeroValue4
  t23 := Tryz.underlying88
  a23 := Tryz.isAgg88
  z23 := Tryz.sizeOf88
  v23 := Tryz.zeroValue88
  t26 := Tryz.underlying3
  a26 := Tryz.isAgg3
  z26 := Tryz.sizeOf3
  v26 := Tryz.zeroValue3
  t27 := Tryz.underlying122
  a27 := Tryz.isAgg122
  z27 := Tryz.sizeOf122
  v27 := Tryz.zeroValue122
  t28 := Tryz.underlying123
  a28 := Tryz.isAgg123
  z28 := Tryz.sizeOf123
  v28 := Tryz.zeroValue123
  t33 := Tryz.underlying129
  a33 := Tryz.isAgg129
  z33 := Tryz.sizeOf129
  v33 := Tryz.zeroValue129 }
def Tryz.keysO_ren : Go.Shelf.Ren := ⟨fun | 7 => 58 | 10 => 90 | n => n, fun | 23 => 82 | 26 => 3 | 3 => 111 | 28 => 123 | 0 => 0 | 27 => 122 | 33 => 129 | 4 => 4 | n => n, fun | n => n⟩
theorem Tryz.keysO : Go.Proofs.SlLaysZI.n7 Tryz.prog Tryz.keysO_ren := {
  mixed := by kernel_rfl
  f7 := ⟨Tryz.f58.name, by decide, Tryz.func58.trans (congrArg some (by kernel_rfl))⟩
  f10 := ⟨Tryz.f90.name, by decide, Tryz.func90.trans (congrArg some (by kernel_rfl))⟩
  t0 := Tryz.underlying0
  a0 := Tryz.isAgg0
  z0 := Tryz.sizeOf0
  v0 := Tryz.zeroValue0
  t4 := Tryz.underlying4
  a4 := Tryz.isAgg4
  z4 := Tryz.sizeOf4
  v4 := Tryz.zeroValue4
  t23 := Tryz.underlying82
  a23 := Tryz.isAgg82
  z23 := Tryz.sizeOf82
  v23 := Tryz.zeroValue82
  t26 := Tryz.underlying3
  a26 := Tryz.isAgg3
  z26 := Tryz.sizeOf3
  v26 := Tryz.zeroValue3
  t27 := Tryz.underlying122
  a27 := Tryz.isAgg122
  z27 := Tryz.sizeOf122
  v27 := Tryz.zeroValue122
  t28 := Tryz.underlying123
  a28 := Tryz.isAgg123
  z28 := Tryz.sizeOf123
  v28 := Tryz.zeroValue123
  t33 := Tryz.underlying129
  a33 := Tryz.isAgg129
  z33 := Tryz.sizeOf129
  v33 := Tryz.zeroValue129 }
def Tryz.sortedA_ren : Go.Shelf.Ren := ⟨fun | 6 => 57 | 8 => 88 | 9 => 89 | 11 => 112 | 13 => 114 | 12 => 113 | 23 => 131 | 24 => 132 | 14 => 122 | 15 => 123 | 16 => 124 | 17 => 125 | 18 => 126 | 19 => 127 | 20 => 128 | 21 => 129 | 22 => 130 | 25 => 141 | 26 => 142 | 27 => 143 | 28 => 144 | 29 => 145 | 30 => 146 | 31 => 152 | n => n, fun | 26 => 3 | 28 => 123 | 24 => 44 | 0 => 0 | 3 => 3 | 37 => 54 | 48 => 178 | 50 => 180 | 4 => 4 | 40 => 170 | 39 => 169 | 45 => 175 | 5 => 5 | 9 => 9 | 51 => 187 | 55 => 191 | 57 => 196 | 58 => 155 | 33 => 129 | n => n, fun | n => n⟩
theorem Tryz.sortedA : Go.Proofs.SlLaysZI.n6 Tryz.prog Tryz.sortedA_ren := {
  mixed := by kernel_rfl
  f6 := ⟨Tryz.f57.name, by decide, Tryz.func57.trans (congrArg some (by kernel_rfl))⟩
  f8 := ⟨Tryz.f88.name, by decide, Tryz.func88.trans (congrArg some (by kernel_rfl))⟩
  f11 := ⟨Tryz.f112.name, by decide, Tryz.func112.trans (congrArg some (by kernel_rfl))⟩
  t0 := Tryz.underlying0
  a0 := Tryz.isAgg0
  z0 := Tryz.sizeOf0
  v0 := Tryz.zeroValue0
  t24 := Tryz.underlying44
  a24 := Tryz.isAgg44
  z24 := Tryz.sizeOf44
  v24 := Tryz.zeroValue44
  t26 := Tryz.underlying3
  a26 := Tryz.isAgg3
  z26 := Tryz.sizeOf3
  v26 := Tryz.zeroValue3
  t28 := Tryz.underlying123
  a28 := Tryz.isAgg123
  z28 := Tryz.sizeOf123
  v28 := Tryz.zeroValue123
  i26 := by kernel_rfl }
def Tryz.sortA_ren : Go.Shelf.Ren := ⟨fun | 5 => 89 | 8 => 114 | 7 => 113 | 19 => 131 | 20 => 132 | 10 => 122 | 11 => 123 | 12 => 124 | 13 => 125 | 14 => 126 | 15 => 127 | 16 => 128 | 17 => 129 | 18 => 130 | 30 => 141 | 31 => 142 | 32 => 143 | 33 => 144 | 34 => 145 | 35 => 146 | 40 => 152 | n => n, fun | 23 => 44 | 25 => 3 | 3 => 3 | 32 => 54 | 22 => 44 | 0 => 0 | 44 => 178 | 46 => 180 | 4 => 4 | 36 => 170 | 35 => 169 | 41 => 175 | 5 => 5 | 9 => 9 | 53 => 187 | 57 => 191 | 63 => 196 | 64 => 155 | n => n, fun | n => n⟩
theorem Tryz.sortA : Go.Proofs.SlLaysM.n5 Tryz.prog Tryz.sortA_ren := {
  mixed := by kernel_rfl
  f5 := ⟨Tryz.f89.name, by decide, Tryz.func89.trans (congrArg some (by kernel_rfl))⟩
  f7 := ⟨Tryz.f113.name, by decide, Tryz.func113.trans (congrArg some (by kernel_rfl))⟩
  f8 := Tryz.func114.trans (congrArg some (by kernel_rfl))
  f10 := ⟨Tryz.f122.name, by decide, Tryz.func122.trans (congrArg some (by kernel_rfl))⟩
  f11 := ⟨Tryz.f123.name, by decide, Tryz.func123.trans (congrArg some (by kernel_rfl))⟩
  f12 := ⟨Tryz.f124.name, by decide, Tryz.func124.trans (congrArg some (by kernel_rfl))⟩
  f13 := ⟨Tryz.f125.name, by decide, Tryz.func125.trans (congrArg some (by kernel_rfl))⟩
  f14 := ⟨Tryz.f126.name, by decide, Tryz.func126.trans (congrArg some (by kernel_rfl))⟩
  f15 := ⟨Tryz.f127.name, by decide, Tryz.func127.trans (congrArg some (by kernel_rfl))⟩
  f16 := ⟨Tryz.f128.name, by decide, Tryz.func128.trans (congrArg some (by kernel_rfl))⟩
  f17 := ⟨Tryz.f129.name, by decide, Tryz.func129.trans (congrArg some (by kernel_rfl))⟩
  f18 := ⟨Tryz.f130.name, by decide, Tryz.func130.trans (congrArg some (by kernel_rfl))⟩
  f19 := Tryz.func131.trans (congrArg some (by kernel_rfl))
  f20 := Tryz.func132.trans (congrArg some (by kernel_rfl))
  f30 := ⟨Tryz.f141.name, by decide, Tryz.func141.trans (congrArg some (by kernel_rfl))⟩
  f31 := Tryz.func142.trans (congrArg some (by kernel_rfl))
  f32 := Tryz.func143.trans (congrArg some (by kernel_rfl))
  f33 := ⟨Tryz.f144.name, by decide, Tryz.func144.trans (congrArg some (by kernel_rfl))⟩
  f34 := ⟨Tryz.f145.name, by decide, Tryz.func145.trans (congrArg some (by kernel_rfl))⟩
  f35 := ⟨Tryz.f146.name, by decide, Tryz.func146.trans (congrArg some (by kernel_rfl))⟩
  f40 := ⟨Tryz.f152.name, by decide, Tryz.func152.trans (congrArg some (by kernel_rfl))⟩
  t0 := Tryz.underlying0
  a0 := Tryz.isAgg0
  z0 := Tryz.sizeOf0
  v0 := Tryz.zeroValue0
  t3 := Tryz.underlying3
  a3 := Tryz.isAgg3
  z3 := Tryz.sizeOf3
  v3 := Tryz.zeroValue3
  t4 := Tryz.underlying4
  a4 := Tryz.isAgg4
  z4 := Tryz.sizeOf4
  v4 := Tryz.zeroValue4
  t5 := Tryz.underlying5
  a5 := Tryz.isAgg5
  z5 := Tryz.sizeOf5
  v5 := Tryz.zeroValue5
  t9 := Tryz.underlying9
  a9 := Tryz.isAgg9
  z9 := Tryz.sizeOf9
  v9 := Tryz.zeroValue9
  t22 := Tryz.underlying44
  a22 := Tryz.isAgg44
  z22 := Tryz.sizeOf44
  v22 := Tryz.zeroValue44
  t23 := Tryz.underlying44
  a23 := Tryz.isAgg44
  z23 := Tryz.sizeOf44
  v23 := Tryz.zeroValue44
  t25 := Tryz.underlying3
  a25 := Tryz.isAgg3
  z25 := Tryz.sizeOf3
  v25 := Tryz.zeroValue3
  t32 := Tryz.underlying54
  a32 := Tryz.isAgg54
  z32 := Tryz.sizeOf54
  v32 := Tryz.zeroValue54
  t35 := Tryz.underlying169
  a35 := Tryz.isAgg169
  z35 := Tryz.sizeOf169
  v35 := Tryz.zeroValue169
  t36 := Tryz.underlying170
  a36 := Tryz.isAgg170
  z36 := Tryz.sizeOf170
  v36 := Tryz.zeroValue170
  t41 := Tryz.underlying175
  a41 := Tryz.isAgg175
  z41 := Tryz.sizeOf175
  v41 := Tryz.zeroValue175
  t44 := Tryz.underlying178
  a44 := Tryz.isAgg178
  z44 := Tryz.sizeOf178
  v44 := Tryz.zeroValue178
  t46 := Tryz.underlying180
  a46 := Tryz.isAgg180
  z46 := Tryz.sizeOf180
  v46 := Tryz.zeroValue180
  t53 := Tryz.underlying187
  a53 := Tryz.isAgg187
  z53 := Tryz.sizeOf187
  v53 := Tryz.zeroValue187
  t57 := Tryz.underlying191
  a57 := Tryz.isAgg191
  z57 := Tryz.sizeOf191
  v57 := Tryz.zeroValue191
  t63 := Tryz.underlying196
  a63 := Tryz.isAgg196
  z63 := Tryz.sizeOf196
  v63 := Tryz.zeroValue196
  t64 := Tryz.underlying155
  a64 := Tryz.isAgg155
  z64 := Tryz.sizeOf155
  v64 := Tryz.zeroValue155 }
end Go.Proofs.YtdkiopajilakcaaGreat
/- What is said of memory, for slices of int: a slice that holds a list of integers, nil and empty ones among them; a row of ints that the call itself made. -/
namespace Go.Proofs.YtdkiopajilakcaaGreat
open Go.RowKit

def iv (x : Int) : Value := .int .i64 x
def ivs (l : List Int) : List Value := l.map iv

theorem ivs_len (l : List Int) : (ivs l).length = l.length := by simp [ivs]
theorem ivs_append (a b : List Int) : ivs (a ++ b) = ivs a ++ ivs b := by simp [ivs]
theorem ivs_one (x : Int) : ivs [x] = [.int .i64 x] := rfl
theorem ivs_cell (l : List Int) : ∀ u ∈ ivs l, u.oneCell' = true := by
  intro u hu
  obtain ⟨_, _, rfl⟩ := List.mem_map.1 hu
  rfl
theorem ivs_get {l : List Int} {i : Nat} (h : i < l.length) : (ivs l)[i]? = some (.int .i64 (l.getD i 0)) := by
  simp [ivs, iv, h]
theorem ivs_set (l : List Int) (i : Nat) (x : Int) : ivs (l.set i x) = (ivs l).set i (.int .i64 x) := by simp [ivs, iv, List.map_set]

/-- All of them fit an int. -/
def Fit (l : List Int) : Prop := ∀ x ∈ l, -9223372036854775808 ≤ x ∧ x < 9223372036854775808
theorem Fit.get {l : List Int} (h : Fit l) (i : Nat) : -9223372036854775808 ≤ l.getD i 0 ∧ l.getD i 0 < 9223372036854775808 := by
  by_cases hi : i < l.length
  · have e : l.getD i 0 = l[i] := by simp [List.getD, hi]
    rw [e]
    exact h _ (List.getElem_mem hi)
  · have e : l.getD i 0 = 0 := by simp [List.getD, Nat.not_lt.1 hi]
    rw [e]
    decide

/-- The slice at 'A', of 'n' ints, holds the list l, in a block below B. -/
def IHolds (w : World) (B : Nat) (A : Option Addr) (n : Nat) (l : List Int) : Prop :=
  l.length = n ∧ Fit l ∧ (0 < n → ∃ b off, A = some ⟨b, off, none⟩ ∧ b < B ∧ ∀ i, i < n → w.cell? ⟨b, off + i, none⟩ = some (.int .i64 (l.getD i 0)))

section
variable {w w' : World} {B B' : Nat} {A : Option Addr} {n : Nat} {l : List Int}
theorem IHolds.nil_ (w : World) (B : Nat) : IHolds w B none 0 [] := ⟨rfl, by simp [Fit], fun h => by omega⟩
theorem IHolds.keep (h : IHolds w B A n l) (hk : ∀ p : Addr, p.block < B → w'.cell? p = w.cell? p) : IHolds w' B A n l :=
  ⟨h.1, h.2.1, fun hn => by
    obtain ⟨b, off, e, hb, hc⟩ := h.2.2 hn
    exact ⟨b, off, e, hb, fun i hi => (hk ⟨b, off + i, none⟩ hb).trans (hc i hi)⟩⟩
theorem IHolds.below (h : IHolds w B A n l) (hb : Below B w w') : IHolds w' B A n l := h.keep fun _ hp => hb.cell hp
theorem IHolds.more (h : IHolds w B A n l) (hB : B ≤ B') : IHolds w B' A n l :=
  ⟨h.1, h.2.1, fun hn => by
    obtain ⟨b, off, e, hb, hc⟩ := h.2.2 hn
    exact ⟨b, off, e, by omega, hc⟩⟩
theorem IHolds.drew (h : IHolds w B A n l) : IHolds w.drew B A n l := h
theorem IHolds.drewN (h : IHolds w B A n l) (k : Nat) : IHolds (w.drewN k) B A n l := h
/-- The cell of one of them, at an address that is there. -/
theorem IHolds.at_ (h : IHolds w B A n l) {i : Nat} (hi : i < n) : ∃ b off, A = some ⟨b, off, none⟩ ∧ b < B ∧ w.cell? ⟨b, off + i, none⟩ = some (.int .i64 (l.getD i 0)) := by
  obtain ⟨b, off, e, hb, hc⟩ := h.2.2 (by omega)
  exact ⟨b, off, e, hb, hc i hi⟩
/-- A row of the call's own is such a slice. -/
theorem IHolds.of_own {base e : Nat} {v : Value} (h : w.ownsRow base e 1 v n (ivs l)) (hs : Fit l) : ∃ A c, v = .slice A n c ∧ n ≤ c ∧ (A = none → c = 0) ∧ IHolds w w.heap.size A n l := by
  have hl : l.length = n := by have := h.1; rw [ivs_len] at this; omega
  rcases h.2 with ⟨rfl, rfl⟩ | ⟨g, cap, cur, rfl, _, hg, hnc, _, _, _⟩
  · exact ⟨none, 0, rfl, Nat.le_refl _, fun _ => rfl, hl, hs, fun h => by omega⟩
  · refine ⟨some ⟨g, 0, none⟩, cap, rfl, hnc, (fun h => by cases h), hl, hs, fun hn => ⟨g, 0, rfl, ?_, fun i hi => ?_⟩⟩
    · exact (Array.getElem?_eq_some_iff.1 hg).1
    · have := h.cellAt i (by omega)
      rw [Nat.zero_add, this, ivs_get (by omega)]
end

/-- What a call hands back that makes ints: a slice of the call's own, that holds l; nothing that was there has turned. -/
def NewInts (w : World) (l : List Int) (e : Ending) (w' : World) : Prop :=
  ∃ A n c, e = .returned (.slice A n c) ∧ w'.ownsRow w.heap.size 3 1 (.slice A n c) n (ivs l) ∧ IHolds w' w'.heap.size A n l ∧ n ≤ c ∧ Below w.heap.size w w'

theorem Tryz.infoI64 : (Tryz.prog.info? 3).map (fun i => (i.zero, i.size, i.bytes)) = some (some (.int .i64 0), 1, 8) := by kernel_rfl

section
variable {P : Program} (w : World)
/-- 'append(row, l...)', the row the call's own, l whatever slice of ints. -/
theorem run_append_ints (base : Nat) (t ty e : TypeId) (i : TypeInfo) (z : Value) (ht : P.underlying t = some (.slice e)) (hi : P.info? e = some i) (hz : i.zero = some z)
    (hsize : i.size = 1) (hby : i.bytes = 8) (hzs : z.cells.size = 1)
    (v : Value) (n : Nat) (xs : List Value) (hown : w.ownsRow base e 1 v n xs)
    (B : Nat) (A : Option Addr) (m c : Nat) (l : List Int) (hl : IHolds w B A m l) (hroom : n + m ≤ 8796093022208) (hbase : base ≤ w.heap.size) :
    ∃ v' w', (Builtin.append_ #[t, t] ty #[v, .slice A m c]).run P w = .ok v' w' ∧ w'.ownsRow base e 1 v' (n + m) (xs ++ ivs l) ∧ Went w v.ownBlock w' v'.ownBlock := by
  have hlen := hl.1
  rcases A with _ | ad
  · have hm : m = 0 := by
      rcases Nat.eq_zero_or_pos m with h | h
      · exact h
      · obtain ⟨_, _, h, _⟩ := hl.2.2 h
        cases h
    subst hm
    have : l = [] := List.eq_nil_of_length_eq_zero hlen
    subst this
    refine ⟨v, w, ?_, by simpa [ivs] using hown, Went.refl w _⟩
    rcases hown.2 with ⟨rfl, rfl⟩ | ⟨g, cap, cur, rfl, _, _, hnc, _⟩
    · simp [Builtin.append_, run_underlying ht, sizeOf, typeInfo, hi, Builtin.lenOf, Builtin.firstCells]
    · simp [Builtin.append_, run_underlying ht, sizeOf, typeInfo, hi, Builtin.lenOf, Builtin.firstCells, hnc, storeCells]
  · obtain ⟨v', w', h1, h2, h3, _, h5⟩ := run_append_own_at (P := P) w base t ty e i z 1 8 ht hi hz hsize hby hzs (by omega) v n xs hown ad m c (ivs l) (by rw [ivs_len, hlen, Nat.mul_one])
      (fun j u hu => by
        have hj : j < l.length := by
          have := (List.getElem?_eq_some_iff.1 hu).1
          rwa [ivs_len] at this
        obtain ⟨b, off, h, _, hc⟩ := hl.2.2 (by omega)
        obtain rfl := Option.some.inj h
        rw [ivs_get hj] at hu
        rw [Addr.add_lit, hc j (by omega)]
        exact hu) (ivs_cell _) (by simp only [maxLen]; omega) (by omega) hbase
    exact ⟨v', w', h1, h2, .of_at h3 h5⟩

theorem wpList_append_ints {ops : Array Oper} {rest : List Oper} {o : Oper} {a : Act} {Q : Exit → Act → World → Prop} (hgd : o.guard = none) (s x : Operand) (t : TypeId)
    (ho : o.op = .call { callee := .builtin .append, args := #[s, x], argTypes := #[t, t] })
    (base : Nat) (e : TypeId) (i : TypeInfo) (z : Value) (ht : P.underlying t = some (.slice e)) (hi : P.info? e = some i) (hz : i.zero = some z)
    (hsize : i.size = 1) (hby : i.bytes = 8) (hzs : z.cells.size = 1)
    (v : Value) (n : Nat) (xs : List Value) (hs : a.eval s = v) (hown : w.ownsRow base e 1 v n xs)
    (B : Nat) (A : Option Addr) (m c : Nat) (l : List Int) (hx : a.eval x = .slice A m c) (hl : IHolds w B A m l) (hroom : n + m ≤ 8796093022208) (hbase : base ≤ w.heap.size)
    (h : ∀ v' w', w'.ownsRow base e 1 v' (n + m) (xs ++ ivs l) → Went w v.ownBlock w' v'.ownBlock → wpList P ops Q rest (a.put o.dst v') w') : wpList P ops Q (o :: rest) a w := by
  refine wpList_plain hgd fun K hK => ?_
  obtain ⟨v', w', hr, h2, h3⟩ := run_append_ints (P := P) w base t o.type e i z ht hi hz hsize hby hzs v n xs hown B A m c l hl hroom hbase
  unfold Oper.wp execOp
  simp only [ho, resolve, invoke, builtin, Sem.run_bind, Sem.run_pure, Result.andThen_ok, List.map_toArray, List.map_cons, List.map_nil, hs, hx, hr]
  exact hK _ _ (h v' w' h2 h3)
end

/-- A row of ints of the call's own: where it lies, its cells, a cell that is written. -/
theorem iown_at {w : World} {base e n : Nat} {v : Value} {xs : List Value} (h : w.ownsRow base e 1 v n xs) (hn : 0 < n) : ∃ g c, v = .slice (some ⟨g, 0, none⟩) n c ∧ base ≤ g ∧ g < w.heap.size ∧ n ≤ c ∧ c ≤ maxLen := by
  rcases h.2 with ⟨_, h0⟩ | ⟨g, cap, cur, hv, hb, hg, hnc, hm, _⟩
  · omega
  · exact ⟨g, cap, hv, hb, lt_of_block hg, hnc, hm⟩
theorem iown_cell {w : World} {base e g n c : Nat} {l : List Int} (h : w.ownsRow base e 1 (.slice (some ⟨g, 0, none⟩) n c) n (ivs l)) {i : Nat} (hi : i < n) : w.cell? ⟨g, i, none⟩ = some (.int .i64 (l.getD i 0)) := by
  have hl : l.length = n := by have := h.1; rw [ivs_len] at this; omega
  have h1 := h.cellAt i (by omega)
  rw [h1, ivs_get (by omega)]
theorem iown_free {w : World} {base e g n c : Nat} {xs : List Value} (h : w.ownsRow base e 1 (.slice (some ⟨g, 0, none⟩) n c) n xs) (i : Nat) : w.frozen? ⟨g, i, none⟩ = false := by
  rcases h.2 with ⟨h0, _⟩ | ⟨g', cap, cur, hv, hb, hg, _⟩
  · cases h0
  · simp only [Value.slice.injEq, Option.some.injEq, Addr.mk.injEq, and_true, true_and] at hv
    obtain ⟨rfl, _⟩ := hv
    simp [World.frozen?, hg]
theorem iown_set {w : World} {base e g n c : Nat} {l : List Int} (h : w.ownsRow base e 1 (.slice (some ⟨g, 0, none⟩) n c) n (ivs l)) (i : Nat) (x : Int) :
    (w.setCell ⟨g, i, none⟩ (.int .i64 x)).ownsRow base e 1 (.slice (some ⟨g, 0, none⟩) n c) n (ivs (l.set i x)) ∧ w.grownBy (w.setCell ⟨g, i, none⟩ (.int .i64 x)) (some g) := by
  have h1 := h.stored i (.int .i64 x)
  rw [ivs_set]
  exact h1
theorem own_whole {w : World} {base e g n : Nat} {xs : List Value} (h : w.ownsRow base e 1 (.slice (some ⟨g, 0, none⟩) n n) n xs) : w.heap[g]? = some (.cells xs.toArray e (0, 0)) := by
  rcases h.2 with ⟨h0, _⟩ | ⟨g', cap, cur, hv, _, hg, _, _, hs, ht⟩
  · cases h0
  · simp only [Value.slice.injEq, Option.some.injEq, Addr.mk.injEq, and_true, true_and] at hv
    obtain ⟨rfl, rfl⟩ := hv
    rw [Nat.mul_one] at hs ht
    rw [List.take_of_length_le (by simp [hs])] at ht
    rw [hg, ← ht]
theorem own_of_whole {w : World} {base e g n : Nat} {xs : List Value} (h : w.heap[g]? = some (.cells xs.toArray e (0, 0))) (hl : xs.length = n) (hb : base ≤ g) (hn : n ≤ maxLen) : w.ownsRow base e 1 (.slice (some ⟨g, 0, none⟩) n n) n xs :=
  ⟨by omega, .inr ⟨g, n, xs.toArray, rfl, hb, h, Nat.le_refl _, hn, by simp [hl], by rw [Nat.mul_one]; simp [← hl]⟩⟩
theorem splice_all {cur cs : List Value} (h : cur.length = cs.length) : splice cur 0 cs = cs := by simp [splice, ← h]

/-- 'copy(row, l)', the row made of the same length. -/
theorem wpList_copy_ints {w : World} {ops : Array Oper} {rest : List Oper} {o : Oper} {a : Act} {Q : Exit → Act → World → Prop} (hgd : o.guard = none) (d s : Operand)
    (ho : o.op = .call { callee := .builtin .copy, args := #[d, s], argTypes := #[44, 44] })
    (base g n : Nat) (A : Option Addr) (cap B : Nat) (l : List Int) (xs : List Value) (hd : a.eval d = .slice (some ⟨g, 0, none⟩) n n) (hs : a.eval s = .slice A n cap)
    (hown : w.ownsRow base 3 1 (.slice (some ⟨g, 0, none⟩) n n) n xs) (hl : IHolds w B A n l) (hg : base ≤ g) (hn : n ≤ maxLen)
    (h : ∀ w', Hid (w'.ownsRow base 3 1 (.slice (some ⟨g, 0, none⟩) n n) n (ivs l)) → Hid (Below base w w') → wpList Tryz.prog ops Q rest (a.put o.dst (goInt n)) w') : wpList Tryz.prog ops Q (o :: rest) a w := by
  obtain ⟨i0, hi, hz0, hz1, hz2⟩ := info_parts Tryz.infoI64
  have hsz : (Tryz.prog.info? 3).map (·.size) = some 1 := by rw [hi, ← hz1]; rfl
  have hlen : (ivs l).length = n := by rw [ivs_len, hl.1]
  have hxs : xs.length = n := by have := hown.1; omega
  refine wpList_copy_splice hgd d s 44 44 ho 3 Tryz.underlying44 hsz (some ⟨g, 0, none⟩) A n n n cap hd hs g 0 xs 3 (own_whole hown) (ivs l) (by rw [hlen]; simp) (fun h0 => ?_) (by omega) (ivs_cell _) base w (Below.refl _ _) hg (fun w' h1 h2 => ?_)
  · rw [hlen] at h0
    obtain ⟨b, off, e1, _, hc⟩ := hl.2.2 h0
    refine ⟨rfl, _, e1, fun j u hu => ?_⟩
    have hj : j < l.length := by
      have := (List.getElem?_eq_some_iff.1 hu).1
      rwa [ivs_len] at this
    rw [ivs_get hj] at hu
    rw [Addr.add_lit, ← hu]
    exact hc j (by have := hl.1; omega)
  · rw [hlen]
    refine h w' ?_ h2
    have h3 := h1.out
    rw [splice_all (by omega)] at h3
    exact own_of_whole h3 hlen hg hn
end Go.Proofs.YtdkiopajilakcaaGreat
/- The walk over droverref01.Ints: are two lists of ints the same? -/
namespace Go.Proofs.YtdkiopajilakcaaGreat
open Go.RowKit

/-- Are they the same? -/
def eqI (l m : List Int) : Bool := decide (l = m)
theorem eqI_self (l : List Int) : eqI l l = true := by simp [eqI]
theorem eqI_len {l m : List Int} (h : l.length ≠ m.length) : false = eqI l m := by
  unfold eqI
  symm
  rw [decide_eq_false_iff_not]
  intro e
  exact h (congrArg List.length e)
theorem eqI_no {l m : List Int} {i : Nat} (h : l.getD i 0 ≠ m.getD i 0) : false = eqI l m := by
  unfold eqI
  symm
  rw [decide_eq_false_iff_not]
  intro e
  exact h (by rw [e])
def SameUp (l m : List Int) (k : Nat) : Prop := ∀ i, i < k → l.getD i 0 = m.getD i 0
theorem SameUp.zero (l m : List Int) : SameUp l m 0 := fun i hi => by omega
theorem SameUp.next {l m : List Int} {k : Nat} (h : SameUp l m k) (he : l.getD k 0 = m.getD k 0) : SameUp l m (k + 1) := fun i hi => by
  by_cases hk : i = k
  · rw [hk, he]
  · exact h i (by omega)
theorem SameUp.all {l m : List Int} {k : Nat} (h : SameUp l m k) (h1 : l.length = k) (h2 : m.length = k) : true = eqI l m := by
  unfold eqI
  symm
  rw [decide_eq_true_eq]
  apply List.ext_getElem (by omega)
  intro i hi1 hi2
  have := h i (by omega)
  simpa [List.getD, hi1, hi2] using this

set_option maxHeartbeats 400000 in
theorem refints_any (A A2 : Option Addr) (n c m c2 B B2 : Nat) (l l2 : List Int) (w : World) (hl : IHolds w B A n l) (hl2 : IHolds w B2 A2 m l2) (hn : n ≤ 1099511627000) (hm : m ≤ 1099511627000) :
    Calls Tryz.prog 27 #[.slice A n c, .slice A2 m c2] w fun e w' => e = .returned (.bool (eqI l l2)) ∧ ∃ q, w' = w.drewN q := by
  have H1 := hide hl
  have H2 := hide hl2
  clear hl hl2
  by_cases hnm : n = m
  · subst hnm
    have ht : ((n : Int) != (n : Int)) = false := by simp
    go_enter Tryz.func27, Tryz.ntmps27
    go_wp2
    go_loopw [13] (fun i wr => ∃ k : Nat, k ≤ n ∧ i = .int .i64 (k : Int) ∧ SameUp l l2 k ∧ ∃ q, wr = w.drewN q) (fun i _ => n - (Go.RowKit.intOf i).toNat)
    case atStart => exact ⟨0, by omega, rfl, SameUp.zero _ _, 0, rfl⟩
    case round =>
      obtain ⟨k, hk, rfl, hup, q, rfl⟩ := hrel
      have HU := hide hup
      clear hup
      by_cases hkn : k < n
      · obtain ⟨b, off, rfl, _, hc⟩ := H1.out.at_ hkn
        obtain ⟨b2, off2, rfl, _, hc2⟩ := H2.out.at_ hkn
        obtain ⟨x, hx⟩ : ∃ x, x = l.getD k 0 := ⟨_, rfl⟩
        obtain ⟨y, hy⟩ : ∃ y, y = l2.getD k 0 := ⟨_, rfl⟩
        rw [← hx] at hc
        rw [← hy] at hc2
        have HX := hide hx
        have HY := hide hy
        clear hx hy
        by_cases he : x = y
        · subst he
          have ht2 : (x != x) = false := by simp
          go_wp2
          go_quiet (fail)
          go_wp2
          go_roundw
          case rel => exact ⟨k + 1, by omega, by go_num, HU.out.next (by rw [← HX.out, ← HY.out]), _, rfl⟩
          case measure => simp [Go.RowKit.intOf]; omega
        · have ht2 : (x != y) = true := by simpa using he
          have HE : Hid (l.getD k 0 ≠ l2.getD k 0) := by rw [← HX.out, ← HY.out]; exact he
          clear he
          go_wp2
          go_quiet (fail)
          go_wp2
          go_ret
          exact ⟨ret_bool (eqI_no HE.out), _, World.drewN_drewN _ _ _⟩
      · go_wp2
        go_ret
        exact ⟨ret_bool (HU.out.all (by have := H1.out.1; omega) (by have := H2.out.1; omega)), _, rfl⟩
  · have ht : ((n : Int) != (m : Int)) = true := by simp; omega
    go_enter Tryz.func27, Tryz.ntmps27
    go_wp2
    go_ret
    exact ⟨ret_bool (eqI_len (by rw [H1.out.1, H2.out.1]; exact hnm)), 0, rfl⟩
end Go.Proofs.YtdkiopajilakcaaGreat
/- Ids and Copy of package book: the library's Sorted at what its Keys hands back; the library's Clone. -/
namespace Go.Proofs.YtdkiopajilakcaaGreat
open Go.RowKit Go.Maps Go.Sort Go.Shelf

/-- The numbers of the sagas. -/
def idsOf (L : List Ent) : List Int := L.map (·.id)
theorem idsOf_len (L : List Ent) : (idsOf L).length = L.length := by simp [idsOf]
theorem keys_mapE (f : Int → Loc) (L : List Ent) : intKeys (mapD (L.map (pairE f))) = idsOf L := by
  simp [mapD, intKeys, idsOf, pairE, Function.comp_def]
  intro a _
  rfl
theorem sort_perm {l m : List Int} (hp : l.Perm m) (hm : m.Pairwise (· < ·)) : l.mergeSort (fun x y => decide (x ≤ y)) = m := by
  have tr : ∀ a b c : Int, decide (a ≤ b) = true → decide (b ≤ c) = true → decide (a ≤ c) = true := fun a b c h1 h2 => by simp only [decide_eq_true_eq] at *; omega
  have to : ∀ a b : Int, (decide (a ≤ b) || decide (b ≤ a)) = true := fun a b => by simp only [Bool.or_eq_true, decide_eq_true_eq]; omega
  refine List.Perm.eq_of_pairwise (le := fun a b => decide (a ≤ b) = true) (fun a b _ _ h1 h2 => ?_) (List.pairwise_mergeSort tr to l) (hm.imp fun {a b} h => by simp only [decide_eq_true_eq]; omega) ((List.mergeSort_perm l _).trans hp)
  simp only [decide_eq_true_eq] at h1 h2
  omega
theorem BkOk.fit {t : BkS} (h : BkOk t) : Fit (idsOf t.L) := by
  intro x hx
  obtain ⟨y, hy, rfl⟩ := List.mem_map.1 hx
  have h1 := h.2.1 y hy
  have h2 := h1.1.2.2.2
  have h3 := h1.2
  exact ⟨by omega, by omega⟩
/-- A slice of no ints. -/
theorem newInts_nil {w w' : World} (hb : Below w.heap.size w w') : NewInts w [] (.returned (.slice none 0 0)) w' :=
  ⟨none, 0, 0, rfl, World.ownsRow_nil _ _ _ _, IHolds.nil_ _ _, Nat.le_refl _, hb⟩

/-- The library's Sort at this program. -/
theorem Tryz.sorts (m : Nat) : AnyZI.SortsIn Tryz.prog Tryz.sortedA_ren Fence.wide m :=
  ⟨fun blk off cap ss W hH hblk hsz => callsIn_wide.2 (AnyM.slices_Sort_int Tryz.sortA blk off cap ss W hH hblk hsz),
   fun p cap W => callsIn_wide.2 (AnyM.slices_Sort_int_none Tryz.sortA p cap W)⟩

/-- What Keys hands back: a function over one new block that holds the map. -/
theorem keys_any (mb : Option Nat) (W : World) : Calls Tryz.prog 87 #[.map mb] W fun e w' => e = .returned (.func (.func 111) #[] #[.pointer (some ⟨W.heap.size, 0, none⟩)]) ∧ w' = W.alloc (.cells #[.map mb] 88) :=
  callsIn_wide.1 (AnyZI.keys_in Tryz.keysA Fence.wide 5 trivial rfl mb W)

/-- Sorted at what Keys hands back for a map: its keys, rising. -/
theorem sorted_any (f : Int → Loc) (b nn : Nat) (L : List Ent) (w : World) (hown : w.ownsMap Tryz.prog 3 heldR b nn (mapD (L.map (pairE f)))) (hr : (idsOf L).Pairwise (· < ·)) (hf : Fit (idsOf L)) (hlen : L.length ≤ 1000000) :
    Calls Tryz.prog 57 #[.func (.func 111) #[] #[.pointer (some ⟨w.heap.size, 0, none⟩)]] (w.alloc (.cells #[.map (some b)] 88)) (NewInts w (idsOf L)) := by
  have hbl := hown.lt
  have hsz : Maps.size (mapD (L.map (pairE f))) = L.length := by rw [size_mapD, List.length_map]
  have hseq : SeqGives Fence.wide 2 Tryz.prog 111 #[.pointer (some ⟨w.heap.size, 0, none⟩)] encZ (fun ss => ss.Perm (intKeys (mapD (L.map (pairE f))))) (Maps.size (mapD (L.map (pairE f)))) (w.alloc (.cells #[.map (some b)] 88)) :=
    AnyZI.keys_gives (ρ := Tryz.keysA_ren) { Tryz.keysA with } Fence.wide _ trivial rfl (by omega) w.heap.size b nn (mapD (L.map (pairE f))) _ (by simp) (by simp) (by
      obtain ⟨es, clock, hb, Ft, hs, hD⟩ := hown
      exact ⟨es, clock, (Below.heap_alloc _ _ b hbl).trans hb, Ft, hs, hD⟩)
  have cS := AnyZI.sorted_in Tryz.sortedA Fence.wide 5 trivial trivial trivial trivial rfl (by omega) (Tryz.sorts _) (enters_of Tryz.func89 (by kernel_rfl) rfl) 111 #[.pointer (some ⟨w.heap.size, 0, none⟩)] trivial (enters_of Tryz.func111 (by kernel_rfl) rfl) _ _ (by rw [hsz]; unfold maxLen; omega) (by rw [hsz]; omega) _ hseq
  change CallsIn _ _ Tryz.prog 57 _ _ _ at cS
  refine (callsIn_wide.1 cS).mono ?_
  rintro e w' ⟨v, ss, rfl, hS, hrow, hnil, hb⟩
  rw [keys_mapE] at hS
  rw [sort_perm hS hr] at hrow
  have hl : ss.length = (idsOf L).length := hS.length_eq
  rw [hl] at hrow
  have hrow' : w'.ownsRow w.heap.size 3 1 v (idsOf L).length (ivs (idsOf L)) := ownsRow_base_a hrow (by simp)
  obtain ⟨A, c, rfl, h1, _, h2⟩ := IHolds.of_own hrow' hf
  exact ⟨A, _, c, rfl, hrow', h2, h1, ((Below.refl _ w).alloc (Nat.le_refl _) _).trans (hb.mono (by simp))⟩
section
variable {F : Nat → Prop} {w : World} {g b k : Nat} {most : Int} {t : BkS}
set_option maxHeartbeats 1000000 in
theorem ids_any (h : BookAt F w g b k most t) (hl : t.L.length ≤ 1000000) : Calls Tryz.prog 51 #[.pointer (some ⟨g, 0, none⟩)] w (NewInts w (idsOf t.L)) := by
  have C := hide (made_yes h)
  have CK := hide (fun W => keys_any (some b) W)
  obtain ⟨f, hm, _⟩ := h.body
  have CS := hide (sorted_any f b k t.L w hm (List.pairwise_map.2 h.ok.1) h.ok.fit hl)
  have c2 := h.c2
  obtain ⟨l, hl2⟩ : ∃ l, idsOf t.L = l := ⟨_, rfl⟩
  rw [hl2] at CS ⊢
  clear h hm hl hl2
  go_enter Tryz.func51, Tryz.ntmps51
  go_wp2_with (fail)
  refine C.out.mono ?_
  rintro e w1 ⟨rfl, rfl⟩
  go_wp2_with (fail)
  refine (CK.out _).mono ?_
  rintro e w1 ⟨rfl, rfl⟩
  go_wp2_with (fail)
  refine CS.out.mono ?_
  rintro e w2 ⟨A, n, c, rfl, h1, h2, h3, h4⟩
  have H : Hid (NewInts w l (.returned (.slice A n c)) w2) := ⟨A, n, c, rfl, h1, h2, h3, h4⟩
  clear h1 h2 h3 h4
  go_wp2
  go_ret
  exact H.out
/-- Another book, alike: the sagas' steps are those of the first one. -/
def Copied (F : Nat → Prop) (k : Nat) (most : Int) (t : BkS) (w : World) (e : Ending) (w' : World) : Prop :=
  ∃ g b, e = .returned (.pointer (some ⟨g, 0, none⟩)) ∧ w.heap.size ≤ g ∧ w.heap.size ≤ b ∧ Later w w' ∧ ∀ G : Nat → Prop, (∀ i, i < w.heap.size → F i → G i) → ¬ G g → ¬ G b → BookAt G w' g b k most t
end
end Go.Proofs.YtdkiopajilakcaaGreat
/- A box of package outbox in memory; made, View, New, Open. -/
namespace Go.Proofs.YtdkiopajilakcaaGreat
open Go.RowKit Go.Maps Go.Sort Go.Shelf

def BoxOk (a : Nat) (B : List PlD) : Prop := RiseP B ∧ (∀ p ∈ B, 1 ≤ p.c.saga ∧ p.c.saga ≤ 4611686018427387904 ∧ 0 ≤ p.age ∧ p.age ≤ (a : Int)) ∧ B.length ≤ 1000000
/-- The blocks g and b hold a box. -/
structure BoxAt (w : World) (g b k : Nat) (v : Int) (a : Nat) (B : List PlD) : Prop where
  cell : w.heap[g]? = some (.cells #[.int .i64 v, .map (some b)] 84 (0, 0))
  body : w.ownsMap Tryz.prog 3 heldR b k (mapD (B.map pairP))
  ok : BoxOk a B
  apart : g ≠ b
section
variable {w w' : World} {g b k a : Nat} {v : Int} {B : List PlD}
theorem BoxAt.lt (h : BoxAt w g b k v a B) : g < w.heap.size ∧ b < w.heap.size := ⟨lt_of_block h.cell, h.body.lt⟩
theorem BoxAt.kept (h : BoxAt w g b k v a B) (hk : Kept (fun i => i = g ∨ i = b) w w') : BoxAt w' g b k v a B := by
  obtain ⟨es, clock, hb, rest⟩ := h.body
  exact ⟨(hk.2 g (lt_of_block h.cell) (.inl rfl)).trans h.cell, ⟨es, clock, (hk.2 b (lt_of_block hb) (.inr rfl)).trans hb, rest⟩, h.ok, h.apart⟩
theorem BoxAt.later (h : BoxAt w g b k v a B) (hl : Later w w') : BoxAt w' g b k v a B := h.kept (Kept.of_below hl _)
theorem BoxAt.turned {Q : Nat → Prop} (h : BoxAt w g b k v a B) (ht : Turned Q w w') (h1 : ¬ Q g) (h2 : ¬ Q b) : BoxAt w' g b k v a B := h.kept (ht.kept fun i hi => hi.elim (fun e => e ▸ h1) (fun e => e ▸ h2))
theorem BoxAt.more {a' k' : Nat} (h : BoxAt w g b k v a B) (ha : a ≤ a') (hk : k ≤ k') : BoxAt w g b k' v a' B := by
  obtain ⟨es, clock, hb, Ft, hs, hD⟩ := h.body
  exact ⟨h.cell, ⟨es, clock, hb, Ft, by omega, hD⟩, ⟨h.ok.1, fun p hp => by obtain ⟨h1, h2, h3, h4⟩ := h.ok.2.1 p hp; exact ⟨h1, h2, h3, by omega⟩, h.ok.2.2⟩, h.apart⟩
theorem BoxAt.c0 (h : BoxAt w g b k v a B) : w.cell? ⟨g, 0, none⟩ = some (.int .i64 v) := cell_of_row w g 0 _ _ _ h.cell
theorem BoxAt.c1 (h : BoxAt w g b k v a B) : w.cell? ⟨g, 1, none⟩ = some (.map (some b)) := cell_of_row w g 1 _ _ _ h.cell
theorem BoxAt.thaw (h : BoxAt w g b k v a B) (i : Nat) : w.frozen? ⟨g, i, none⟩ = false := frozen_of_row w g i _ _ h.cell
theorem BoxAt.fit (h : BoxAt w g b k v a B) : Fit (sagasP B) := by
  intro x hx
  obtain ⟨y, hy, rfl⟩ := List.mem_map.1 hx
  obtain ⟨h1, h2, _⟩ := h.ok.2.1 y hy
  exact ⟨by omega, by omega⟩
end
theorem keys_mapP (B : List PlD) : intKeys (mapD (B.map pairP)) = sagasP B := by
  simp [mapD, intKeys, sagasP, pairP, Function.comp_def]
  intro a _
  rfl
/-- What Keys hands back: a function over one new block that holds the map. -/
theorem pkeys_any (mb : Option Nat) (W : World) : Calls Tryz.prog 58 #[.map mb] W fun e w' => e = .returned (.func (.func 90) #[] #[.pointer (some ⟨W.heap.size, 0, none⟩)]) ∧ w' = W.alloc (.cells #[.map mb] 82) :=
  callsIn_wide.1 (AnyZI.keys_in Tryz.keysO Fence.wide 5 trivial rfl mb W)
/-- Sorted at what Keys hands back for a map: its keys, rising. -/
theorem psorted_any (b nn : Nat) (B : List PlD) (w : World) (hown : w.ownsMap Tryz.prog 3 heldR b nn (mapD (B.map pairP))) (hr : (sagasP B).Pairwise (· < ·)) (hf : Fit (sagasP B)) (hlen : B.length ≤ 1000000) :
    Calls Tryz.prog 57 #[.func (.func 90) #[] #[.pointer (some ⟨w.heap.size, 0, none⟩)]] (w.alloc (.cells #[.map (some b)] 82)) (NewInts w (sagasP B)) := by
  have hbl := hown.lt
  have hsz : Maps.size (mapD (B.map pairP)) = B.length := by rw [size_mapD, List.length_map]
  have hseq : SeqGives Fence.wide 2 Tryz.prog 90 #[.pointer (some ⟨w.heap.size, 0, none⟩)] encZ (fun ss => ss.Perm (intKeys (mapD (B.map pairP)))) (Maps.size (mapD (B.map pairP))) (w.alloc (.cells #[.map (some b)] 82)) :=
    AnyZI.keys_gives (ρ := Tryz.keysO_ren) { Tryz.keysO with } Fence.wide _ trivial rfl (by omega) w.heap.size b nn (mapD (B.map pairP)) _ (by simp) (by simp) (by
      obtain ⟨es, clock, hb, Ft, hs, hD⟩ := hown
      exact ⟨es, clock, (Below.heap_alloc _ _ b hbl).trans hb, Ft, hs, hD⟩)
  have cS := AnyZI.sorted_in Tryz.sortedA Fence.wide 5 trivial trivial trivial trivial rfl (by omega) (Tryz.sorts _) (enters_of Tryz.func89 (by kernel_rfl) rfl) 90 #[.pointer (some ⟨w.heap.size, 0, none⟩)] trivial (enters_of Tryz.func90 (by kernel_rfl) rfl) _ _ (by rw [hsz]; unfold maxLen; omega) (by rw [hsz]; omega) _ hseq
  change CallsIn _ _ Tryz.prog 57 _ _ _ at cS
  refine (callsIn_wide.1 cS).mono ?_
  rintro e w' ⟨v, ss, rfl, hS, hrow, hnil, hb⟩
  rw [keys_mapP] at hS
  rw [sort_perm hS hr] at hrow
  have hl : ss.length = (sagasP B).length := hS.length_eq
  rw [hl] at hrow
  have hrow' : w'.ownsRow w.heap.size 3 1 v (sagasP B).length (ivs (sagasP B)) := ownsRow_base_a hrow (by simp)
  obtain ⟨A, c, rfl, h1, _, h2⟩ := IHolds.of_own hrow' hf
  exact ⟨A, _, c, rfl, hrow', h2, h1, ((Below.refl _ w).alloc (Nat.le_refl _) _).trans (hb.mono (by simp))⟩
section
variable {w : World} {g b k a : Nat} {v : Int} {B : List PlD}
set_option maxHeartbeats 400000 in
theorem omade_yes (h : BoxAt w g b k v a B) : Calls Tryz.prog 50 #[.pointer (some ⟨g, 0, none⟩)] w fun e w' => e = .returned (.bool true) ∧ w = w' := by
  have hq := fun w r => run_neq_map_nil (P := Tryz.prog) w 82 _ _ r Tryz.underlying82
  have c1 := h.c1
  clear h
  go_enter Tryz.func50, Tryz.ntmps50
  go_wp2
  go_ret
  exact ⟨rfl, rfl⟩
set_option maxHeartbeats 400000 in
theorem oview_any (h : BoxAt w g b k v a B) : Calls Tryz.prog 26 #[.pointer (some ⟨g, 0, none⟩)] w fun e w' => e = .returned (.int .i64 v) ∧ w = w' := by
  have C := hide (omade_yes h)
  have c0 := h.c0
  clear h
  go_enter Tryz.func26, Tryz.ntmps26
  go_wp2_with (fail)
  refine C.out.mono ?_
  rintro e w1 ⟨rfl, rfl⟩
  go_wp2
  go_ret
  exact ⟨rfl, rfl⟩
set_option maxHeartbeats 1000000 in
theorem oopen_any (h : BoxAt w g b k v a B) : Calls Tryz.prog 28 #[.pointer (some ⟨g, 0, none⟩)] w (NewInts w (sagasP B)) := by
  have C := hide (omade_yes h)
  have CK := hide (fun W => pkeys_any (some b) W)
  have CS := hide (psorted_any b k B w h.body (List.pairwise_map.2 h.ok.1) h.fit h.ok.2.2)
  have c1 := h.c1
  obtain ⟨l, hl2⟩ : ∃ l, sagasP B = l := ⟨_, rfl⟩
  rw [hl2] at CS ⊢
  clear h hl2
  go_enter Tryz.func28, Tryz.ntmps28
  go_wp2_with (fail)
  refine C.out.mono ?_
  rintro e w1 ⟨rfl, rfl⟩
  go_wp2_with (fail)
  refine (CK.out _).mono ?_
  rintro e w1 ⟨rfl, rfl⟩
  go_wp2_with (fail)
  refine CS.out.mono ?_
  rintro e w2 ⟨A, n, c, rfl, h1, h2, h3, h4⟩
  have H : Hid (NewInts w l (.returned (.slice A n c)) w2) := ⟨A, n, c, rfl, h1, h2, h3, h4⟩
  clear h1 h2 h3 h4
  go_wp2
  go_ret
  exact H.out
end
/-- What New hands back of a view that there is. -/
def NewBox (w : World) (v : Int) (e : Ending) (w' : World) : Prop :=
  ∃ g b, e = .returned (.pointer (some ⟨g, 0, none⟩)) ∧ w.heap.size ≤ g ∧ w.heap.size ≤ b ∧ Later w w' ∧ BoxAt w' g b 0 v 0 []
set_option maxHeartbeats 400000 in
theorem onew_no (v : Int) (w : World) (h : v < 0) : Calls Tryz.prog 10 #[.int .i64 v] w fun e w' => e = .returned (.pointer none) ∧ w = w' := by
  go_enter Tryz.func10, Tryz.ntmps10
  go_wp2
  go_ret
  exact ⟨rfl, rfl⟩
set_option maxHeartbeats 400000 in
theorem onew_yes (v : Int) (w : World) (h0 : 0 ≤ v) : Calls Tryz.prog 10 #[.int .i64 v] w (NewBox w v) := by
  have hmm := @run_makeMap Tryz.prog
  go_enter Tryz.func10, Tryz.ntmps10
  go_wp2
  go_ret
  refine ⟨w.heap.size + 1, w.heap.size, rfl, by omega, by omega, ((Below.refl _ _).alloc (Nat.le_refl _) _).alloc (by simp) _, heap_alloc2_new w _ _, ?_, ⟨.nil, by simp, by simp⟩, by omega⟩
  exact (World.ownsMap_made w Tryz.prog 3 heldR).alloc _
/-- What no call made: nil, or a block of zero values. -/
def NoBox (w : World) (p : Option Addr) : Prop := p = none ∨ ∃ g, p = some ⟨g, 0, none⟩ ∧ w.heap[g]? = some (.cells #[.int .i64 0, .map none] 84 (0, 0))
section
variable {w : World} {p : Option Addr}
theorem NoBox.later {w' : World} (h : NoBox w p) (hl : Later w w') : NoBox w' p := h.imp id fun ⟨g, e, hb⟩ => ⟨g, e, (Below.block hl g (lt_of_block hb)).trans hb⟩
set_option maxHeartbeats 400000 in
theorem omade_no (h : NoBox w p) : Calls Tryz.prog 50 #[.pointer p] w fun e w' => e = .returned (.bool false) ∧ w = w' := by
  rcases h with rfl | ⟨g, rfl, hb⟩
  · go_enter Tryz.func50, Tryz.ntmps50
    go_wp2
    go_ret
    exact ⟨rfl, rfl⟩
  · have hq := fun w r => run_neq_map_nil (P := Tryz.prog) w 82 _ _ r Tryz.underlying82
    have c1 : w.cell? ⟨g, 1, none⟩ = some (.map none) := cell_of_row w g 1 _ _ _ hb
    clear hb
    go_enter Tryz.func50, Tryz.ntmps50
    go_wp2
    go_ret
    exact ⟨rfl, rfl⟩
end
end Go.Proofs.YtdkiopajilakcaaGreat
/- May there be such a saga? What does it want? -/
namespace Go.Proofs.YtdkiopajilakcaaGreat
open Go.RowKit
theorem tries_pos {l : List StepD} {k : Int} (h : 0 < triesN l k) : 1 ≤ k ∧ k ≤ (l.length : Int) := by
  by_cases hk : k < 1 ∨ (l.length : Int) < k
  · rw [triesN_no hk] at h; omega
  · omega
theorem steps_n {F : Nat → Prop} {w : World} {s : SagaD} {l : List StepD} (h : StepsAt F w s.v l) : s.n = l.length := by
  obtain ⟨A, c, hv, _, _, _⟩ := FlatAt.shape h
  unfold SagaD.v at hv
  injection hv
section
variable {w : World}
set_option maxHeartbeats 8000000 in
theorem good_err {F : Nat → Prop} {s : SagaD} {l : List StepD} (h : StepsAt F w s.v l) (hw : ∀ x ∈ l, x.wf) (h1 : I64 s.step) (he : (checkF s.name l).2 ≠ 0) : Calls Tryz.prog 61 #[s.val] w (Gives (.bool false) w) := by
  obtain ⟨W1, hW1⟩ : ∃ W1, W1 = (w.alloc (.cells s.cells.toArray 72 (0, 0))) := ⟨_, rfl⟩
  obtain ⟨g, hg⟩ : ∃ g, g = w.heap.size := ⟨_, rfl⟩
  have X1 : Hid (SBox 72 g s W1) := by rw [hW1, hg]; exact heap_alloc_new _ _
  have L1 : Hid (Later w W1) := by rw [hW1]; exact (Below.refl _ _).alloc (Nat.le_refl _) _
  have HG0 : Hid (w.heap.size ≤ g) := Nat.le_of_eq hg.symm
  have CC : Hid (Calls Tryz.prog 92 #[.agg #[.string s.name, .slice s.p s.n s.c]] W1 fun e w' => e = .returned (.tuple #[.int .i64 (((checkF s.name l).1 : Nat) : Int), .int .i64 (((checkF s.name l).2 : Nat) : Int)]) ∧ Later W1 w') := check_any (StepsAt.kept h (Kept.of_below L1.out _))
  have C : Hid (∀ W, Later W1 W → Calls Tryz.prog 93 #[.agg #[.string s.name, .slice s.p s.n s.c], .int .i64 s.step] W fun e w' => e = .returned (.int .i64 (triesN l s.step)) ∧ Later W w') := fun W hW => Tries_any (StepsAt.kept h (Kept.of_below (L1.out.trans hW) _)) h1 hw
  have HS : Hid (∀ W, Later W1 W → StepsAt F W s.v l) := fun W hW => StepsAt.kept h (Kept.of_below (L1.out.trans hW) _)
  obtain ⟨k1, hk1⟩ : ∃ k1, (checkF s.name l).1 = k1 := ⟨_, rfl⟩
  obtain ⟨k2, hk2⟩ : ∃ k2, (checkF s.name l).2 = k2 := ⟨_, rfl⟩
  rw [hk1, hk2] at CC
  have HN := hide (steps_n h)
  have HW1 := hide hW1.symm
  have HG := hide hg.symm
  clear hW1 hg h hk1 h1 hw
  have e0 := X1.out.c0
  have e1 := X1.out.c1
  rw [← HW1.out, ← HG.out] at e0 e1
  have hb : ((k2 : Int) == 0) = false := by rw [beq_eq_false_iff_ne]; omega
  clear he hk2 C HS HN
  go_enter Tryz.func61, Tryz.ntmps61
  go_wp2_with (fail)
  simp only [HW1.out, HG.out]
  refine CC.out.mono ?_
  rintro e w2 ⟨rfl, hl⟩
  have L12 := hide hl
  have L2 := hide (L1.out.trans hl)
  have X2 := hide (X1.out.below hl)
  clear hl CC e0 e1
  go_wp2
  go_ret
  exact ⟨rfl, L2.out⟩
set_option maxHeartbeats 8000000 in
theorem good_run {F : Nat → Prop} {s : SagaD} {l : List StepD} (h : StepsAt F w s.v l) (hw : ∀ x ∈ l, x.wf) (h1 : I64 s.step) (he : (checkF s.name l).2 = 0) (hst : s.st = 1) : Calls Tryz.prog 61 #[s.val] w (Gives (.bool (decide (1 ≤ s.tr) && (decide (s.tr ≤ triesN l s.step) && cameF s))) w) := by
  obtain ⟨W1, hW1⟩ : ∃ W1, W1 = (w.alloc (.cells s.cells.toArray 72 (0, 0))) := ⟨_, rfl⟩
  obtain ⟨g, hg⟩ : ∃ g, g = w.heap.size := ⟨_, rfl⟩
  have X1 : Hid (SBox 72 g s W1) := by rw [hW1, hg]; exact heap_alloc_new _ _
  have L1 : Hid (Later w W1) := by rw [hW1]; exact (Below.refl _ _).alloc (Nat.le_refl _) _
  have HG0 : Hid (w.heap.size ≤ g) := Nat.le_of_eq hg.symm
  have CC : Hid (Calls Tryz.prog 92 #[.agg #[.string s.name, .slice s.p s.n s.c]] W1 fun e w' => e = .returned (.tuple #[.int .i64 (((checkF s.name l).1 : Nat) : Int), .int .i64 (((checkF s.name l).2 : Nat) : Int)]) ∧ Later W1 w') := check_any (StepsAt.kept h (Kept.of_below L1.out _))
  have C : Hid (∀ W, Later W1 W → Calls Tryz.prog 93 #[.agg #[.string s.name, .slice s.p s.n s.c], .int .i64 s.step] W fun e w' => e = .returned (.int .i64 (triesN l s.step)) ∧ Later W w') := fun W hW => Tries_any (StepsAt.kept h (Kept.of_below (L1.out.trans hW) _)) h1 hw
  have HS : Hid (∀ W, Later W1 W → StepsAt F W s.v l) := fun W hW => StepsAt.kept h (Kept.of_below (L1.out.trans hW) _)
  obtain ⟨k1, hk1⟩ : ∃ k1, (checkF s.name l).1 = k1 := ⟨_, rfl⟩
  obtain ⟨k2, hk2⟩ : ∃ k2, (checkF s.name l).2 = k2 := ⟨_, rfl⟩
  rw [hk1, hk2] at CC
  have HN := hide (steps_n h)
  have HW1 := hide hW1.symm
  have HG := hide hg.symm
  clear hW1 hg h hk1 h1 hw
  have e0 := X1.out.c0
  have e1 := X1.out.c1
  rw [← HW1.out, ← HG.out] at e0 e1
  obtain ⟨T, hT⟩ : ∃ T, triesN l s.step = T := ⟨_, rfl⟩
  rw [hT] at C
  obtain rfl : k2 = 0 := by rw [← hk2]; exact he
  obtain ⟨R, hR⟩ : ∃ R, (decide (1 ≤ s.tr) && (decide (s.tr ≤ triesN l s.step) && cameF s)) = R := ⟨_, rfl⟩
  rw [hR]
  have HR : Hid (R = (decide (1 ≤ s.tr) && (decide (s.tr ≤ T) && cameF s))) := by show _ = _; rw [← hR, hT]
  have h8 := (check_good he).1
  have HT : Hid (1 ≤ s.tr → s.tr ≤ T → ∀ W, Calls Tryz.prog 94 #[s.val] W (Gives (.bool (cameF s)) W)) := fun g1 g2 W => by
    have := tries_pos (l := l) (k := s.step) (by omega)
    exact came_any this.1 (by omega)
  clear hR hT h8
  clear he hk2
  go_enter Tryz.func61, Tryz.ntmps61
  go_wp2_with (fail)
  simp only [HW1.out, HG.out]
  refine CC.out.mono ?_
  rintro e w2 ⟨rfl, hl⟩
  have L12 := hide hl
  have L2 := hide (L1.out.trans hl)
  have X2 := hide (X1.out.below hl)
  clear hl CC e0 e1
  have d0 := X2.out.c0
  have d1 := X2.out.c1
  have d3 := X2.out.c3
  go_wp2_with (fail)
  refine (C.out _ L12.out).mono ?_
  rintro e w3 ⟨rfl, hl⟩
  have L13 := hide (L12.out.trans hl)
  have L3 := hide (L2.out.trans hl)
  have X3 := hide (X2.out.below hl)
  clear hl C d0 d1 d3
  have c2 := X3.out.c2
  rw [hst] at c2
  clear hst
  have c4 := X3.out.c4
  by_cases g1 : 1 ≤ s.tr
  · by_cases g2 : s.tr ≤ T
    · obtain rfl : R = cameF s := by rw [HR.out]; simp [g1, g2]
      have CM := hide (HT.out g1 g2)
      go_wp2_with (refine wpList_val rfl (by rfl) (exec_load_saga _ (by rfl) (by rfl) X3.out) ?_)
      refine (CM.out _).mono ?_
      rintro e w4 ⟨rfl, hl⟩
      have L4 := hide (L3.out.trans hl)
      clear hl
      go_wp2
      go_ret
      exact ⟨rfl, L4.out⟩
    · obtain rfl : R = false := by rw [HR.out]; simp [g2]
      go_wp2
      go_ret
      exact ⟨rfl, L3.out⟩
  · obtain rfl : R = false := by rw [HR.out]; simp [g1]
    go_wp2
    go_ret
    exact ⟨rfl, L3.out⟩
set_option maxHeartbeats 8000000 in
theorem good_stuck {F : Nat → Prop} {s : SagaD} {l : List StepD} (h : StepsAt F w s.v l) (hw : ∀ x ∈ l, x.wf) (h1 : I64 s.step) (he : (checkF s.name l).2 = 0) (hst : s.st = 5) : Calls Tryz.prog 61 #[s.val] w (Gives (.bool (decide (s.tr = 0) && (decide (0 < triesN l s.step) && cameF s))) w) := by
  obtain ⟨W1, hW1⟩ : ∃ W1, W1 = (w.alloc (.cells s.cells.toArray 72 (0, 0))) := ⟨_, rfl⟩
  obtain ⟨g, hg⟩ : ∃ g, g = w.heap.size := ⟨_, rfl⟩
  have X1 : Hid (SBox 72 g s W1) := by rw [hW1, hg]; exact heap_alloc_new _ _
  have L1 : Hid (Later w W1) := by rw [hW1]; exact (Below.refl _ _).alloc (Nat.le_refl _) _
  have HG0 : Hid (w.heap.size ≤ g) := Nat.le_of_eq hg.symm
  have CC : Hid (Calls Tryz.prog 92 #[.agg #[.string s.name, .slice s.p s.n s.c]] W1 fun e w' => e = .returned (.tuple #[.int .i64 (((checkF s.name l).1 : Nat) : Int), .int .i64 (((checkF s.name l).2 : Nat) : Int)]) ∧ Later W1 w') := check_any (StepsAt.kept h (Kept.of_below L1.out _))
  have C : Hid (∀ W, Later W1 W → Calls Tryz.prog 93 #[.agg #[.string s.name, .slice s.p s.n s.c], .int .i64 s.step] W fun e w' => e = .returned (.int .i64 (triesN l s.step)) ∧ Later W w') := fun W hW => Tries_any (StepsAt.kept h (Kept.of_below (L1.out.trans hW) _)) h1 hw
  have HS : Hid (∀ W, Later W1 W → StepsAt F W s.v l) := fun W hW => StepsAt.kept h (Kept.of_below (L1.out.trans hW) _)
  obtain ⟨k1, hk1⟩ : ∃ k1, (checkF s.name l).1 = k1 := ⟨_, rfl⟩
  obtain ⟨k2, hk2⟩ : ∃ k2, (checkF s.name l).2 = k2 := ⟨_, rfl⟩
  rw [hk1, hk2] at CC
  have HN := hide (steps_n h)
  have HW1 := hide hW1.symm
  have HG := hide hg.symm
  clear hW1 hg h hk1 h1 hw
  have e0 := X1.out.c0
  have e1 := X1.out.c1
  rw [← HW1.out, ← HG.out] at e0 e1
  obtain ⟨T, hT⟩ : ∃ T, triesN l s.step = T := ⟨_, rfl⟩
  rw [hT] at C
  obtain rfl : k2 = 0 := by rw [← hk2]; exact he
  obtain ⟨R, hR⟩ : ∃ R, (decide (s.tr = 0) && (decide (0 < triesN l s.step) && cameF s)) = R := ⟨_, rfl⟩
  rw [hR]
  have HR : Hid (R = (decide (s.tr = 0) && (decide (0 < T) && cameF s))) := by show _ = _; rw [← hR, hT]
  have h8 := (check_good he).1
  have HT : Hid (0 < T → ∀ W, Calls Tryz.prog 94 #[s.val] W (Gives (.bool (cameF s)) W)) := fun g2 W => by
    have := tries_pos (l := l) (k := s.step) (by omega)
    exact came_any this.1 (by omega)
  clear hR hT h8
  clear he hk2
  go_enter Tryz.func61, Tryz.ntmps61
  go_wp2_with (fail)
  simp only [HW1.out, HG.out]
  refine CC.out.mono ?_
  rintro e w2 ⟨rfl, hl⟩
  have L12 := hide hl
  have L2 := hide (L1.out.trans hl)
  have X2 := hide (X1.out.below hl)
  clear hl CC e0 e1
  have d0 := X2.out.c0
  have d1 := X2.out.c1
  have d3 := X2.out.c3
  go_wp2_with (fail)
  refine (C.out _ L12.out).mono ?_
  rintro e w3 ⟨rfl, hl⟩
  have L13 := hide (L12.out.trans hl)
  have L3 := hide (L2.out.trans hl)
  have X3 := hide (X2.out.below hl)
  clear hl C d0 d1 d3
  have c2 := X3.out.c2
  rw [hst] at c2
  clear hst
  have c4 := X3.out.c4
  by_cases g1 : s.tr = 0
  · rw [g1] at c4
    by_cases g2 : 0 < T
    · obtain rfl : R = cameF s := by rw [HR.out]; simp [g1, g2]
      have CM := hide (HT.out g2)
      clear g1
      go_wp2_with (refine wpList_val rfl (by rfl) (exec_load_saga _ (by rfl) (by rfl) X3.out) ?_)
      refine (CM.out _).mono ?_
      rintro e w4 ⟨rfl, hl⟩
      have L4 := hide (L3.out.trans hl)
      clear hl
      go_wp2
      go_ret
      exact ⟨rfl, L4.out⟩
    · obtain rfl : R = false := by rw [HR.out]; simp [g2]
      clear g1
      go_wp2
      go_ret
      exact ⟨rfl, L3.out⟩
  · obtain rfl : R = false := by rw [HR.out]; simp [g1]
    have hb : (s.tr == 0) = false := by rw [beq_eq_false_iff_ne]; exact g1
    clear g1
    go_wp2
    go_ret
    exact ⟨rfl, L3.out⟩
set_option maxHeartbeats 8000000 in
theorem good_undo {F : Nat → Prop} {s : SagaD} {l : List StepD} (h : StepsAt F w s.v l) (hw : ∀ x ∈ l, x.wf) (h1 : I64 s.step) (he : (checkF s.name l).2 = 0) (hst : s.st = 2) : Calls Tryz.prog 61 #[s.val] w (Gives (.bool (decide (1 ≤ s.tr) && (decide (s.tr ≤ triesN l s.step) && (decide (s.hit = upH s.step) && undoAt l s.step)))) w) := by
  obtain ⟨W1, hW1⟩ : ∃ W1, W1 = (w.alloc (.cells s.cells.toArray 72 (0, 0))) := ⟨_, rfl⟩
  obtain ⟨g, hg⟩ : ∃ g, g = w.heap.size := ⟨_, rfl⟩
  have X1 : Hid (SBox 72 g s W1) := by rw [hW1, hg]; exact heap_alloc_new _ _
  have L1 : Hid (Later w W1) := by rw [hW1]; exact (Below.refl _ _).alloc (Nat.le_refl _) _
  have HG0 : Hid (w.heap.size ≤ g) := Nat.le_of_eq hg.symm
  have CC : Hid (Calls Tryz.prog 92 #[.agg #[.string s.name, .slice s.p s.n s.c]] W1 fun e w' => e = .returned (.tuple #[.int .i64 (((checkF s.name l).1 : Nat) : Int), .int .i64 (((checkF s.name l).2 : Nat) : Int)]) ∧ Later W1 w') := check_any (StepsAt.kept h (Kept.of_below L1.out _))
  have C : Hid (∀ W, Later W1 W → Calls Tryz.prog 93 #[.agg #[.string s.name, .slice s.p s.n s.c], .int .i64 s.step] W fun e w' => e = .returned (.int .i64 (triesN l s.step)) ∧ Later W w') := fun W hW => Tries_any (StepsAt.kept h (Kept.of_below (L1.out.trans hW) _)) h1 hw
  have HS : Hid (∀ W, Later W1 W → StepsAt F W s.v l) := fun W hW => StepsAt.kept h (Kept.of_below (L1.out.trans hW) _)
  obtain ⟨k1, hk1⟩ : ∃ k1, (checkF s.name l).1 = k1 := ⟨_, rfl⟩
  obtain ⟨k2, hk2⟩ : ∃ k2, (checkF s.name l).2 = k2 := ⟨_, rfl⟩
  rw [hk1, hk2] at CC
  have HN := hide (steps_n h)
  have HW1 := hide hW1.symm
  have HG := hide hg.symm
  clear hW1 hg h hk1 h1 hw
  have e0 := X1.out.c0
  have e1 := X1.out.c1
  rw [← HW1.out, ← HG.out] at e0 e1
  obtain ⟨T, hT⟩ : ∃ T, triesN l s.step = T := ⟨_, rfl⟩
  rw [hT] at C
  obtain rfl : k2 = 0 := by rw [← hk2]; exact he
  have CU : Hid (∀ (W : World) (k : Int), k ≤ 8 → Calls Tryz.prog 95 #[.int .i64 k] W (Gives (upH k).val W)) := fun W k hk => upTo_any k hk
  obtain ⟨R, hR⟩ : ∃ R, (decide (1 ≤ s.tr) && (decide (s.tr ≤ triesN l s.step) && (decide (s.hit = upH s.step) && undoAt l s.step))) = R := ⟨_, rfl⟩
  rw [hR]
  have HR : Hid (R = (decide (1 ≤ s.tr) && (decide (s.tr ≤ T) && (decide (s.hit = upH s.step) && undoAt l s.step)))) := by show _ = _; rw [← hR, hT]
  have h8 := (check_good he).1
  have HT : Hid (1 ≤ s.tr → s.tr ≤ T → 1 ≤ s.step ∧ s.step ≤ (l.length : Int) ∧ s.step ≤ 8) := fun g1 g2 => by
    have := tries_pos (l := l) (k := s.step) (by omega)
    exact ⟨this.1, this.2, by omega⟩
  clear hR hT h8
  clear he hk2
  go_enter Tryz.func61, Tryz.ntmps61
  go_wp2_with (fail)
  simp only [HW1.out, HG.out]
  refine CC.out.mono ?_
  rintro e w2 ⟨rfl, hl⟩
  have L12 := hide hl
  have L2 := hide (L1.out.trans hl)
  have X2 := hide (X1.out.below hl)
  clear hl CC e0 e1
  have d0 := X2.out.c0
  have d1 := X2.out.c1
  have d3 := X2.out.c3
  go_wp2_with (fail)
  refine (C.out _ L12.out).mono ?_
  rintro e w3 ⟨rfl, hl⟩
  have L13 := hide (L12.out.trans hl)
  have L3 := hide (L2.out.trans hl)
  have X3 := hide (X2.out.below hl)
  clear hl C d0 d1 d3
  have c2 := X3.out.c2
  rw [hst] at c2
  clear hst
  by_cases g1 : 1 ≤ s.tr
  · by_cases g2 : s.tr ≤ T
    · have gs := HT.out g1 g2
      obtain ⟨gs1, gs2, gs3⟩ := gs
      by_cases g3 : s.hit = upH s.step
      · obtain rfl : R = undoAt l s.step := by rw [HR.out, decide_eq_true g1, decide_eq_true g2, decide_eq_true g3]; rfl
        have HE := hide (decide_eq_true g3)
        obtain ⟨q, hq⟩ : ∃ q : Nat, s.step = (q : Int) + 1 := ⟨(s.step - 1).toNat, by omega⟩
        have HK := hide hq
        have hql : q < l.length := by omega
        obtain ⟨x, b, off, c', hx, hvv, _, _, hb, hr⟩ := StepsAt.at_ (HS.out w3 L13.out) (i := q) hql
        have HU : Hid (undoAt l s.step = x.undo) := by show _ = _; unfold undoAt; rw [hq, show ((q : Int) + 1 - 1).toNat = q from by omega, hx]; rfl
        have hwr : IntKind.i64.wrap (q : Int) = (q : Int) := wrap_fits (by omega)
        have hv1 : s.p = some ⟨b, off, none⟩ := by
          unfold SagaD.v at hvv
          injection hvv
        have HV := hide hv1
        obtain ⟨r0, r1, r2, r3, r4, r5⟩ := range_step hr
        have hbl := hb
        have HR4 : Hid (∀ W, Later w3 W → W.cell? ⟨b, off + q * 6 + 4, none⟩ = some (.bool x.undo)) := fun W hW => (Below.cell hW (p := ⟨b, off + q * 6 + 4, none⟩) hbl).trans r4
        have hqn : q < s.n := by rw [HN.out]; exact hql
        clear hx hvv hr r0 r1 r2 r3 r4 r5 hq g3 gs1 gs2 hb hbl hv1
        go_wp2_with (fail)
        have XD := hide (show SBox 72 g s w3.drew from X3.out)
        have LD := hide (L3.out.trans (Later.drew w3))
        have LD1 := hide (L13.out.trans (Later.drew w3))
        refine wp_region_L (by kernel_rfl) ?_
        refine wpAnyL_take (i := 0) (d := some 38) (v := ?vad0) rfl rfl (by kernel_rfl) (by kernel_rfl) (by kernel_rfl) (fun _ _ _ h => h) (by rfl) ?yad0 ?_
        case yad0 => (intro w' hw'; go_simp; try (with_reducible rfl))
        simp only [Act.put]; try simp only [List.setIfInBounds_toArray]; try simp only [List.set_cons_zero, List.set_cons_succ]
        refine wpAnyL_take (i := 1) (d := some 39) (v := ?vad1) rfl rfl (by kernel_rfl) (by kernel_rfl) (by kernel_rfl) (fun _ _ _ h => h) (by rfl) ?yad1 ?_
        case yad1 => (intro w' hw'; have c4 := (XD.out.below hw').c4; go_simp; try (with_reducible rfl))
        simp only [Act.put]; try simp only [List.setIfInBounds_toArray]; try simp only [List.set_cons_zero, List.set_cons_succ]
        refine wpAnyL_take (i := 2) (d := some 40) (v := .bool true) rfl rfl (by kernel_rfl) (by kernel_rfl) (by kernel_rfl) (fun _ _ _ h => h) (by rfl) ?yad2 ?_
        case yad2 => (intro w' hw'; go_simp <;> omega)
        simp only [Act.put]; try simp only [List.setIfInBounds_toArray]; try simp only [List.set_cons_zero, List.set_cons_succ]
        refine wpAnyL_take (i := 3) (d := some 41) (v := ?vad3) rfl rfl (by kernel_rfl) (by kernel_rfl) (by kernel_rfl) (fun _ _ _ h => h) (by rfl) ?yad3 ?_
        case yad3 => (intro w' hw'; go_simp; try (with_reducible rfl))
        simp only [Act.put]; try simp only [List.setIfInBounds_toArray]; try simp only [List.set_cons_zero, List.set_cons_succ]
        refine wpAnyL_take (i := 4) (d := some 42) (v := ?vad4) rfl rfl (by kernel_rfl) (by kernel_rfl) (by kernel_rfl) (fun _ _ _ h => h) (by rfl) ?yad4 ?_
        case yad4 => (intro w' hw'; go_simp; try (with_reducible rfl))
        simp only [Act.put]; try simp only [List.setIfInBounds_toArray]; try simp only [List.set_cons_zero, List.set_cons_succ]
        refine wpAnyL_take (i := 5) (d := some 43) (v := ?vad5) rfl rfl (by kernel_rfl) (by kernel_rfl) (by kernel_rfl) (fun _ _ _ h => h) (by rfl) ?yad5 ?_
        case yad5 => (intro w' hw'; have c4 := (XD.out.below hw').c4; go_simp; try (with_reducible rfl))
        simp only [Act.put]; try simp only [List.setIfInBounds_toArray]; try simp only [List.set_cons_zero, List.set_cons_succ]
        refine wpAnyL_take (i := 6) (d := some 44) (v := ?vad6) rfl rfl (by kernel_rfl) (by kernel_rfl) (by kernel_rfl) (fun _ _ _ h => h) (by rfl) ?yad6 ?_
        case yad6 => (intro w' hw'; go_simp; try (with_reducible rfl))
        simp only [Act.put]; try simp only [List.setIfInBounds_toArray]; try simp only [List.set_cons_zero, List.set_cons_succ]
        refine wpAnyL_take (i := 7) (d := some 45) (v := .bool true) rfl rfl (by kernel_rfl) (by kernel_rfl) (by kernel_rfl) (fun _ _ _ h => h) (by rfl) ?yad7 ?_
        case yad7 => (intro w' hw'; go_simp <;> omega)
        simp only [Act.put]; try simp only [List.setIfInBounds_toArray]; try simp only [List.set_cons_zero, List.set_cons_succ]
        refine wpAnyL_take (i := 8) (d := some 46) (v := ?vad8) rfl rfl (by kernel_rfl) (by kernel_rfl) (by kernel_rfl) (fun _ _ _ h => h) (by rfl) ?yad8 ?_
        case yad8 => (intro w' hw'; go_simp; try (with_reducible rfl))
        simp only [Act.put]; try simp only [List.setIfInBounds_toArray]; try simp only [List.set_cons_zero, List.set_cons_succ]
        refine wpAnyL_take (i := 9) (d := some 47) (v := ?vad9) rfl rfl (by kernel_rfl) (by kernel_rfl) (by kernel_rfl) (fun _ _ _ h => h) (by rfl) ?yad9 ?_
        case yad9 => (intro w' hw'; go_simp; try (with_reducible rfl))
        simp only [Act.put]; try simp only [List.setIfInBounds_toArray]; try simp only [List.set_cons_zero, List.set_cons_succ]
        refine wpAnyL_take (i := 10) (d := some 48) (v := ?vad10) rfl rfl (by kernel_rfl) (by kernel_rfl) (by kernel_rfl) (fun _ _ _ h => h) (by rfl) ?yad10 ?_
        case yad10 => (intro w' hw'; go_simp; try (with_reducible rfl))
        simp only [Act.put]; try simp only [List.setIfInBounds_toArray]; try simp only [List.set_cons_zero, List.set_cons_succ]
        refine wpAnyL_take (i := 11) (d := some 49) (v := s.hit.val) rfl rfl (by kernel_rfl) (by kernel_rfl) (by kernel_rfl) (fun _ _ _ h => h) (by rfl) ?yad11 ?_
        case yad11 => (intro w' hw'; exact exec_load_hits _ (by rfl) (by rfl) (XD.out.below hw'))
        simp only [Act.put]; try simp only [List.setIfInBounds_toArray]; try simp only [List.set_cons_zero, List.set_cons_succ]
        refine wpAnyL_take (i := 12) (d := some 50) (v := ?vad12) rfl rfl (by kernel_rfl) (by kernel_rfl) (by kernel_rfl) (fun _ _ _ h => h) (by rfl) ?yad12 ?_
        case yad12 => (intro w' hw'; go_simp; try (with_reducible rfl))
        simp only [Act.put]; try simp only [List.setIfInBounds_toArray]; try simp only [List.set_cons_zero, List.set_cons_succ]
        refine wpAnyL_take (i := 13) (d := some 51) (v := ?vad13) rfl rfl (by kernel_rfl) (by kernel_rfl) (by kernel_rfl) (fun _ _ _ h => h) (by rfl) ?yad13 ?_
        case yad13 => (intro w' hw'; have c3 := (XD.out.below hw').c3; go_simp; try (with_reducible rfl))
        simp only [Act.put]; try simp only [List.setIfInBounds_toArray]; try simp only [List.set_cons_zero, List.set_cons_succ]
        refine wpAnyL_only (i := 14) rfl (by kernel_rfl) (by rfl) fun K hK => ?_
        go_simp
        refine (CU.out _ _ (by omega)).mono ?_
        rintro e w_14 ⟨rfl, hl_⟩
        have L14 := hide (LD.out.trans hl_)
        have L114 := hide (LD1.out.trans hl_)
        have L314 := hide ((Later.drew w3).trans hl_)
        have X14 := hide (XD.out.below hl_)
        refine hK.out _ _ hl_ ?_
        clear hl_
        clear hK K
        try (simp only [Act.put]; try simp only [List.setIfInBounds_toArray]; try simp only [List.set_cons_zero, List.set_cons_succ])
        refine wpAnyL_take (i := 15) (d := some 53) (v := .bool true) rfl rfl (by kernel_rfl) (by kernel_rfl) (by kernel_rfl) (fun _ _ _ h => h) (by rfl) ?yad15 ?_
        case yad15 => (intro w' hw'; exact (exec_eql_hits s.hit (upH s.step) _ _ _ (by rfl) (by rfl) (by rfl)).trans (by rw [HE.out]))
        simp only [Act.put]; try simp only [List.setIfInBounds_toArray]; try simp only [List.set_cons_zero, List.set_cons_succ]
        refine wpAnyL_take (i := 16) (d := some 54) (v := ?vad16) rfl rfl (by kernel_rfl) (by kernel_rfl) (by kernel_rfl) (fun _ _ _ h => h) (by rfl) ?yad16 ?_
        case yad16 => (intro w' hw'; go_simp; try (with_reducible rfl))
        simp only [Act.put]; try simp only [List.setIfInBounds_toArray]; try simp only [List.set_cons_zero, List.set_cons_succ]
        refine wpAnyL_take (i := 17) (d := some 55) (v := ?vad17) rfl rfl (by kernel_rfl) (by kernel_rfl) (by kernel_rfl) (fun _ _ _ h => h) (by rfl) ?yad17 ?_
        case yad17 => (intro w' hw'; go_simp; try (with_reducible rfl))
        simp only [Act.put]; try simp only [List.setIfInBounds_toArray]; try simp only [List.set_cons_zero, List.set_cons_succ]
        refine wpAnyL_take (i := 18) (d := some 56) (v := ?vad18) rfl rfl (by kernel_rfl) (by kernel_rfl) (by kernel_rfl) (fun _ _ _ h => h) (by rfl) ?yad18 ?_
        case yad18 => (intro w' hw'; go_simp; try (with_reducible rfl))
        simp only [Act.put]; try simp only [List.setIfInBounds_toArray]; try simp only [List.set_cons_zero, List.set_cons_succ]
        refine wpAnyL_take (i := 19) (d := some 57) (v := ?vad19) rfl rfl (by kernel_rfl) (by kernel_rfl) (by kernel_rfl) (fun _ _ _ h => h) (by rfl) ?yad19 ?_
        case yad19 => (intro w' hw'; go_simp; try (with_reducible rfl))
        simp only [Act.put]; try simp only [List.setIfInBounds_toArray]; try simp only [List.set_cons_zero, List.set_cons_succ]
        refine wpAnyL_take (i := 20) (d := some 58) (v := ?vad20) rfl rfl (by kernel_rfl) (by kernel_rfl) (by kernel_rfl) (fun _ _ _ h => h) (by rfl) ?yad20 ?_
        case yad20 => (intro w' hw'; have c1 := (X14.out.below hw').c1; rw [HV.out] at c1; go_simp; try (with_reducible rfl))
        simp only [Act.put]; try simp only [List.setIfInBounds_toArray]; try simp only [List.set_cons_zero, List.set_cons_succ]
        refine wpAnyL_take (i := 21) (d := some 59) (v := ?vad21) rfl rfl (by kernel_rfl) (by kernel_rfl) (by kernel_rfl) (fun _ _ _ h => h) (by rfl) ?yad21 ?_
        case yad21 => (intro w' hw'; go_simp; try (with_reducible rfl))
        simp only [Act.put]; try simp only [List.setIfInBounds_toArray]; try simp only [List.set_cons_zero, List.set_cons_succ]
        refine wpAnyL_take (i := 22) (d := some 60) (v := ?vad22) rfl rfl (by kernel_rfl) (by kernel_rfl) (by kernel_rfl) (fun _ _ _ h => h) (by rfl) ?yad22 ?_
        case yad22 => (intro w' hw'; have c3 := (X14.out.below hw').c3; rw [HK.out] at c3; go_simp; try (with_reducible rfl))
        simp only [Act.put]; try simp only [List.setIfInBounds_toArray]; try simp only [List.set_cons_zero, List.set_cons_succ]
        refine wpAnyL_take (i := 23) (d := some 61) (v := .int .i64 (q : Int)) rfl rfl (by kernel_rfl) (by kernel_rfl) (by kernel_rfl) (fun _ _ _ h => h) (by rfl) ?yad23 ?_
        case yad23 => (intro w' hw'; go_simp <;> omega)
        simp only [Act.put]; try simp only [List.setIfInBounds_toArray]; try simp only [List.set_cons_zero, List.set_cons_succ]
        refine wpAnyL_take (i := 24) (d := some 62) (v := ?vad24) rfl rfl (by kernel_rfl) (by kernel_rfl) (by kernel_rfl) (fun _ _ _ h => h) (by rfl) ?yad24 ?_
        case yad24 => (intro w' hw'; go_simp; try (with_reducible rfl))
        simp only [Act.put]; try simp only [List.setIfInBounds_toArray]; try simp only [List.set_cons_zero, List.set_cons_succ]
        refine wpAnyL_take (i := 25) (d := some 63) (v := ?vad25) rfl rfl (by kernel_rfl) (by kernel_rfl) (by kernel_rfl) (fun _ _ _ h => h) (by rfl) ?yad25 ?_
        case yad25 => (intro w' hw'; go_simp; try (with_reducible rfl))
        simp only [Act.put]; try simp only [List.setIfInBounds_toArray]; try simp only [List.set_cons_zero, List.set_cons_succ]
        refine wpAnyL_take (i := 26) (d := some 64) (v := ?vad26) rfl rfl (by kernel_rfl) (by kernel_rfl) (by kernel_rfl) (fun _ _ _ h => h) (by rfl) ?yad26 ?_
        case yad26 => (intro w' hw'; have r4 := (HR4.out w' (L314.out.trans hw')); go_simp; try (with_reducible rfl))
        simp only [Act.put]; try simp only [List.setIfInBounds_toArray]; try simp only [List.set_cons_zero, List.set_cons_succ]
        refine wpAnyL_take (i := 27) (d := some 65) (v := ?vad27) rfl rfl (by kernel_rfl) (by kernel_rfl) (by kernel_rfl) (fun _ _ _ h => h) (by rfl) ?yad27 ?_
        case yad27 => (intro w' hw'; go_simp; try (with_reducible rfl))
        simp only [Act.put]; try simp only [List.setIfInBounds_toArray]; try simp only [List.set_cons_zero, List.set_cons_succ]
        refine wpAnyL_take (i := 28) (d := some 2) (v := ?vad28) rfl rfl (by kernel_rfl) (by kernel_rfl) (by kernel_rfl) (fun _ _ _ h => h) (by rfl) ?yad28 ?_
        case yad28 => (intro w' hw'; go_simp; try (with_reducible rfl))
        simp only [Act.put]; try simp only [List.setIfInBounds_toArray]; try simp only [List.set_cons_zero, List.set_cons_succ]
        refine wpAnyL_done (by kernel_rfl) ?_ _
        go_wp2
        go_ret
        exact ⟨ret_bool HU.out.symm, L14.out⟩

      · obtain rfl : R = false := by rw [HR.out, decide_eq_true g1, decide_eq_true g2, decide_eq_false g3]; rfl
        have HE := hide (decide_eq_false g3)
        clear g3
        go_wp2_with (fail)
        have XD := hide (show SBox 72 g s w3.drew from X3.out)
        have LD := hide (L3.out.trans (Later.drew w3))
        have LD1 := hide (L13.out.trans (Later.drew w3))
        refine wp_region_L (by kernel_rfl) ?_
        refine wpAnyL_take (i := 0) (d := some 38) (v := ?vac0) rfl rfl (by kernel_rfl) (by kernel_rfl) (by kernel_rfl) (fun _ _ _ h => h) (by rfl) ?yac0 ?_
        case yac0 => (intro w' hw'; go_simp; try (with_reducible rfl))
        simp only [Act.put]; try simp only [List.setIfInBounds_toArray]; try simp only [List.set_cons_zero, List.set_cons_succ]
        refine wpAnyL_take (i := 1) (d := some 39) (v := ?vac1) rfl rfl (by kernel_rfl) (by kernel_rfl) (by kernel_rfl) (fun _ _ _ h => h) (by rfl) ?yac1 ?_
        case yac1 => (intro w' hw'; have c4 := (XD.out.below hw').c4; go_simp; try (with_reducible rfl))
        simp only [Act.put]; try simp only [List.setIfInBounds_toArray]; try simp only [List.set_cons_zero, List.set_cons_succ]
        refine wpAnyL_take (i := 2) (d := some 40) (v := .bool true) rfl rfl (by kernel_rfl) (by kernel_rfl) (by kernel_rfl) (fun _ _ _ h => h) (by rfl) ?yac2 ?_
        case yac2 => (intro w' hw'; go_simp <;> omega)
        simp only [Act.put]; try simp only [List.setIfInBounds_toArray]; try simp only [List.set_cons_zero, List.set_cons_succ]
        refine wpAnyL_take (i := 3) (d := some 41) (v := ?vac3) rfl rfl (by kernel_rfl) (by kernel_rfl) (by kernel_rfl) (fun _ _ _ h => h) (by rfl) ?yac3 ?_
        case yac3 => (intro w' hw'; go_simp; try (with_reducible rfl))
        simp only [Act.put]; try simp only [List.setIfInBounds_toArray]; try simp only [List.set_cons_zero, List.set_cons_succ]
        refine wpAnyL_take (i := 4) (d := some 42) (v := ?vac4) rfl rfl (by kernel_rfl) (by kernel_rfl) (by kernel_rfl) (fun _ _ _ h => h) (by rfl) ?yac4 ?_
        case yac4 => (intro w' hw'; go_simp; try (with_reducible rfl))
        simp only [Act.put]; try simp only [List.setIfInBounds_toArray]; try simp only [List.set_cons_zero, List.set_cons_succ]
        refine wpAnyL_take (i := 5) (d := some 43) (v := ?vac5) rfl rfl (by kernel_rfl) (by kernel_rfl) (by kernel_rfl) (fun _ _ _ h => h) (by rfl) ?yac5 ?_
        case yac5 => (intro w' hw'; have c4 := (XD.out.below hw').c4; go_simp; try (with_reducible rfl))
        simp only [Act.put]; try simp only [List.setIfInBounds_toArray]; try simp only [List.set_cons_zero, List.set_cons_succ]
        refine wpAnyL_take (i := 6) (d := some 44) (v := ?vac6) rfl rfl (by kernel_rfl) (by kernel_rfl) (by kernel_rfl) (fun _ _ _ h => h) (by rfl) ?yac6 ?_
        case yac6 => (intro w' hw'; go_simp; try (with_reducible rfl))
        simp only [Act.put]; try simp only [List.setIfInBounds_toArray]; try simp only [List.set_cons_zero, List.set_cons_succ]
        refine wpAnyL_take (i := 7) (d := some 45) (v := .bool true) rfl rfl (by kernel_rfl) (by kernel_rfl) (by kernel_rfl) (fun _ _ _ h => h) (by rfl) ?yac7 ?_
        case yac7 => (intro w' hw'; go_simp <;> omega)
        simp only [Act.put]; try simp only [List.setIfInBounds_toArray]; try simp only [List.set_cons_zero, List.set_cons_succ]
        refine wpAnyL_take (i := 8) (d := some 46) (v := ?vac8) rfl rfl (by kernel_rfl) (by kernel_rfl) (by kernel_rfl) (fun _ _ _ h => h) (by rfl) ?yac8 ?_
        case yac8 => (intro w' hw'; go_simp; try (with_reducible rfl))
        simp only [Act.put]; try simp only [List.setIfInBounds_toArray]; try simp only [List.set_cons_zero, List.set_cons_succ]
        refine wpAnyL_take (i := 9) (d := some 47) (v := ?vac9) rfl rfl (by kernel_rfl) (by kernel_rfl) (by kernel_rfl) (fun _ _ _ h => h) (by rfl) ?yac9 ?_
        case yac9 => (intro w' hw'; go_simp; try (with_reducible rfl))
        simp only [Act.put]; try simp only [List.setIfInBounds_toArray]; try simp only [List.set_cons_zero, List.set_cons_succ]
        refine wpAnyL_take (i := 10) (d := some 48) (v := ?vac10) rfl rfl (by kernel_rfl) (by kernel_rfl) (by kernel_rfl) (fun _ _ _ h => h) (by rfl) ?yac10 ?_
        case yac10 => (intro w' hw'; go_simp; try (with_reducible rfl))
        simp only [Act.put]; try simp only [List.setIfInBounds_toArray]; try simp only [List.set_cons_zero, List.set_cons_succ]
        refine wpAnyL_take (i := 11) (d := some 49) (v := s.hit.val) rfl rfl (by kernel_rfl) (by kernel_rfl) (by kernel_rfl) (fun _ _ _ h => h) (by rfl) ?yac11 ?_
        case yac11 => (intro w' hw'; exact exec_load_hits _ (by rfl) (by rfl) (XD.out.below hw'))
        simp only [Act.put]; try simp only [List.setIfInBounds_toArray]; try simp only [List.set_cons_zero, List.set_cons_succ]
        refine wpAnyL_take (i := 12) (d := some 50) (v := ?vac12) rfl rfl (by kernel_rfl) (by kernel_rfl) (by kernel_rfl) (fun _ _ _ h => h) (by rfl) ?yac12 ?_
        case yac12 => (intro w' hw'; go_simp; try (with_reducible rfl))
        simp only [Act.put]; try simp only [List.setIfInBounds_toArray]; try simp only [List.set_cons_zero, List.set_cons_succ]
        refine wpAnyL_take (i := 13) (d := some 51) (v := ?vac13) rfl rfl (by kernel_rfl) (by kernel_rfl) (by kernel_rfl) (fun _ _ _ h => h) (by rfl) ?yac13 ?_
        case yac13 => (intro w' hw'; have c3 := (XD.out.below hw').c3; go_simp; try (with_reducible rfl))
        simp only [Act.put]; try simp only [List.setIfInBounds_toArray]; try simp only [List.set_cons_zero, List.set_cons_succ]
        refine wpAnyL_only (i := 14) rfl (by kernel_rfl) (by rfl) fun K hK => ?_
        go_simp
        refine (CU.out _ _ (by omega)).mono ?_
        rintro e w_14 ⟨rfl, hl_⟩
        have L14 := hide (LD.out.trans hl_)
        have L114 := hide (LD1.out.trans hl_)
        have L314 := hide ((Later.drew w3).trans hl_)
        have X14 := hide (XD.out.below hl_)
        refine hK.out _ _ hl_ ?_
        clear hl_
        clear hK K
        try (simp only [Act.put]; try simp only [List.setIfInBounds_toArray]; try simp only [List.set_cons_zero, List.set_cons_succ])
        refine wpAnyL_take (i := 15) (d := some 53) (v := .bool false) rfl rfl (by kernel_rfl) (by kernel_rfl) (by kernel_rfl) (fun _ _ _ h => h) (by rfl) ?yac15 ?_
        case yac15 => (intro w' hw'; exact (exec_eql_hits s.hit (upH s.step) _ _ _ (by rfl) (by rfl) (by rfl)).trans (by rw [HE.out]))
        simp only [Act.put]; try simp only [List.setIfInBounds_toArray]; try simp only [List.set_cons_zero, List.set_cons_succ]
        refine wpAnyL_take (i := 16) (d := some 54) (v := ?vac16) rfl rfl (by kernel_rfl) (by kernel_rfl) (by kernel_rfl) (fun _ _ _ h => h) (by rfl) ?yac16 ?_
        case yac16 => (intro w' hw'; go_simp; try (with_reducible rfl))
        simp only [Act.put]; try simp only [List.setIfInBounds_toArray]; try simp only [List.set_cons_zero, List.set_cons_succ]
        refine wpAnyL_take (i := 17) (d := some 55) (v := ?vac17) rfl rfl (by kernel_rfl) (by kernel_rfl) (by kernel_rfl) (fun _ _ _ h => h) (by rfl) ?yac17 ?_
        case yac17 => (intro w' hw'; go_simp; try (with_reducible rfl))
        simp only [Act.put]; try simp only [List.setIfInBounds_toArray]; try simp only [List.set_cons_zero, List.set_cons_succ]
        refine wpAnyL_pass (i := 18) (d := some 56) rfl rfl (by kernel_rfl) (by kernel_rfl) (by kernel_rfl) (fun _ _ _ h => h) (by rfl) ?_
        try (simp only [Act.put]; try simp only [List.setIfInBounds_toArray]; try simp only [List.set_cons_zero, List.set_cons_succ])
        refine wpAnyL_pass (i := 19) (d := some 57) rfl rfl (by kernel_rfl) (by kernel_rfl) (by kernel_rfl) (fun _ _ _ h => h) (by rfl) ?_
        try (simp only [Act.put]; try simp only [List.setIfInBounds_toArray]; try simp only [List.set_cons_zero, List.set_cons_succ])
        refine wpAnyL_pass (i := 20) (d := some 58) rfl rfl (by kernel_rfl) (by kernel_rfl) (by kernel_rfl) (fun _ _ _ h => h) (by rfl) ?_
        try (simp only [Act.put]; try simp only [List.setIfInBounds_toArray]; try simp only [List.set_cons_zero, List.set_cons_succ])
        refine wpAnyL_pass (i := 21) (d := some 59) rfl rfl (by kernel_rfl) (by kernel_rfl) (by kernel_rfl) (fun _ _ _ h => h) (by rfl) ?_
        try (simp only [Act.put]; try simp only [List.setIfInBounds_toArray]; try simp only [List.set_cons_zero, List.set_cons_succ])
        refine wpAnyL_pass (i := 22) (d := some 60) rfl rfl (by kernel_rfl) (by kernel_rfl) (by kernel_rfl) (fun _ _ _ h => h) (by rfl) ?_
        try (simp only [Act.put]; try simp only [List.setIfInBounds_toArray]; try simp only [List.set_cons_zero, List.set_cons_succ])
        refine wpAnyL_pass (i := 23) (d := some 61) rfl rfl (by kernel_rfl) (by kernel_rfl) (by kernel_rfl) (fun _ _ _ h => h) (by rfl) ?_
        try (simp only [Act.put]; try simp only [List.setIfInBounds_toArray]; try simp only [List.set_cons_zero, List.set_cons_succ])
        refine wpAnyL_pass (i := 24) (d := some 62) rfl rfl (by kernel_rfl) (by kernel_rfl) (by kernel_rfl) (fun _ _ _ h => h) (by rfl) ?_
        try (simp only [Act.put]; try simp only [List.setIfInBounds_toArray]; try simp only [List.set_cons_zero, List.set_cons_succ])
        refine wpAnyL_pass (i := 25) (d := some 63) rfl rfl (by kernel_rfl) (by kernel_rfl) (by kernel_rfl) (fun _ _ _ h => h) (by rfl) ?_
        try (simp only [Act.put]; try simp only [List.setIfInBounds_toArray]; try simp only [List.set_cons_zero, List.set_cons_succ])
        refine wpAnyL_pass (i := 26) (d := some 64) rfl rfl (by kernel_rfl) (by kernel_rfl) (by kernel_rfl) (fun _ _ _ h => h) (by rfl) ?_
        try (simp only [Act.put]; try simp only [List.setIfInBounds_toArray]; try simp only [List.set_cons_zero, List.set_cons_succ])
        refine wpAnyL_take (i := 27) (d := some 65) (v := ?vac27) rfl rfl (by kernel_rfl) (by kernel_rfl) (by kernel_rfl) (fun _ _ _ h => h) (by rfl) ?yac27 ?_
        case yac27 => (intro w' hw'; go_simp; try (with_reducible rfl))
        simp only [Act.put]; try simp only [List.setIfInBounds_toArray]; try simp only [List.set_cons_zero, List.set_cons_succ]
        refine wpAnyL_take (i := 28) (d := some 2) (v := ?vac28) rfl rfl (by kernel_rfl) (by kernel_rfl) (by kernel_rfl) (fun _ _ _ h => h) (by rfl) ?yac28 ?_
        case yac28 => (intro w' hw'; go_simp; try (with_reducible rfl))
        simp only [Act.put]; try simp only [List.setIfInBounds_toArray]; try simp only [List.set_cons_zero, List.set_cons_succ]
        refine wpAnyL_done (by kernel_rfl) ?_ _
        go_wp2
        go_ret
        exact ⟨rfl, L14.out⟩

    · obtain rfl : R = false := by rw [HR.out, decide_eq_true g1, decide_eq_false g2]; rfl
      go_wp2_with (fail)
      have XD := hide (show SBox 72 g s w3.drew from X3.out)
      have LD := hide (L3.out.trans (Later.drew w3))
      have LD1 := hide (L13.out.trans (Later.drew w3))
      refine wp_region_L (by kernel_rfl) ?_
      refine wpAnyL_take (i := 0) (d := some 38) (v := ?vab0) rfl rfl (by kernel_rfl) (by kernel_rfl) (by kernel_rfl) (fun _ _ _ h => h) (by rfl) ?yab0 ?_
      case yab0 => (intro w' hw'; go_simp; try (with_reducible rfl))
      simp only [Act.put]; try simp only [List.setIfInBounds_toArray]; try simp only [List.set_cons_zero, List.set_cons_succ]
      refine wpAnyL_take (i := 1) (d := some 39) (v := ?vab1) rfl rfl (by kernel_rfl) (by kernel_rfl) (by kernel_rfl) (fun _ _ _ h => h) (by rfl) ?yab1 ?_
      case yab1 => (intro w' hw'; have c4 := (XD.out.below hw').c4; go_simp; try (with_reducible rfl))
      simp only [Act.put]; try simp only [List.setIfInBounds_toArray]; try simp only [List.set_cons_zero, List.set_cons_succ]
      refine wpAnyL_take (i := 2) (d := some 40) (v := .bool true) rfl rfl (by kernel_rfl) (by kernel_rfl) (by kernel_rfl) (fun _ _ _ h => h) (by rfl) ?yab2 ?_
      case yab2 => (intro w' hw'; go_simp <;> omega)
      simp only [Act.put]; try simp only [List.setIfInBounds_toArray]; try simp only [List.set_cons_zero, List.set_cons_succ]
      refine wpAnyL_take (i := 3) (d := some 41) (v := ?vab3) rfl rfl (by kernel_rfl) (by kernel_rfl) (by kernel_rfl) (fun _ _ _ h => h) (by rfl) ?yab3 ?_
      case yab3 => (intro w' hw'; go_simp; try (with_reducible rfl))
      simp only [Act.put]; try simp only [List.setIfInBounds_toArray]; try simp only [List.set_cons_zero, List.set_cons_succ]
      refine wpAnyL_take (i := 4) (d := some 42) (v := ?vab4) rfl rfl (by kernel_rfl) (by kernel_rfl) (by kernel_rfl) (fun _ _ _ h => h) (by rfl) ?yab4 ?_
      case yab4 => (intro w' hw'; go_simp; try (with_reducible rfl))
      simp only [Act.put]; try simp only [List.setIfInBounds_toArray]; try simp only [List.set_cons_zero, List.set_cons_succ]
      refine wpAnyL_take (i := 5) (d := some 43) (v := ?vab5) rfl rfl (by kernel_rfl) (by kernel_rfl) (by kernel_rfl) (fun _ _ _ h => h) (by rfl) ?yab5 ?_
      case yab5 => (intro w' hw'; have c4 := (XD.out.below hw').c4; go_simp; try (with_reducible rfl))
      simp only [Act.put]; try simp only [List.setIfInBounds_toArray]; try simp only [List.set_cons_zero, List.set_cons_succ]
      refine wpAnyL_take (i := 6) (d := some 44) (v := ?vab6) rfl rfl (by kernel_rfl) (by kernel_rfl) (by kernel_rfl) (fun _ _ _ h => h) (by rfl) ?yab6 ?_
      case yab6 => (intro w' hw'; go_simp; try (with_reducible rfl))
      simp only [Act.put]; try simp only [List.setIfInBounds_toArray]; try simp only [List.set_cons_zero, List.set_cons_succ]
      refine wpAnyL_take (i := 7) (d := some 45) (v := .bool false) rfl rfl (by kernel_rfl) (by kernel_rfl) (by kernel_rfl) (fun _ _ _ h => h) (by rfl) ?yab7 ?_
      case yab7 => (intro w' hw'; go_simp <;> omega)
      simp only [Act.put]; try simp only [List.setIfInBounds_toArray]; try simp only [List.set_cons_zero, List.set_cons_succ]
      refine wpAnyL_take (i := 8) (d := some 46) (v := ?vab8) rfl rfl (by kernel_rfl) (by kernel_rfl) (by kernel_rfl) (fun _ _ _ h => h) (by rfl) ?yab8 ?_
      case yab8 => (intro w' hw'; go_simp; try (with_reducible rfl))
      simp only [Act.put]; try simp only [List.setIfInBounds_toArray]; try simp only [List.set_cons_zero, List.set_cons_succ]
      refine wpAnyL_take (i := 9) (d := some 47) (v := ?vab9) rfl rfl (by kernel_rfl) (by kernel_rfl) (by kernel_rfl) (fun _ _ _ h => h) (by rfl) ?yab9 ?_
      case yab9 => (intro w' hw'; go_simp; try (with_reducible rfl))
      simp only [Act.put]; try simp only [List.setIfInBounds_toArray]; try simp only [List.set_cons_zero, List.set_cons_succ]
      refine wpAnyL_pass (i := 10) (d := some 48) rfl rfl (by kernel_rfl) (by kernel_rfl) (by kernel_rfl) (fun _ _ _ h => h) (by rfl) ?_
      try (simp only [Act.put]; try simp only [List.setIfInBounds_toArray]; try simp only [List.set_cons_zero, List.set_cons_succ])
      refine wpAnyL_pass (i := 11) (d := some 49) rfl rfl (by kernel_rfl) (by kernel_rfl) (by kernel_rfl) (fun _ _ _ h => h) (by rfl) ?_
      try (simp only [Act.put]; try simp only [List.setIfInBounds_toArray]; try simp only [List.set_cons_zero, List.set_cons_succ])
      refine wpAnyL_pass (i := 12) (d := some 50) rfl rfl (by kernel_rfl) (by kernel_rfl) (by kernel_rfl) (fun _ _ _ h => h) (by rfl) ?_
      try (simp only [Act.put]; try simp only [List.setIfInBounds_toArray]; try simp only [List.set_cons_zero, List.set_cons_succ])
      refine wpAnyL_pass (i := 13) (d := some 51) rfl rfl (by kernel_rfl) (by kernel_rfl) (by kernel_rfl) (fun _ _ _ h => h) (by rfl) ?_
      try (simp only [Act.put]; try simp only [List.setIfInBounds_toArray]; try simp only [List.set_cons_zero, List.set_cons_succ])
      refine wpAnyL_pass (i := 14) (d := some 52) rfl rfl (by kernel_rfl) (by kernel_rfl) (by kernel_rfl) (fun _ _ _ h => h) (by rfl) ?_
      try (simp only [Act.put]; try simp only [List.setIfInBounds_toArray]; try simp only [List.set_cons_zero, List.set_cons_succ])
      refine wpAnyL_pass (i := 15) (d := some 53) rfl rfl (by kernel_rfl) (by kernel_rfl) (by kernel_rfl) (fun _ _ _ h => h) (by rfl) ?_
      try (simp only [Act.put]; try simp only [List.setIfInBounds_toArray]; try simp only [List.set_cons_zero, List.set_cons_succ])
      refine wpAnyL_take (i := 16) (d := some 54) (v := ?vab16) rfl rfl (by kernel_rfl) (by kernel_rfl) (by kernel_rfl) (fun _ _ _ h => h) (by rfl) ?yab16 ?_
      case yab16 => (intro w' hw'; go_simp; try (with_reducible rfl))
      simp only [Act.put]; try simp only [List.setIfInBounds_toArray]; try simp only [List.set_cons_zero, List.set_cons_succ]
      refine wpAnyL_take (i := 17) (d := some 55) (v := ?vab17) rfl rfl (by kernel_rfl) (by kernel_rfl) (by kernel_rfl) (fun _ _ _ h => h) (by rfl) ?yab17 ?_
      case yab17 => (intro w' hw'; go_simp; try (with_reducible rfl))
      simp only [Act.put]; try simp only [List.setIfInBounds_toArray]; try simp only [List.set_cons_zero, List.set_cons_succ]
      refine wpAnyL_pass (i := 18) (d := some 56) rfl rfl (by kernel_rfl) (by kernel_rfl) (by kernel_rfl) (fun _ _ _ h => h) (by rfl) ?_
      try (simp only [Act.put]; try simp only [List.setIfInBounds_toArray]; try simp only [List.set_cons_zero, List.set_cons_succ])
      refine wpAnyL_pass (i := 19) (d := some 57) rfl rfl (by kernel_rfl) (by kernel_rfl) (by kernel_rfl) (fun _ _ _ h => h) (by rfl) ?_
      try (simp only [Act.put]; try simp only [List.setIfInBounds_toArray]; try simp only [List.set_cons_zero, List.set_cons_succ])
      refine wpAnyL_pass (i := 20) (d := some 58) rfl rfl (by kernel_rfl) (by kernel_rfl) (by kernel_rfl) (fun _ _ _ h => h) (by rfl) ?_
      try (simp only [Act.put]; try simp only [List.setIfInBounds_toArray]; try simp only [List.set_cons_zero, List.set_cons_succ])
      refine wpAnyL_pass (i := 21) (d := some 59) rfl rfl (by kernel_rfl) (by kernel_rfl) (by kernel_rfl) (fun _ _ _ h => h) (by rfl) ?_
      try (simp only [Act.put]; try simp only [List.setIfInBounds_toArray]; try simp only [List.set_cons_zero, List.set_cons_succ])
      refine wpAnyL_pass (i := 22) (d := some 60) rfl rfl (by kernel_rfl) (by kernel_rfl) (by kernel_rfl) (fun _ _ _ h => h) (by rfl) ?_
      try (simp only [Act.put]; try simp only [List.setIfInBounds_toArray]; try simp only [List.set_cons_zero, List.set_cons_succ])
      refine wpAnyL_pass (i := 23) (d := some 61) rfl rfl (by kernel_rfl) (by kernel_rfl) (by kernel_rfl) (fun _ _ _ h => h) (by rfl) ?_
      try (simp only [Act.put]; try simp only [List.setIfInBounds_toArray]; try simp only [List.set_cons_zero, List.set_cons_succ])
      refine wpAnyL_pass (i := 24) (d := some 62) rfl rfl (by kernel_rfl) (by kernel_rfl) (by kernel_rfl) (fun _ _ _ h => h) (by rfl) ?_
      try (simp only [Act.put]; try simp only [List.setIfInBounds_toArray]; try simp only [List.set_cons_zero, List.set_cons_succ])
      refine wpAnyL_pass (i := 25) (d := some 63) rfl rfl (by kernel_rfl) (by kernel_rfl) (by kernel_rfl) (fun _ _ _ h => h) (by rfl) ?_
      try (simp only [Act.put]; try simp only [List.setIfInBounds_toArray]; try simp only [List.set_cons_zero, List.set_cons_succ])
      refine wpAnyL_pass (i := 26) (d := some 64) rfl rfl (by kernel_rfl) (by kernel_rfl) (by kernel_rfl) (fun _ _ _ h => h) (by rfl) ?_
      try (simp only [Act.put]; try simp only [List.setIfInBounds_toArray]; try simp only [List.set_cons_zero, List.set_cons_succ])
      refine wpAnyL_take (i := 27) (d := some 65) (v := ?vab27) rfl rfl (by kernel_rfl) (by kernel_rfl) (by kernel_rfl) (fun _ _ _ h => h) (by rfl) ?yab27 ?_
      case yab27 => (intro w' hw'; go_simp; try (with_reducible rfl))
      simp only [Act.put]; try simp only [List.setIfInBounds_toArray]; try simp only [List.set_cons_zero, List.set_cons_succ]
      refine wpAnyL_take (i := 28) (d := some 2) (v := ?vab28) rfl rfl (by kernel_rfl) (by kernel_rfl) (by kernel_rfl) (fun _ _ _ h => h) (by rfl) ?yab28 ?_
      case yab28 => (intro w' hw'; go_simp; try (with_reducible rfl))
      simp only [Act.put]; try simp only [List.setIfInBounds_toArray]; try simp only [List.set_cons_zero, List.set_cons_succ]
      refine wpAnyL_done (by kernel_rfl) ?_ _
      go_wp2
      go_ret
      exact ⟨rfl, LD.out⟩

  · obtain rfl : R = false := by rw [HR.out, decide_eq_false g1]; rfl
    go_wp2_with (fail)
    have XD := hide (show SBox 72 g s w3.drew from X3.out)
    have LD := hide (L3.out.trans (Later.drew w3))
    have LD1 := hide (L13.out.trans (Later.drew w3))
    refine wp_region_L (by kernel_rfl) ?_
    refine wpAnyL_take (i := 0) (d := some 38) (v := ?vaa0) rfl rfl (by kernel_rfl) (by kernel_rfl) (by kernel_rfl) (fun _ _ _ h => h) (by rfl) ?yaa0 ?_
    case yaa0 => (intro w' hw'; go_simp; try (with_reducible rfl))
    simp only [Act.put]; try simp only [List.setIfInBounds_toArray]; try simp only [List.set_cons_zero, List.set_cons_succ]
    refine wpAnyL_take (i := 1) (d := some 39) (v := ?vaa1) rfl rfl (by kernel_rfl) (by kernel_rfl) (by kernel_rfl) (fun _ _ _ h => h) (by rfl) ?yaa1 ?_
    case yaa1 => (intro w' hw'; have c4 := (XD.out.below hw').c4; go_simp; try (with_reducible rfl))
    simp only [Act.put]; try simp only [List.setIfInBounds_toArray]; try simp only [List.set_cons_zero, List.set_cons_succ]
    refine wpAnyL_take (i := 2) (d := some 40) (v := .bool false) rfl rfl (by kernel_rfl) (by kernel_rfl) (by kernel_rfl) (fun _ _ _ h => h) (by rfl) ?yaa2 ?_
    case yaa2 => (intro w' hw'; go_simp <;> omega)
    simp only [Act.put]; try simp only [List.setIfInBounds_toArray]; try simp only [List.set_cons_zero, List.set_cons_succ]
    refine wpAnyL_take (i := 3) (d := some 41) (v := ?vaa3) rfl rfl (by kernel_rfl) (by kernel_rfl) (by kernel_rfl) (fun _ _ _ h => h) (by rfl) ?yaa3 ?_
    case yaa3 => (intro w' hw'; go_simp; try (with_reducible rfl))
    simp only [Act.put]; try simp only [List.setIfInBounds_toArray]; try simp only [List.set_cons_zero, List.set_cons_succ]
    refine wpAnyL_pass (i := 4) (d := some 42) rfl rfl (by kernel_rfl) (by kernel_rfl) (by kernel_rfl) (fun _ _ _ h => h) (by rfl) ?_
    try (simp only [Act.put]; try simp only [List.setIfInBounds_toArray]; try simp only [List.set_cons_zero, List.set_cons_succ])
    refine wpAnyL_pass (i := 5) (d := some 43) rfl rfl (by kernel_rfl) (by kernel_rfl) (by kernel_rfl) (fun _ _ _ h => h) (by rfl) ?_
    try (simp only [Act.put]; try simp only [List.setIfInBounds_toArray]; try simp only [List.set_cons_zero, List.set_cons_succ])
    refine wpAnyL_pass (i := 6) (d := some 44) rfl rfl (by kernel_rfl) (by kernel_rfl) (by kernel_rfl) (fun _ _ _ h => h) (by rfl) ?_
    try (simp only [Act.put]; try simp only [List.setIfInBounds_toArray]; try simp only [List.set_cons_zero, List.set_cons_succ])
    refine wpAnyL_pass (i := 7) (d := some 45) rfl rfl (by kernel_rfl) (by kernel_rfl) (by kernel_rfl) (fun _ _ _ h => h) (by rfl) ?_
    try (simp only [Act.put]; try simp only [List.setIfInBounds_toArray]; try simp only [List.set_cons_zero, List.set_cons_succ])
    refine wpAnyL_take (i := 8) (d := some 46) (v := ?vaa8) rfl rfl (by kernel_rfl) (by kernel_rfl) (by kernel_rfl) (fun _ _ _ h => h) (by rfl) ?yaa8 ?_
    case yaa8 => (intro w' hw'; go_simp; try (with_reducible rfl))
    simp only [Act.put]; try simp only [List.setIfInBounds_toArray]; try simp only [List.set_cons_zero, List.set_cons_succ]
    refine wpAnyL_take (i := 9) (d := some 47) (v := ?vaa9) rfl rfl (by kernel_rfl) (by kernel_rfl) (by kernel_rfl) (fun _ _ _ h => h) (by rfl) ?yaa9 ?_
    case yaa9 => (intro w' hw'; go_simp; try (with_reducible rfl))
    simp only [Act.put]; try simp only [List.setIfInBounds_toArray]; try simp only [List.set_cons_zero, List.set_cons_succ]
    refine wpAnyL_pass (i := 10) (d := some 48) rfl rfl (by kernel_rfl) (by kernel_rfl) (by kernel_rfl) (fun _ _ _ h => h) (by rfl) ?_
    try (simp only [Act.put]; try simp only [List.setIfInBounds_toArray]; try simp only [List.set_cons_zero, List.set_cons_succ])
    refine wpAnyL_pass (i := 11) (d := some 49) rfl rfl (by kernel_rfl) (by kernel_rfl) (by kernel_rfl) (fun _ _ _ h => h) (by rfl) ?_
    try (simp only [Act.put]; try simp only [List.setIfInBounds_toArray]; try simp only [List.set_cons_zero, List.set_cons_succ])
    refine wpAnyL_pass (i := 12) (d := some 50) rfl rfl (by kernel_rfl) (by kernel_rfl) (by kernel_rfl) (fun _ _ _ h => h) (by rfl) ?_
    try (simp only [Act.put]; try simp only [List.setIfInBounds_toArray]; try simp only [List.set_cons_zero, List.set_cons_succ])
    refine wpAnyL_pass (i := 13) (d := some 51) rfl rfl (by kernel_rfl) (by kernel_rfl) (by kernel_rfl) (fun _ _ _ h => h) (by rfl) ?_
    try (simp only [Act.put]; try simp only [List.setIfInBounds_toArray]; try simp only [List.set_cons_zero, List.set_cons_succ])
    refine wpAnyL_pass (i := 14) (d := some 52) rfl rfl (by kernel_rfl) (by kernel_rfl) (by kernel_rfl) (fun _ _ _ h => h) (by rfl) ?_
    try (simp only [Act.put]; try simp only [List.setIfInBounds_toArray]; try simp only [List.set_cons_zero, List.set_cons_succ])
    refine wpAnyL_pass (i := 15) (d := some 53) rfl rfl (by kernel_rfl) (by kernel_rfl) (by kernel_rfl) (fun _ _ _ h => h) (by rfl) ?_
    try (simp only [Act.put]; try simp only [List.setIfInBounds_toArray]; try simp only [List.set_cons_zero, List.set_cons_succ])
    refine wpAnyL_take (i := 16) (d := some 54) (v := ?vaa16) rfl rfl (by kernel_rfl) (by kernel_rfl) (by kernel_rfl) (fun _ _ _ h => h) (by rfl) ?yaa16 ?_
    case yaa16 => (intro w' hw'; go_simp; try (with_reducible rfl))
    simp only [Act.put]; try simp only [List.setIfInBounds_toArray]; try simp only [List.set_cons_zero, List.set_cons_succ]
    refine wpAnyL_take (i := 17) (d := some 55) (v := ?vaa17) rfl rfl (by kernel_rfl) (by kernel_rfl) (by kernel_rfl) (fun _ _ _ h => h) (by rfl) ?yaa17 ?_
    case yaa17 => (intro w' hw'; go_simp; try (with_reducible rfl))
    simp only [Act.put]; try simp only [List.setIfInBounds_toArray]; try simp only [List.set_cons_zero, List.set_cons_succ]
    refine wpAnyL_pass (i := 18) (d := some 56) rfl rfl (by kernel_rfl) (by kernel_rfl) (by kernel_rfl) (fun _ _ _ h => h) (by rfl) ?_
    try (simp only [Act.put]; try simp only [List.setIfInBounds_toArray]; try simp only [List.set_cons_zero, List.set_cons_succ])
    refine wpAnyL_pass (i := 19) (d := some 57) rfl rfl (by kernel_rfl) (by kernel_rfl) (by kernel_rfl) (fun _ _ _ h => h) (by rfl) ?_
    try (simp only [Act.put]; try simp only [List.setIfInBounds_toArray]; try simp only [List.set_cons_zero, List.set_cons_succ])
    refine wpAnyL_pass (i := 20) (d := some 58) rfl rfl (by kernel_rfl) (by kernel_rfl) (by kernel_rfl) (fun _ _ _ h => h) (by rfl) ?_
    try (simp only [Act.put]; try simp only [List.setIfInBounds_toArray]; try simp only [List.set_cons_zero, List.set_cons_succ])
    refine wpAnyL_pass (i := 21) (d := some 59) rfl rfl (by kernel_rfl) (by kernel_rfl) (by kernel_rfl) (fun _ _ _ h => h) (by rfl) ?_
    try (simp only [Act.put]; try simp only [List.setIfInBounds_toArray]; try simp only [List.set_cons_zero, List.set_cons_succ])
    refine wpAnyL_pass (i := 22) (d := some 60) rfl rfl (by kernel_rfl) (by kernel_rfl) (by kernel_rfl) (fun _ _ _ h => h) (by rfl) ?_
    try (simp only [Act.put]; try simp only [List.setIfInBounds_toArray]; try simp only [List.set_cons_zero, List.set_cons_succ])
    refine wpAnyL_pass (i := 23) (d := some 61) rfl rfl (by kernel_rfl) (by kernel_rfl) (by kernel_rfl) (fun _ _ _ h => h) (by rfl) ?_
    try (simp only [Act.put]; try simp only [List.setIfInBounds_toArray]; try simp only [List.set_cons_zero, List.set_cons_succ])
    refine wpAnyL_pass (i := 24) (d := some 62) rfl rfl (by kernel_rfl) (by kernel_rfl) (by kernel_rfl) (fun _ _ _ h => h) (by rfl) ?_
    try (simp only [Act.put]; try simp only [List.setIfInBounds_toArray]; try simp only [List.set_cons_zero, List.set_cons_succ])
    refine wpAnyL_pass (i := 25) (d := some 63) rfl rfl (by kernel_rfl) (by kernel_rfl) (by kernel_rfl) (fun _ _ _ h => h) (by rfl) ?_
    try (simp only [Act.put]; try simp only [List.setIfInBounds_toArray]; try simp only [List.set_cons_zero, List.set_cons_succ])
    refine wpAnyL_pass (i := 26) (d := some 64) rfl rfl (by kernel_rfl) (by kernel_rfl) (by kernel_rfl) (fun _ _ _ h => h) (by rfl) ?_
    try (simp only [Act.put]; try simp only [List.setIfInBounds_toArray]; try simp only [List.set_cons_zero, List.set_cons_succ])
    refine wpAnyL_take (i := 27) (d := some 65) (v := ?vaa27) rfl rfl (by kernel_rfl) (by kernel_rfl) (by kernel_rfl) (fun _ _ _ h => h) (by rfl) ?yaa27 ?_
    case yaa27 => (intro w' hw'; go_simp; try (with_reducible rfl))
    simp only [Act.put]; try simp only [List.setIfInBounds_toArray]; try simp only [List.set_cons_zero, List.set_cons_succ]
    refine wpAnyL_take (i := 28) (d := some 2) (v := ?vaa28) rfl rfl (by kernel_rfl) (by kernel_rfl) (by kernel_rfl) (fun _ _ _ h => h) (by rfl) ?yaa28 ?_
    case yaa28 => (intro w' hw'; go_simp; try (with_reducible rfl))
    simp only [Act.put]; try simp only [List.setIfInBounds_toArray]; try simp only [List.set_cons_zero, List.set_cons_succ]
    refine wpAnyL_done (by kernel_rfl) ?_ _
    go_wp2
    go_ret
    exact ⟨rfl, LD.out⟩

set_option maxHeartbeats 8000000 in
theorem good_done {F : Nat → Prop} {s : SagaD} {l : List StepD} (h : StepsAt F w s.v l) (hw : ∀ x ∈ l, x.wf) (h1 : I64 s.step) (he : (checkF s.name l).2 = 0) (hst : s.st = 3) : Calls Tryz.prog 61 #[s.val] w (Gives (.bool (decide (s.tr = 0) && (decide (s.step = 0) && decide (s.hit = upH (s.n : Int))))) w) := by
  obtain ⟨W1, hW1⟩ : ∃ W1, W1 = (w.alloc (.cells s.cells.toArray 72 (0, 0))) := ⟨_, rfl⟩
  obtain ⟨g, hg⟩ : ∃ g, g = w.heap.size := ⟨_, rfl⟩
  have X1 : Hid (SBox 72 g s W1) := by rw [hW1, hg]; exact heap_alloc_new _ _
  have L1 : Hid (Later w W1) := by rw [hW1]; exact (Below.refl _ _).alloc (Nat.le_refl _) _
  have HG0 : Hid (w.heap.size ≤ g) := Nat.le_of_eq hg.symm
  have CC : Hid (Calls Tryz.prog 92 #[.agg #[.string s.name, .slice s.p s.n s.c]] W1 fun e w' => e = .returned (.tuple #[.int .i64 (((checkF s.name l).1 : Nat) : Int), .int .i64 (((checkF s.name l).2 : Nat) : Int)]) ∧ Later W1 w') := check_any (StepsAt.kept h (Kept.of_below L1.out _))
  have C : Hid (∀ W, Later W1 W → Calls Tryz.prog 93 #[.agg #[.string s.name, .slice s.p s.n s.c], .int .i64 s.step] W fun e w' => e = .returned (.int .i64 (triesN l s.step)) ∧ Later W w') := fun W hW => Tries_any (StepsAt.kept h (Kept.of_below (L1.out.trans hW) _)) h1 hw
  have HS : Hid (∀ W, Later W1 W → StepsAt F W s.v l) := fun W hW => StepsAt.kept h (Kept.of_below (L1.out.trans hW) _)
  obtain ⟨k1, hk1⟩ : ∃ k1, (checkF s.name l).1 = k1 := ⟨_, rfl⟩
  obtain ⟨k2, hk2⟩ : ∃ k2, (checkF s.name l).2 = k2 := ⟨_, rfl⟩
  rw [hk1, hk2] at CC
  have HN := hide (steps_n h)
  have HW1 := hide hW1.symm
  have HG := hide hg.symm
  clear hW1 hg h hk1 h1 hw
  have e0 := X1.out.c0
  have e1 := X1.out.c1
  rw [← HW1.out, ← HG.out] at e0 e1
  obtain ⟨T, hT⟩ : ∃ T, triesN l s.step = T := ⟨_, rfl⟩
  rw [hT] at C
  obtain rfl : k2 = 0 := by rw [← hk2]; exact he
  have CU : Hid (∀ (W : World) (k : Int), k ≤ 8 → Calls Tryz.prog 95 #[.int .i64 k] W (Gives (upH k).val W)) := fun W k hk => upTo_any k hk
  obtain ⟨R, hR⟩ : ∃ R, (decide (s.tr = 0) && (decide (s.step = 0) && decide (s.hit = upH (s.n : Int)))) = R := ⟨_, rfl⟩
  rw [hR]
  have HR : Hid (R = (decide (s.tr = 0) && (decide (s.step = 0) && decide (s.hit = upH (s.n : Int))))) := hR.symm
  have h8 : s.n ≤ 8 := by rw [HN.out]; exact (check_good he).1
  clear hR hT
  clear he hk2
  go_enter Tryz.func61, Tryz.ntmps61
  go_wp2_with (fail)
  simp only [HW1.out, HG.out]
  refine CC.out.mono ?_
  rintro e w2 ⟨rfl, hl⟩
  have L12 := hide hl
  have L2 := hide (L1.out.trans hl)
  have X2 := hide (X1.out.below hl)
  clear hl CC e0 e1
  have d0 := X2.out.c0
  have d1 := X2.out.c1
  have d3 := X2.out.c3
  go_wp2_with (fail)
  refine (C.out _ L12.out).mono ?_
  rintro e w3 ⟨rfl, hl⟩
  have L13 := hide (L12.out.trans hl)
  have L3 := hide (L2.out.trans hl)
  have X3 := hide (X2.out.below hl)
  clear hl C d0 d1 d3
  have c2 := X3.out.c2
  rw [hst] at c2
  clear hst
  by_cases g1 : s.tr = 0
  · have HT0 := hide g1
    by_cases g2 : s.step = 0
    · have HS0 := hide g2
      obtain rfl : R = decide (s.hit = upH (s.n : Int)) := by rw [HR.out, decide_eq_true g1, decide_eq_true g2]; rfl
      clear g1 g2
      go_wp2_with (fail)
      have XD := hide (show SBox 72 g s w3.drew from X3.out)
      have LD := hide (L3.out.trans (Later.drew w3))
      have LD1 := hide (L13.out.trans (Later.drew w3))
      refine wp_region_L (by kernel_rfl) ?_
      refine wpAnyL_take (i := 0) (d := some 81) (v := ?vac0) rfl rfl (by kernel_rfl) (by kernel_rfl) (by kernel_rfl) (fun _ _ _ h => h) (by rfl) ?yac0 ?_
      case yac0 => (intro w' hw'; go_simp; try (with_reducible rfl))
      simp only [Act.put]; try simp only [List.setIfInBounds_toArray]; try simp only [List.set_cons_zero, List.set_cons_succ]
      refine wpAnyL_take (i := 1) (d := some 82) (v := ?vac1) rfl rfl (by kernel_rfl) (by kernel_rfl) (by kernel_rfl) (fun _ _ _ h => h) (by rfl) ?yac1 ?_
      case yac1 => (intro w' hw'; have c4 := (XD.out.below hw').c4; rw [HT0.out] at c4; go_simp; try (with_reducible rfl))
      simp only [Act.put]; try simp only [List.setIfInBounds_toArray]; try simp only [List.set_cons_zero, List.set_cons_succ]
      refine wpAnyL_take (i := 2) (d := some 83) (v := ?vac2) rfl rfl (by kernel_rfl) (by kernel_rfl) (by kernel_rfl) (fun _ _ _ h => h) (by rfl) ?yac2 ?_
      case yac2 => (intro w' hw'; go_simp; try (with_reducible rfl))
      simp only [Act.put]; try simp only [List.setIfInBounds_toArray]; try simp only [List.set_cons_zero, List.set_cons_succ]
      refine wpAnyL_take (i := 3) (d := some 84) (v := ?vac3) rfl rfl (by kernel_rfl) (by kernel_rfl) (by kernel_rfl) (fun _ _ _ h => h) (by rfl) ?yac3 ?_
      case yac3 => (intro w' hw'; go_simp; try (with_reducible rfl))
      simp only [Act.put]; try simp only [List.setIfInBounds_toArray]; try simp only [List.set_cons_zero, List.set_cons_succ]
      refine wpAnyL_take (i := 4) (d := some 85) (v := ?vac4) rfl rfl (by kernel_rfl) (by kernel_rfl) (by kernel_rfl) (fun _ _ _ h => h) (by rfl) ?yac4 ?_
      case yac4 => (intro w' hw'; go_simp; try (with_reducible rfl))
      simp only [Act.put]; try simp only [List.setIfInBounds_toArray]; try simp only [List.set_cons_zero, List.set_cons_succ]
      refine wpAnyL_take (i := 5) (d := some 86) (v := ?vac5) rfl rfl (by kernel_rfl) (by kernel_rfl) (by kernel_rfl) (fun _ _ _ h => h) (by rfl) ?yac5 ?_
      case yac5 => (intro w' hw'; have c3 := (XD.out.below hw').c3; rw [HS0.out] at c3; go_simp; try (with_reducible rfl))
      simp only [Act.put]; try simp only [List.setIfInBounds_toArray]; try simp only [List.set_cons_zero, List.set_cons_succ]
      refine wpAnyL_take (i := 6) (d := some 87) (v := ?vac6) rfl rfl (by kernel_rfl) (by kernel_rfl) (by kernel_rfl) (fun _ _ _ h => h) (by rfl) ?yac6 ?_
      case yac6 => (intro w' hw'; go_simp; try (with_reducible rfl))
      simp only [Act.put]; try simp only [List.setIfInBounds_toArray]; try simp only [List.set_cons_zero, List.set_cons_succ]
      refine wpAnyL_take (i := 7) (d := some 88) (v := ?vac7) rfl rfl (by kernel_rfl) (by kernel_rfl) (by kernel_rfl) (fun _ _ _ h => h) (by rfl) ?yac7 ?_
      case yac7 => (intro w' hw'; go_simp; try (with_reducible rfl))
      simp only [Act.put]; try simp only [List.setIfInBounds_toArray]; try simp only [List.set_cons_zero, List.set_cons_succ]
      refine wpAnyL_take (i := 8) (d := some 89) (v := ?vac8) rfl rfl (by kernel_rfl) (by kernel_rfl) (by kernel_rfl) (fun _ _ _ h => h) (by rfl) ?yac8 ?_
      case yac8 => (intro w' hw'; go_simp; try (with_reducible rfl))
      simp only [Act.put]; try simp only [List.setIfInBounds_toArray]; try simp only [List.set_cons_zero, List.set_cons_succ]
      refine wpAnyL_take (i := 9) (d := some 90) (v := ?vac9) rfl rfl (by kernel_rfl) (by kernel_rfl) (by kernel_rfl) (fun _ _ _ h => h) (by rfl) ?yac9 ?_
      case yac9 => (intro w' hw'; go_simp; try (with_reducible rfl))
      simp only [Act.put]; try simp only [List.setIfInBounds_toArray]; try simp only [List.set_cons_zero, List.set_cons_succ]
      refine wpAnyL_take (i := 10) (d := some 91) (v := s.hit.val) rfl rfl (by kernel_rfl) (by kernel_rfl) (by kernel_rfl) (fun _ _ _ h => h) (by rfl) ?yac10 ?_
      case yac10 => (intro w' hw'; exact exec_load_hits _ (by rfl) (by rfl) (XD.out.below hw'))
      simp only [Act.put]; try simp only [List.setIfInBounds_toArray]; try simp only [List.set_cons_zero, List.set_cons_succ]
      refine wpAnyL_take (i := 11) (d := some 92) (v := ?vac11) rfl rfl (by kernel_rfl) (by kernel_rfl) (by kernel_rfl) (fun _ _ _ h => h) (by rfl) ?yac11 ?_
      case yac11 => (intro w' hw'; go_simp; try (with_reducible rfl))
      simp only [Act.put]; try simp only [List.setIfInBounds_toArray]; try simp only [List.set_cons_zero, List.set_cons_succ]
      refine wpAnyL_take (i := 12) (d := some 93) (v := ?vac12) rfl rfl (by kernel_rfl) (by kernel_rfl) (by kernel_rfl) (fun _ _ _ h => h) (by rfl) ?yac12 ?_
      case yac12 => (intro w' hw'; go_simp; try (with_reducible rfl))
      simp only [Act.put]; try simp only [List.setIfInBounds_toArray]; try simp only [List.set_cons_zero, List.set_cons_succ]
      refine wpAnyL_take (i := 13) (d := some 94) (v := ?vac13) rfl rfl (by kernel_rfl) (by kernel_rfl) (by kernel_rfl) (fun _ _ _ h => h) (by rfl) ?yac13 ?_
      case yac13 => (intro w' hw'; have c1 := (XD.out.below hw').c1; go_simp; try (with_reducible rfl))
      simp only [Act.put]; try simp only [List.setIfInBounds_toArray]; try simp only [List.set_cons_zero, List.set_cons_succ]
      refine wpAnyL_take (i := 14) (d := some 95) (v := ?vac14) rfl rfl (by kernel_rfl) (by kernel_rfl) (by kernel_rfl) (fun _ _ _ h => h) (by rfl) ?yac14 ?_
      case yac14 => (intro w' hw'; go_simp; try (with_reducible rfl))
      simp only [Act.put]; try simp only [List.setIfInBounds_toArray]; try simp only [List.set_cons_zero, List.set_cons_succ]
      refine wpAnyL_only (i := 15) rfl (by kernel_rfl) (by rfl) fun K hK => ?_
      go_simp
      refine (CU.out _ ((s.n : Int)) (by omega)).mono ?_
      rintro e w_15 ⟨rfl, hl_⟩
      have L15 := hide (LD.out.trans hl_)
      have L115 := hide (LD1.out.trans hl_)
      have L315 := hide ((Later.drew w3).trans hl_)
      have X15 := hide (XD.out.below hl_)
      refine hK.out _ _ hl_ ?_
      clear hl_
      clear hK K
      try (simp only [Act.put]; try simp only [List.setIfInBounds_toArray]; try simp only [List.set_cons_zero, List.set_cons_succ])
      refine wpAnyL_take (i := 16) (d := some 97) (v := .bool (decide (s.hit = upH ((s.n : Int))))) rfl rfl (by kernel_rfl) (by kernel_rfl) (by kernel_rfl) (fun _ _ _ h => h) (by rfl) ?yac16 ?_
      case yac16 => (intro w' hw'; exact exec_eql_hits s.hit (upH ((s.n : Int))) _ _ _ (by rfl) (by rfl) (by rfl))
      simp only [Act.put]; try simp only [List.setIfInBounds_toArray]; try simp only [List.set_cons_zero, List.set_cons_succ]
      refine wpAnyL_take (i := 17) (d := some 98) (v := ?vac17) rfl rfl (by kernel_rfl) (by kernel_rfl) (by kernel_rfl) (fun _ _ _ h => h) (by rfl) ?yac17 ?_
      case yac17 => (intro w' hw'; go_simp; try (with_reducible rfl))
      simp only [Act.put]; try simp only [List.setIfInBounds_toArray]; try simp only [List.set_cons_zero, List.set_cons_succ]
      refine wpAnyL_take (i := 18) (d := some 2) (v := ?vac18) rfl rfl (by kernel_rfl) (by kernel_rfl) (by kernel_rfl) (fun _ _ _ h => h) (by rfl) ?yac18 ?_
      case yac18 => (intro w' hw'; go_simp; try (with_reducible rfl))
      simp only [Act.put]; try simp only [List.setIfInBounds_toArray]; try simp only [List.set_cons_zero, List.set_cons_succ]
      refine wpAnyL_done (by kernel_rfl) ?_ _
      go_wp2
      go_ret
      exact ⟨rfl, L15.out⟩

    · obtain rfl : R = false := by rw [HR.out, decide_eq_true g1, decide_eq_false g2]; rfl
      have hb : (s.step == 0) = false := by rw [beq_eq_false_iff_ne]; exact g2
      clear g1 g2
      go_wp2_with (fail)
      have XD := hide (show SBox 72 g s w3.drew from X3.out)
      have LD := hide (L3.out.trans (Later.drew w3))
      have LD1 := hide (L13.out.trans (Later.drew w3))
      refine wp_region_L (by kernel_rfl) ?_
      refine wpAnyL_take (i := 0) (d := some 81) (v := ?vab0) rfl rfl (by kernel_rfl) (by kernel_rfl) (by kernel_rfl) (fun _ _ _ h => h) (by rfl) ?yab0 ?_
      case yab0 => (intro w' hw'; go_simp; try (with_reducible rfl))
      simp only [Act.put]; try simp only [List.setIfInBounds_toArray]; try simp only [List.set_cons_zero, List.set_cons_succ]
      refine wpAnyL_take (i := 1) (d := some 82) (v := ?vab1) rfl rfl (by kernel_rfl) (by kernel_rfl) (by kernel_rfl) (fun _ _ _ h => h) (by rfl) ?yab1 ?_
      case yab1 => (intro w' hw'; have c4 := (XD.out.below hw').c4; rw [HT0.out] at c4; go_simp; try (with_reducible rfl))
      simp only [Act.put]; try simp only [List.setIfInBounds_toArray]; try simp only [List.set_cons_zero, List.set_cons_succ]
      refine wpAnyL_take (i := 2) (d := some 83) (v := ?vab2) rfl rfl (by kernel_rfl) (by kernel_rfl) (by kernel_rfl) (fun _ _ _ h => h) (by rfl) ?yab2 ?_
      case yab2 => (intro w' hw'; go_simp; try (with_reducible rfl))
      simp only [Act.put]; try simp only [List.setIfInBounds_toArray]; try simp only [List.set_cons_zero, List.set_cons_succ]
      refine wpAnyL_take (i := 3) (d := some 84) (v := ?vab3) rfl rfl (by kernel_rfl) (by kernel_rfl) (by kernel_rfl) (fun _ _ _ h => h) (by rfl) ?yab3 ?_
      case yab3 => (intro w' hw'; go_simp; try (with_reducible rfl))
      simp only [Act.put]; try simp only [List.setIfInBounds_toArray]; try simp only [List.set_cons_zero, List.set_cons_succ]
      refine wpAnyL_take (i := 4) (d := some 85) (v := ?vab4) rfl rfl (by kernel_rfl) (by kernel_rfl) (by kernel_rfl) (fun _ _ _ h => h) (by rfl) ?yab4 ?_
      case yab4 => (intro w' hw'; go_simp; try (with_reducible rfl))
      simp only [Act.put]; try simp only [List.setIfInBounds_toArray]; try simp only [List.set_cons_zero, List.set_cons_succ]
      refine wpAnyL_take (i := 5) (d := some 86) (v := ?vab5) rfl rfl (by kernel_rfl) (by kernel_rfl) (by kernel_rfl) (fun _ _ _ h => h) (by rfl) ?yab5 ?_
      case yab5 => (intro w' hw'; have c3 := (XD.out.below hw').c3; go_simp; try (with_reducible rfl))
      simp only [Act.put]; try simp only [List.setIfInBounds_toArray]; try simp only [List.set_cons_zero, List.set_cons_succ]
      refine wpAnyL_take (i := 6) (d := some 87) (v := ?vab6) rfl rfl (by kernel_rfl) (by kernel_rfl) (by kernel_rfl) (fun _ _ _ h => h) (by rfl) ?yab6 ?_
      case yab6 => (intro w' hw'; go_simp; try (with_reducible rfl))
      simp only [Act.put]; try simp only [List.setIfInBounds_toArray]; try simp only [List.set_cons_zero, List.set_cons_succ]
      refine wpAnyL_take (i := 7) (d := some 88) (v := ?vab7) rfl rfl (by kernel_rfl) (by kernel_rfl) (by kernel_rfl) (fun _ _ _ h => h) (by rfl) ?yab7 ?_
      case yab7 => (intro w' hw'; go_simp; try (with_reducible rfl))
      simp only [Act.put]; try simp only [List.setIfInBounds_toArray]; try simp only [List.set_cons_zero, List.set_cons_succ]
      refine wpAnyL_take (i := 8) (d := some 89) (v := ?vab8) rfl rfl (by kernel_rfl) (by kernel_rfl) (by kernel_rfl) (fun _ _ _ h => h) (by rfl) ?yab8 ?_
      case yab8 => (intro w' hw'; go_simp; try (with_reducible rfl))
      simp only [Act.put]; try simp only [List.setIfInBounds_toArray]; try simp only [List.set_cons_zero, List.set_cons_succ]
      refine wpAnyL_pass (i := 9) (d := some 90) rfl rfl (by kernel_rfl) (by kernel_rfl) (by kernel_rfl) (fun _ _ _ h => h) (by rfl) ?_
      try (simp only [Act.put]; try simp only [List.setIfInBounds_toArray]; try simp only [List.set_cons_zero, List.set_cons_succ])
      refine wpAnyL_pass (i := 10) (d := some 91) rfl rfl (by kernel_rfl) (by kernel_rfl) (by kernel_rfl) (fun _ _ _ h => h) (by rfl) ?_
      try (simp only [Act.put]; try simp only [List.setIfInBounds_toArray]; try simp only [List.set_cons_zero, List.set_cons_succ])
      refine wpAnyL_pass (i := 11) (d := some 92) rfl rfl (by kernel_rfl) (by kernel_rfl) (by kernel_rfl) (fun _ _ _ h => h) (by rfl) ?_
      try (simp only [Act.put]; try simp only [List.setIfInBounds_toArray]; try simp only [List.set_cons_zero, List.set_cons_succ])
      refine wpAnyL_pass (i := 12) (d := some 93) rfl rfl (by kernel_rfl) (by kernel_rfl) (by kernel_rfl) (fun _ _ _ h => h) (by rfl) ?_
      try (simp only [Act.put]; try simp only [List.setIfInBounds_toArray]; try simp only [List.set_cons_zero, List.set_cons_succ])
      refine wpAnyL_pass (i := 13) (d := some 94) rfl rfl (by kernel_rfl) (by kernel_rfl) (by kernel_rfl) (fun _ _ _ h => h) (by rfl) ?_
      try (simp only [Act.put]; try simp only [List.setIfInBounds_toArray]; try simp only [List.set_cons_zero, List.set_cons_succ])
      refine wpAnyL_pass (i := 14) (d := some 95) rfl rfl (by kernel_rfl) (by kernel_rfl) (by kernel_rfl) (fun _ _ _ h => h) (by rfl) ?_
      try (simp only [Act.put]; try simp only [List.setIfInBounds_toArray]; try simp only [List.set_cons_zero, List.set_cons_succ])
      refine wpAnyL_pass (i := 15) (d := some 96) rfl rfl (by kernel_rfl) (by kernel_rfl) (by kernel_rfl) (fun _ _ _ h => h) (by rfl) ?_
      try (simp only [Act.put]; try simp only [List.setIfInBounds_toArray]; try simp only [List.set_cons_zero, List.set_cons_succ])
      refine wpAnyL_pass (i := 16) (d := some 97) rfl rfl (by kernel_rfl) (by kernel_rfl) (by kernel_rfl) (fun _ _ _ h => h) (by rfl) ?_
      try (simp only [Act.put]; try simp only [List.setIfInBounds_toArray]; try simp only [List.set_cons_zero, List.set_cons_succ])
      refine wpAnyL_take (i := 17) (d := some 98) (v := ?vab17) rfl rfl (by kernel_rfl) (by kernel_rfl) (by kernel_rfl) (fun _ _ _ h => h) (by rfl) ?yab17 ?_
      case yab17 => (intro w' hw'; go_simp; try (with_reducible rfl))
      simp only [Act.put]; try simp only [List.setIfInBounds_toArray]; try simp only [List.set_cons_zero, List.set_cons_succ]
      refine wpAnyL_take (i := 18) (d := some 2) (v := ?vab18) rfl rfl (by kernel_rfl) (by kernel_rfl) (by kernel_rfl) (fun _ _ _ h => h) (by rfl) ?yab18 ?_
      case yab18 => (intro w' hw'; go_simp; try (with_reducible rfl))
      simp only [Act.put]; try simp only [List.setIfInBounds_toArray]; try simp only [List.set_cons_zero, List.set_cons_succ]
      refine wpAnyL_done (by kernel_rfl) ?_ _
      go_wp2
      go_ret
      exact ⟨rfl, LD.out⟩

  · obtain rfl : R = false := by rw [HR.out, decide_eq_false g1]; rfl
    have hb : (s.tr == 0) = false := by rw [beq_eq_false_iff_ne]; exact g1
    clear g1
    go_wp2_with (fail)
    have XD := hide (show SBox 72 g s w3.drew from X3.out)
    have LD := hide (L3.out.trans (Later.drew w3))
    have LD1 := hide (L13.out.trans (Later.drew w3))
    refine wp_region_L (by kernel_rfl) ?_
    refine wpAnyL_take (i := 0) (d := some 81) (v := ?vaa0) rfl rfl (by kernel_rfl) (by kernel_rfl) (by kernel_rfl) (fun _ _ _ h => h) (by rfl) ?yaa0 ?_
    case yaa0 => (intro w' hw'; go_simp; try (with_reducible rfl))
    simp only [Act.put]; try simp only [List.setIfInBounds_toArray]; try simp only [List.set_cons_zero, List.set_cons_succ]
    refine wpAnyL_take (i := 1) (d := some 82) (v := ?vaa1) rfl rfl (by kernel_rfl) (by kernel_rfl) (by kernel_rfl) (fun _ _ _ h => h) (by rfl) ?yaa1 ?_
    case yaa1 => (intro w' hw'; have c4 := (XD.out.below hw').c4; go_simp; try (with_reducible rfl))
    simp only [Act.put]; try simp only [List.setIfInBounds_toArray]; try simp only [List.set_cons_zero, List.set_cons_succ]
    refine wpAnyL_take (i := 2) (d := some 83) (v := ?vaa2) rfl rfl (by kernel_rfl) (by kernel_rfl) (by kernel_rfl) (fun _ _ _ h => h) (by rfl) ?yaa2 ?_
    case yaa2 => (intro w' hw'; go_simp; try (with_reducible rfl))
    simp only [Act.put]; try simp only [List.setIfInBounds_toArray]; try simp only [List.set_cons_zero, List.set_cons_succ]
    refine wpAnyL_take (i := 3) (d := some 84) (v := ?vaa3) rfl rfl (by kernel_rfl) (by kernel_rfl) (by kernel_rfl) (fun _ _ _ h => h) (by rfl) ?yaa3 ?_
    case yaa3 => (intro w' hw'; go_simp; try (with_reducible rfl))
    simp only [Act.put]; try simp only [List.setIfInBounds_toArray]; try simp only [List.set_cons_zero, List.set_cons_succ]
    refine wpAnyL_pass (i := 4) (d := some 85) rfl rfl (by kernel_rfl) (by kernel_rfl) (by kernel_rfl) (fun _ _ _ h => h) (by rfl) ?_
    try (simp only [Act.put]; try simp only [List.setIfInBounds_toArray]; try simp only [List.set_cons_zero, List.set_cons_succ])
    refine wpAnyL_pass (i := 5) (d := some 86) rfl rfl (by kernel_rfl) (by kernel_rfl) (by kernel_rfl) (fun _ _ _ h => h) (by rfl) ?_
    try (simp only [Act.put]; try simp only [List.setIfInBounds_toArray]; try simp only [List.set_cons_zero, List.set_cons_succ])
    refine wpAnyL_pass (i := 6) (d := some 87) rfl rfl (by kernel_rfl) (by kernel_rfl) (by kernel_rfl) (fun _ _ _ h => h) (by rfl) ?_
    try (simp only [Act.put]; try simp only [List.setIfInBounds_toArray]; try simp only [List.set_cons_zero, List.set_cons_succ])
    refine wpAnyL_take (i := 7) (d := some 88) (v := ?vaa7) rfl rfl (by kernel_rfl) (by kernel_rfl) (by kernel_rfl) (fun _ _ _ h => h) (by rfl) ?yaa7 ?_
    case yaa7 => (intro w' hw'; go_simp; try (with_reducible rfl))
    simp only [Act.put]; try simp only [List.setIfInBounds_toArray]; try simp only [List.set_cons_zero, List.set_cons_succ]
    refine wpAnyL_take (i := 8) (d := some 89) (v := ?vaa8) rfl rfl (by kernel_rfl) (by kernel_rfl) (by kernel_rfl) (fun _ _ _ h => h) (by rfl) ?yaa8 ?_
    case yaa8 => (intro w' hw'; go_simp; try (with_reducible rfl))
    simp only [Act.put]; try simp only [List.setIfInBounds_toArray]; try simp only [List.set_cons_zero, List.set_cons_succ]
    refine wpAnyL_pass (i := 9) (d := some 90) rfl rfl (by kernel_rfl) (by kernel_rfl) (by kernel_rfl) (fun _ _ _ h => h) (by rfl) ?_
    try (simp only [Act.put]; try simp only [List.setIfInBounds_toArray]; try simp only [List.set_cons_zero, List.set_cons_succ])
    refine wpAnyL_pass (i := 10) (d := some 91) rfl rfl (by kernel_rfl) (by kernel_rfl) (by kernel_rfl) (fun _ _ _ h => h) (by rfl) ?_
    try (simp only [Act.put]; try simp only [List.setIfInBounds_toArray]; try simp only [List.set_cons_zero, List.set_cons_succ])
    refine wpAnyL_pass (i := 11) (d := some 92) rfl rfl (by kernel_rfl) (by kernel_rfl) (by kernel_rfl) (fun _ _ _ h => h) (by rfl) ?_
    try (simp only [Act.put]; try simp only [List.setIfInBounds_toArray]; try simp only [List.set_cons_zero, List.set_cons_succ])
    refine wpAnyL_pass (i := 12) (d := some 93) rfl rfl (by kernel_rfl) (by kernel_rfl) (by kernel_rfl) (fun _ _ _ h => h) (by rfl) ?_
    try (simp only [Act.put]; try simp only [List.setIfInBounds_toArray]; try simp only [List.set_cons_zero, List.set_cons_succ])
    refine wpAnyL_pass (i := 13) (d := some 94) rfl rfl (by kernel_rfl) (by kernel_rfl) (by kernel_rfl) (fun _ _ _ h => h) (by rfl) ?_
    try (simp only [Act.put]; try simp only [List.setIfInBounds_toArray]; try simp only [List.set_cons_zero, List.set_cons_succ])
    refine wpAnyL_pass (i := 14) (d := some 95) rfl rfl (by kernel_rfl) (by kernel_rfl) (by kernel_rfl) (fun _ _ _ h => h) (by rfl) ?_
    try (simp only [Act.put]; try simp only [List.setIfInBounds_toArray]; try simp only [List.set_cons_zero, List.set_cons_succ])
    refine wpAnyL_pass (i := 15) (d := some 96) rfl rfl (by kernel_rfl) (by kernel_rfl) (by kernel_rfl) (fun _ _ _ h => h) (by rfl) ?_
    try (simp only [Act.put]; try simp only [List.setIfInBounds_toArray]; try simp only [List.set_cons_zero, List.set_cons_succ])
    refine wpAnyL_pass (i := 16) (d := some 97) rfl rfl (by kernel_rfl) (by kernel_rfl) (by kernel_rfl) (fun _ _ _ h => h) (by rfl) ?_
    try (simp only [Act.put]; try simp only [List.setIfInBounds_toArray]; try simp only [List.set_cons_zero, List.set_cons_succ])
    refine wpAnyL_take (i := 17) (d := some 98) (v := ?vaa17) rfl rfl (by kernel_rfl) (by kernel_rfl) (by kernel_rfl) (fun _ _ _ h => h) (by rfl) ?yaa17 ?_
    case yaa17 => (intro w' hw'; go_simp; try (with_reducible rfl))
    simp only [Act.put]; try simp only [List.setIfInBounds_toArray]; try simp only [List.set_cons_zero, List.set_cons_succ]
    refine wpAnyL_take (i := 18) (d := some 2) (v := ?vaa18) rfl rfl (by kernel_rfl) (by kernel_rfl) (by kernel_rfl) (fun _ _ _ h => h) (by rfl) ?yaa18 ?_
    case yaa18 => (intro w' hw'; go_simp; try (with_reducible rfl))
    simp only [Act.put]; try simp only [List.setIfInBounds_toArray]; try simp only [List.set_cons_zero, List.set_cons_succ]
    refine wpAnyL_done (by kernel_rfl) ?_ _
    go_wp2
    go_ret
    exact ⟨rfl, LD.out⟩

set_option maxHeartbeats 8000000 in
theorem good_gone {F : Nat → Prop} {s : SagaD} {l : List StepD} (h : StepsAt F w s.v l) (hw : ∀ x ∈ l, x.wf) (h1 : I64 s.step) (he : (checkF s.name l).2 = 0) (hst : s.st = 4) : Calls Tryz.prog 61 #[s.val] w (Gives (.bool (decide (s.tr = 0) && (decide (s.step = 0) && decide (s.hit = upH 0)))) w) := by
  obtain ⟨W1, hW1⟩ : ∃ W1, W1 = (w.alloc (.cells s.cells.toArray 72 (0, 0))) := ⟨_, rfl⟩
  obtain ⟨g, hg⟩ : ∃ g, g = w.heap.size := ⟨_, rfl⟩
  have X1 : Hid (SBox 72 g s W1) := by rw [hW1, hg]; exact heap_alloc_new _ _
  have L1 : Hid (Later w W1) := by rw [hW1]; exact (Below.refl _ _).alloc (Nat.le_refl _) _
  have HG0 : Hid (w.heap.size ≤ g) := Nat.le_of_eq hg.symm
  have CC : Hid (Calls Tryz.prog 92 #[.agg #[.string s.name, .slice s.p s.n s.c]] W1 fun e w' => e = .returned (.tuple #[.int .i64 (((checkF s.name l).1 : Nat) : Int), .int .i64 (((checkF s.name l).2 : Nat) : Int)]) ∧ Later W1 w') := check_any (StepsAt.kept h (Kept.of_below L1.out _))
  have C : Hid (∀ W, Later W1 W → Calls Tryz.prog 93 #[.agg #[.string s.name, .slice s.p s.n s.c], .int .i64 s.step] W fun e w' => e = .returned (.int .i64 (triesN l s.step)) ∧ Later W w') := fun W hW => Tries_any (StepsAt.kept h (Kept.of_below (L1.out.trans hW) _)) h1 hw
  have HS : Hid (∀ W, Later W1 W → StepsAt F W s.v l) := fun W hW => StepsAt.kept h (Kept.of_below (L1.out.trans hW) _)
  obtain ⟨k1, hk1⟩ : ∃ k1, (checkF s.name l).1 = k1 := ⟨_, rfl⟩
  obtain ⟨k2, hk2⟩ : ∃ k2, (checkF s.name l).2 = k2 := ⟨_, rfl⟩
  rw [hk1, hk2] at CC
  have HN := hide (steps_n h)
  have HW1 := hide hW1.symm
  have HG := hide hg.symm
  clear hW1 hg h hk1 h1 hw
  have e0 := X1.out.c0
  have e1 := X1.out.c1
  rw [← HW1.out, ← HG.out] at e0 e1
  obtain ⟨T, hT⟩ : ∃ T, triesN l s.step = T := ⟨_, rfl⟩
  rw [hT] at C
  obtain rfl : k2 = 0 := by rw [← hk2]; exact he
  have CU : Hid (∀ (W : World) (k : Int), k ≤ 8 → Calls Tryz.prog 95 #[.int .i64 k] W (Gives (upH k).val W)) := fun W k hk => upTo_any k hk
  obtain ⟨R, hR⟩ : ∃ R, (decide (s.tr = 0) && (decide (s.step = 0) && decide (s.hit = upH 0))) = R := ⟨_, rfl⟩
  rw [hR]
  have HR : Hid (R = (decide (s.tr = 0) && (decide (s.step = 0) && decide (s.hit = upH 0)))) := hR.symm
  have h8 : s.n ≤ 8 := by rw [HN.out]; exact (check_good he).1
  clear hR hT
  clear he hk2
  go_enter Tryz.func61, Tryz.ntmps61
  go_wp2_with (fail)
  simp only [HW1.out, HG.out]
  refine CC.out.mono ?_
  rintro e w2 ⟨rfl, hl⟩
  have L12 := hide hl
  have L2 := hide (L1.out.trans hl)
  have X2 := hide (X1.out.below hl)
  clear hl CC e0 e1
  have d0 := X2.out.c0
  have d1 := X2.out.c1
  have d3 := X2.out.c3
  go_wp2_with (fail)
  refine (C.out _ L12.out).mono ?_
  rintro e w3 ⟨rfl, hl⟩
  have L13 := hide (L12.out.trans hl)
  have L3 := hide (L2.out.trans hl)
  have X3 := hide (X2.out.below hl)
  clear hl C d0 d1 d3
  have c2 := X3.out.c2
  rw [hst] at c2
  clear hst
  by_cases g1 : s.tr = 0
  · have HT0 := hide g1
    by_cases g2 : s.step = 0
    · have HS0 := hide g2
      obtain rfl : R = decide (s.hit = upH 0) := by rw [HR.out, decide_eq_true g1, decide_eq_true g2]; rfl
      clear g1 g2
      go_wp2_with (fail)
      have XD := hide (show SBox 72 g s w3.drew from X3.out)
      have LD := hide (L3.out.trans (Later.drew w3))
      have LD1 := hide (L13.out.trans (Later.drew w3))
      refine wp_region_L (by kernel_rfl) ?_
      refine wpAnyL_take (i := 0) (d := some 101) (v := ?vac0) rfl rfl (by kernel_rfl) (by kernel_rfl) (by kernel_rfl) (fun _ _ _ h => h) (by rfl) ?yac0 ?_
      case yac0 => (intro w' hw'; go_simp; try (with_reducible rfl))
      simp only [Act.put]; try simp only [List.setIfInBounds_toArray]; try simp only [List.set_cons_zero, List.set_cons_succ]
      refine wpAnyL_take (i := 1) (d := some 102) (v := ?vac1) rfl rfl (by kernel_rfl) (by kernel_rfl) (by kernel_rfl) (fun _ _ _ h => h) (by rfl) ?yac1 ?_
      case yac1 => (intro w' hw'; have c4 := (XD.out.below hw').c4; rw [HT0.out] at c4; go_simp; try (with_reducible rfl))
      simp only [Act.put]; try simp only [List.setIfInBounds_toArray]; try simp only [List.set_cons_zero, List.set_cons_succ]
      refine wpAnyL_take (i := 2) (d := some 103) (v := ?vac2) rfl rfl (by kernel_rfl) (by kernel_rfl) (by kernel_rfl) (fun _ _ _ h => h) (by rfl) ?yac2 ?_
      case yac2 => (intro w' hw'; go_simp; try (with_reducible rfl))
      simp only [Act.put]; try simp only [List.setIfInBounds_toArray]; try simp only [List.set_cons_zero, List.set_cons_succ]
      refine wpAnyL_take (i := 3) (d := some 104) (v := ?vac3) rfl rfl (by kernel_rfl) (by kernel_rfl) (by kernel_rfl) (fun _ _ _ h => h) (by rfl) ?yac3 ?_
      case yac3 => (intro w' hw'; go_simp; try (with_reducible rfl))
      simp only [Act.put]; try simp only [List.setIfInBounds_toArray]; try simp only [List.set_cons_zero, List.set_cons_succ]
      refine wpAnyL_take (i := 4) (d := some 105) (v := ?vac4) rfl rfl (by kernel_rfl) (by kernel_rfl) (by kernel_rfl) (fun _ _ _ h => h) (by rfl) ?yac4 ?_
      case yac4 => (intro w' hw'; go_simp; try (with_reducible rfl))
      simp only [Act.put]; try simp only [List.setIfInBounds_toArray]; try simp only [List.set_cons_zero, List.set_cons_succ]
      refine wpAnyL_take (i := 5) (d := some 106) (v := ?vac5) rfl rfl (by kernel_rfl) (by kernel_rfl) (by kernel_rfl) (fun _ _ _ h => h) (by rfl) ?yac5 ?_
      case yac5 => (intro w' hw'; have c3 := (XD.out.below hw').c3; rw [HS0.out] at c3; go_simp; try (with_reducible rfl))
      simp only [Act.put]; try simp only [List.setIfInBounds_toArray]; try simp only [List.set_cons_zero, List.set_cons_succ]
      refine wpAnyL_take (i := 6) (d := some 107) (v := ?vac6) rfl rfl (by kernel_rfl) (by kernel_rfl) (by kernel_rfl) (fun _ _ _ h => h) (by rfl) ?yac6 ?_
      case yac6 => (intro w' hw'; go_simp; try (with_reducible rfl))
      simp only [Act.put]; try simp only [List.setIfInBounds_toArray]; try simp only [List.set_cons_zero, List.set_cons_succ]
      refine wpAnyL_take (i := 7) (d := some 108) (v := ?vac7) rfl rfl (by kernel_rfl) (by kernel_rfl) (by kernel_rfl) (fun _ _ _ h => h) (by rfl) ?yac7 ?_
      case yac7 => (intro w' hw'; go_simp; try (with_reducible rfl))
      simp only [Act.put]; try simp only [List.setIfInBounds_toArray]; try simp only [List.set_cons_zero, List.set_cons_succ]
      refine wpAnyL_take (i := 8) (d := some 109) (v := ?vac8) rfl rfl (by kernel_rfl) (by kernel_rfl) (by kernel_rfl) (fun _ _ _ h => h) (by rfl) ?yac8 ?_
      case yac8 => (intro w' hw'; go_simp; try (with_reducible rfl))
      simp only [Act.put]; try simp only [List.setIfInBounds_toArray]; try simp only [List.set_cons_zero, List.set_cons_succ]
      refine wpAnyL_take (i := 9) (d := some 110) (v := ?vac9) rfl rfl (by kernel_rfl) (by kernel_rfl) (by kernel_rfl) (fun _ _ _ h => h) (by rfl) ?yac9 ?_
      case yac9 => (intro w' hw'; go_simp; try (with_reducible rfl))
      simp only [Act.put]; try simp only [List.setIfInBounds_toArray]; try simp only [List.set_cons_zero, List.set_cons_succ]
      refine wpAnyL_take (i := 10) (d := some 111) (v := s.hit.val) rfl rfl (by kernel_rfl) (by kernel_rfl) (by kernel_rfl) (fun _ _ _ h => h) (by rfl) ?yac10 ?_
      case yac10 => (intro w' hw'; exact exec_load_hits _ (by rfl) (by rfl) (XD.out.below hw'))
      simp only [Act.put]; try simp only [List.setIfInBounds_toArray]; try simp only [List.set_cons_zero, List.set_cons_succ]
      refine wpAnyL_only (i := 11) rfl (by kernel_rfl) (by rfl) fun K hK => ?_
      go_simp
      refine (CU.out _ (0) (by omega)).mono ?_
      rintro e w_11 ⟨rfl, hl_⟩
      have L11 := hide (LD.out.trans hl_)
      have L111 := hide (LD1.out.trans hl_)
      have L311 := hide ((Later.drew w3).trans hl_)
      have X11 := hide (XD.out.below hl_)
      refine hK.out _ _ hl_ ?_
      clear hl_
      clear hK K
      try (simp only [Act.put]; try simp only [List.setIfInBounds_toArray]; try simp only [List.set_cons_zero, List.set_cons_succ])
      refine wpAnyL_take (i := 12) (d := some 113) (v := .bool (decide (s.hit = upH (0)))) rfl rfl (by kernel_rfl) (by kernel_rfl) (by kernel_rfl) (fun _ _ _ h => h) (by rfl) ?yac12 ?_
      case yac12 => (intro w' hw'; exact exec_eql_hits s.hit (upH (0)) _ _ _ (by rfl) (by rfl) (by rfl))
      simp only [Act.put]; try simp only [List.setIfInBounds_toArray]; try simp only [List.set_cons_zero, List.set_cons_succ]
      refine wpAnyL_take (i := 13) (d := some 114) (v := ?vac13) rfl rfl (by kernel_rfl) (by kernel_rfl) (by kernel_rfl) (fun _ _ _ h => h) (by rfl) ?yac13 ?_
      case yac13 => (intro w' hw'; go_simp; try (with_reducible rfl))
      simp only [Act.put]; try simp only [List.setIfInBounds_toArray]; try simp only [List.set_cons_zero, List.set_cons_succ]
      refine wpAnyL_take (i := 14) (d := some 2) (v := ?vac14) rfl rfl (by kernel_rfl) (by kernel_rfl) (by kernel_rfl) (fun _ _ _ h => h) (by rfl) ?yac14 ?_
      case yac14 => (intro w' hw'; go_simp; try (with_reducible rfl))
      simp only [Act.put]; try simp only [List.setIfInBounds_toArray]; try simp only [List.set_cons_zero, List.set_cons_succ]
      refine wpAnyL_done (by kernel_rfl) ?_ _
      go_wp2
      go_ret
      exact ⟨rfl, L11.out⟩

    · obtain rfl : R = false := by rw [HR.out, decide_eq_true g1, decide_eq_false g2]; rfl
      have hb : (s.step == 0) = false := by rw [beq_eq_false_iff_ne]; exact g2
      clear g1 g2
      go_wp2_with (fail)
      have XD := hide (show SBox 72 g s w3.drew from X3.out)
      have LD := hide (L3.out.trans (Later.drew w3))
      have LD1 := hide (L13.out.trans (Later.drew w3))
      refine wp_region_L (by kernel_rfl) ?_
      refine wpAnyL_take (i := 0) (d := some 101) (v := ?vab0) rfl rfl (by kernel_rfl) (by kernel_rfl) (by kernel_rfl) (fun _ _ _ h => h) (by rfl) ?yab0 ?_
      case yab0 => (intro w' hw'; go_simp; try (with_reducible rfl))
      simp only [Act.put]; try simp only [List.setIfInBounds_toArray]; try simp only [List.set_cons_zero, List.set_cons_succ]
      refine wpAnyL_take (i := 1) (d := some 102) (v := ?vab1) rfl rfl (by kernel_rfl) (by kernel_rfl) (by kernel_rfl) (fun _ _ _ h => h) (by rfl) ?yab1 ?_
      case yab1 => (intro w' hw'; have c4 := (XD.out.below hw').c4; rw [HT0.out] at c4; go_simp; try (with_reducible rfl))
      simp only [Act.put]; try simp only [List.setIfInBounds_toArray]; try simp only [List.set_cons_zero, List.set_cons_succ]
      refine wpAnyL_take (i := 2) (d := some 103) (v := ?vab2) rfl rfl (by kernel_rfl) (by kernel_rfl) (by kernel_rfl) (fun _ _ _ h => h) (by rfl) ?yab2 ?_
      case yab2 => (intro w' hw'; go_simp; try (with_reducible rfl))
      simp only [Act.put]; try simp only [List.setIfInBounds_toArray]; try simp only [List.set_cons_zero, List.set_cons_succ]
      refine wpAnyL_take (i := 3) (d := some 104) (v := ?vab3) rfl rfl (by kernel_rfl) (by kernel_rfl) (by kernel_rfl) (fun _ _ _ h => h) (by rfl) ?yab3 ?_
      case yab3 => (intro w' hw'; go_simp; try (with_reducible rfl))
      simp only [Act.put]; try simp only [List.setIfInBounds_toArray]; try simp only [List.set_cons_zero, List.set_cons_succ]
      refine wpAnyL_take (i := 4) (d := some 105) (v := ?vab4) rfl rfl (by kernel_rfl) (by kernel_rfl) (by kernel_rfl) (fun _ _ _ h => h) (by rfl) ?yab4 ?_
      case yab4 => (intro w' hw'; go_simp; try (with_reducible rfl))
      simp only [Act.put]; try simp only [List.setIfInBounds_toArray]; try simp only [List.set_cons_zero, List.set_cons_succ]
      refine wpAnyL_take (i := 5) (d := some 106) (v := ?vab5) rfl rfl (by kernel_rfl) (by kernel_rfl) (by kernel_rfl) (fun _ _ _ h => h) (by rfl) ?yab5 ?_
      case yab5 => (intro w' hw'; have c3 := (XD.out.below hw').c3; go_simp; try (with_reducible rfl))
      simp only [Act.put]; try simp only [List.setIfInBounds_toArray]; try simp only [List.set_cons_zero, List.set_cons_succ]
      refine wpAnyL_take (i := 6) (d := some 107) (v := ?vab6) rfl rfl (by kernel_rfl) (by kernel_rfl) (by kernel_rfl) (fun _ _ _ h => h) (by rfl) ?yab6 ?_
      case yab6 => (intro w' hw'; go_simp; try (with_reducible rfl))
      simp only [Act.put]; try simp only [List.setIfInBounds_toArray]; try simp only [List.set_cons_zero, List.set_cons_succ]
      refine wpAnyL_take (i := 7) (d := some 108) (v := ?vab7) rfl rfl (by kernel_rfl) (by kernel_rfl) (by kernel_rfl) (fun _ _ _ h => h) (by rfl) ?yab7 ?_
      case yab7 => (intro w' hw'; go_simp; try (with_reducible rfl))
      simp only [Act.put]; try simp only [List.setIfInBounds_toArray]; try simp only [List.set_cons_zero, List.set_cons_succ]
      refine wpAnyL_take (i := 8) (d := some 109) (v := ?vab8) rfl rfl (by kernel_rfl) (by kernel_rfl) (by kernel_rfl) (fun _ _ _ h => h) (by rfl) ?yab8 ?_
      case yab8 => (intro w' hw'; go_simp; try (with_reducible rfl))
      simp only [Act.put]; try simp only [List.setIfInBounds_toArray]; try simp only [List.set_cons_zero, List.set_cons_succ]
      refine wpAnyL_pass (i := 9) (d := some 110) rfl rfl (by kernel_rfl) (by kernel_rfl) (by kernel_rfl) (fun _ _ _ h => h) (by rfl) ?_
      try (simp only [Act.put]; try simp only [List.setIfInBounds_toArray]; try simp only [List.set_cons_zero, List.set_cons_succ])
      refine wpAnyL_pass (i := 10) (d := some 111) rfl rfl (by kernel_rfl) (by kernel_rfl) (by kernel_rfl) (fun _ _ _ h => h) (by rfl) ?_
      try (simp only [Act.put]; try simp only [List.setIfInBounds_toArray]; try simp only [List.set_cons_zero, List.set_cons_succ])
      refine wpAnyL_pass (i := 11) (d := some 112) rfl rfl (by kernel_rfl) (by kernel_rfl) (by kernel_rfl) (fun _ _ _ h => h) (by rfl) ?_
      try (simp only [Act.put]; try simp only [List.setIfInBounds_toArray]; try simp only [List.set_cons_zero, List.set_cons_succ])
      refine wpAnyL_pass (i := 12) (d := some 113) rfl rfl (by kernel_rfl) (by kernel_rfl) (by kernel_rfl) (fun _ _ _ h => h) (by rfl) ?_
      try (simp only [Act.put]; try simp only [List.setIfInBounds_toArray]; try simp only [List.set_cons_zero, List.set_cons_succ])
      refine wpAnyL_take (i := 13) (d := some 114) (v := ?vab13) rfl rfl (by kernel_rfl) (by kernel_rfl) (by kernel_rfl) (fun _ _ _ h => h) (by rfl) ?yab13 ?_
      case yab13 => (intro w' hw'; go_simp; try (with_reducible rfl))
      simp only [Act.put]; try simp only [List.setIfInBounds_toArray]; try simp only [List.set_cons_zero, List.set_cons_succ]
      refine wpAnyL_take (i := 14) (d := some 2) (v := ?vab14) rfl rfl (by kernel_rfl) (by kernel_rfl) (by kernel_rfl) (fun _ _ _ h => h) (by rfl) ?yab14 ?_
      case yab14 => (intro w' hw'; go_simp; try (with_reducible rfl))
      simp only [Act.put]; try simp only [List.setIfInBounds_toArray]; try simp only [List.set_cons_zero, List.set_cons_succ]
      refine wpAnyL_done (by kernel_rfl) ?_ _
      go_wp2
      go_ret
      exact ⟨rfl, LD.out⟩

  · obtain rfl : R = false := by rw [HR.out, decide_eq_false g1]; rfl
    have hb : (s.tr == 0) = false := by rw [beq_eq_false_iff_ne]; exact g1
    clear g1
    go_wp2_with (fail)
    have XD := hide (show SBox 72 g s w3.drew from X3.out)
    have LD := hide (L3.out.trans (Later.drew w3))
    have LD1 := hide (L13.out.trans (Later.drew w3))
    refine wp_region_L (by kernel_rfl) ?_
    refine wpAnyL_take (i := 0) (d := some 101) (v := ?vaa0) rfl rfl (by kernel_rfl) (by kernel_rfl) (by kernel_rfl) (fun _ _ _ h => h) (by rfl) ?yaa0 ?_
    case yaa0 => (intro w' hw'; go_simp; try (with_reducible rfl))
    simp only [Act.put]; try simp only [List.setIfInBounds_toArray]; try simp only [List.set_cons_zero, List.set_cons_succ]
    refine wpAnyL_take (i := 1) (d := some 102) (v := ?vaa1) rfl rfl (by kernel_rfl) (by kernel_rfl) (by kernel_rfl) (fun _ _ _ h => h) (by rfl) ?yaa1 ?_
    case yaa1 => (intro w' hw'; have c4 := (XD.out.below hw').c4; go_simp; try (with_reducible rfl))
    simp only [Act.put]; try simp only [List.setIfInBounds_toArray]; try simp only [List.set_cons_zero, List.set_cons_succ]
    refine wpAnyL_take (i := 2) (d := some 103) (v := ?vaa2) rfl rfl (by kernel_rfl) (by kernel_rfl) (by kernel_rfl) (fun _ _ _ h => h) (by rfl) ?yaa2 ?_
    case yaa2 => (intro w' hw'; go_simp; try (with_reducible rfl))
    simp only [Act.put]; try simp only [List.setIfInBounds_toArray]; try simp only [List.set_cons_zero, List.set_cons_succ]
    refine wpAnyL_take (i := 3) (d := some 104) (v := ?vaa3) rfl rfl (by kernel_rfl) (by kernel_rfl) (by kernel_rfl) (fun _ _ _ h => h) (by rfl) ?yaa3 ?_
    case yaa3 => (intro w' hw'; go_simp; try (with_reducible rfl))
    simp only [Act.put]; try simp only [List.setIfInBounds_toArray]; try simp only [List.set_cons_zero, List.set_cons_succ]
    refine wpAnyL_pass (i := 4) (d := some 105) rfl rfl (by kernel_rfl) (by kernel_rfl) (by kernel_rfl) (fun _ _ _ h => h) (by rfl) ?_
    try (simp only [Act.put]; try simp only [List.setIfInBounds_toArray]; try simp only [List.set_cons_zero, List.set_cons_succ])
    refine wpAnyL_pass (i := 5) (d := some 106) rfl rfl (by kernel_rfl) (by kernel_rfl) (by kernel_rfl) (fun _ _ _ h => h) (by rfl) ?_
    try (simp only [Act.put]; try simp only [List.setIfInBounds_toArray]; try simp only [List.set_cons_zero, List.set_cons_succ])
    refine wpAnyL_pass (i := 6) (d := some 107) rfl rfl (by kernel_rfl) (by kernel_rfl) (by kernel_rfl) (fun _ _ _ h => h) (by rfl) ?_
    try (simp only [Act.put]; try simp only [List.setIfInBounds_toArray]; try simp only [List.set_cons_zero, List.set_cons_succ])
    refine wpAnyL_take (i := 7) (d := some 108) (v := ?vaa7) rfl rfl (by kernel_rfl) (by kernel_rfl) (by kernel_rfl) (fun _ _ _ h => h) (by rfl) ?yaa7 ?_
    case yaa7 => (intro w' hw'; go_simp; try (with_reducible rfl))
    simp only [Act.put]; try simp only [List.setIfInBounds_toArray]; try simp only [List.set_cons_zero, List.set_cons_succ]
    refine wpAnyL_take (i := 8) (d := some 109) (v := ?vaa8) rfl rfl (by kernel_rfl) (by kernel_rfl) (by kernel_rfl) (fun _ _ _ h => h) (by rfl) ?yaa8 ?_
    case yaa8 => (intro w' hw'; go_simp; try (with_reducible rfl))
    simp only [Act.put]; try simp only [List.setIfInBounds_toArray]; try simp only [List.set_cons_zero, List.set_cons_succ]
    refine wpAnyL_pass (i := 9) (d := some 110) rfl rfl (by kernel_rfl) (by kernel_rfl) (by kernel_rfl) (fun _ _ _ h => h) (by rfl) ?_
    try (simp only [Act.put]; try simp only [List.setIfInBounds_toArray]; try simp only [List.set_cons_zero, List.set_cons_succ])
    refine wpAnyL_pass (i := 10) (d := some 111) rfl rfl (by kernel_rfl) (by kernel_rfl) (by kernel_rfl) (fun _ _ _ h => h) (by rfl) ?_
    try (simp only [Act.put]; try simp only [List.setIfInBounds_toArray]; try simp only [List.set_cons_zero, List.set_cons_succ])
    refine wpAnyL_pass (i := 11) (d := some 112) rfl rfl (by kernel_rfl) (by kernel_rfl) (by kernel_rfl) (fun _ _ _ h => h) (by rfl) ?_
    try (simp only [Act.put]; try simp only [List.setIfInBounds_toArray]; try simp only [List.set_cons_zero, List.set_cons_succ])
    refine wpAnyL_pass (i := 12) (d := some 113) rfl rfl (by kernel_rfl) (by kernel_rfl) (by kernel_rfl) (fun _ _ _ h => h) (by rfl) ?_
    try (simp only [Act.put]; try simp only [List.setIfInBounds_toArray]; try simp only [List.set_cons_zero, List.set_cons_succ])
    refine wpAnyL_take (i := 13) (d := some 114) (v := ?vaa13) rfl rfl (by kernel_rfl) (by kernel_rfl) (by kernel_rfl) (fun _ _ _ h => h) (by rfl) ?yaa13 ?_
    case yaa13 => (intro w' hw'; go_simp; try (with_reducible rfl))
    simp only [Act.put]; try simp only [List.setIfInBounds_toArray]; try simp only [List.set_cons_zero, List.set_cons_succ]
    refine wpAnyL_take (i := 14) (d := some 2) (v := ?vaa14) rfl rfl (by kernel_rfl) (by kernel_rfl) (by kernel_rfl) (fun _ _ _ h => h) (by rfl) ?yaa14 ?_
    case yaa14 => (intro w' hw'; go_simp; try (with_reducible rfl))
    simp only [Act.put]; try simp only [List.setIfInBounds_toArray]; try simp only [List.set_cons_zero, List.set_cons_succ]
    refine wpAnyL_done (by kernel_rfl) ?_ _
    go_wp2
    go_ret
    exact ⟨rfl, LD.out⟩

set_option maxHeartbeats 8000000 in
theorem good_other {F : Nat → Prop} {s : SagaD} {l : List StepD} (h : StepsAt F w s.v l) (hw : ∀ x ∈ l, x.wf) (h1 : I64 s.step) (he : (checkF s.name l).2 = 0) (n1 : s.st ≠ 1) (n2 : s.st ≠ 2) (n3 : s.st ≠ 3) (n4 : s.st ≠ 4) (n5 : s.st ≠ 5) : Calls Tryz.prog 61 #[s.val] w (Gives (.bool false) w) := by
  obtain ⟨W1, hW1⟩ : ∃ W1, W1 = (w.alloc (.cells s.cells.toArray 72 (0, 0))) := ⟨_, rfl⟩
  obtain ⟨g, hg⟩ : ∃ g, g = w.heap.size := ⟨_, rfl⟩
  have X1 : Hid (SBox 72 g s W1) := by rw [hW1, hg]; exact heap_alloc_new _ _
  have L1 : Hid (Later w W1) := by rw [hW1]; exact (Below.refl _ _).alloc (Nat.le_refl _) _
  have HG0 : Hid (w.heap.size ≤ g) := Nat.le_of_eq hg.symm
  have CC : Hid (Calls Tryz.prog 92 #[.agg #[.string s.name, .slice s.p s.n s.c]] W1 fun e w' => e = .returned (.tuple #[.int .i64 (((checkF s.name l).1 : Nat) : Int), .int .i64 (((checkF s.name l).2 : Nat) : Int)]) ∧ Later W1 w') := check_any (StepsAt.kept h (Kept.of_below L1.out _))
  have C : Hid (∀ W, Later W1 W → Calls Tryz.prog 93 #[.agg #[.string s.name, .slice s.p s.n s.c], .int .i64 s.step] W fun e w' => e = .returned (.int .i64 (triesN l s.step)) ∧ Later W w') := fun W hW => Tries_any (StepsAt.kept h (Kept.of_below (L1.out.trans hW) _)) h1 hw
  have HS : Hid (∀ W, Later W1 W → StepsAt F W s.v l) := fun W hW => StepsAt.kept h (Kept.of_below (L1.out.trans hW) _)
  obtain ⟨k1, hk1⟩ : ∃ k1, (checkF s.name l).1 = k1 := ⟨_, rfl⟩
  obtain ⟨k2, hk2⟩ : ∃ k2, (checkF s.name l).2 = k2 := ⟨_, rfl⟩
  rw [hk1, hk2] at CC
  have HN := hide (steps_n h)
  have HW1 := hide hW1.symm
  have HG := hide hg.symm
  clear hW1 hg h hk1 h1 hw
  have e0 := X1.out.c0
  have e1 := X1.out.c1
  rw [← HW1.out, ← HG.out] at e0 e1
  obtain ⟨T, hT⟩ : ∃ T, triesN l s.step = T := ⟨_, rfl⟩
  rw [hT] at C
  obtain rfl : k2 = 0 := by rw [← hk2]; exact he
  clear he hk2
  go_enter Tryz.func61, Tryz.ntmps61
  go_wp2_with (fail)
  simp only [HW1.out, HG.out]
  refine CC.out.mono ?_
  rintro e w2 ⟨rfl, hl⟩
  have L12 := hide hl
  have L2 := hide (L1.out.trans hl)
  have X2 := hide (X1.out.below hl)
  clear hl CC e0 e1
  have d0 := X2.out.c0
  have d1 := X2.out.c1
  have d3 := X2.out.c3
  go_wp2_with (fail)
  refine (C.out _ L12.out).mono ?_
  rintro e w3 ⟨rfl, hl⟩
  have L13 := hide (L12.out.trans hl)
  have L3 := hide (L2.out.trans hl)
  have X3 := hide (X2.out.below hl)
  clear hl C d0 d1 d3
  have c2 := X3.out.c2
  have b1 : (s.st == 1) = false := by rw [beq_eq_false_iff_ne]; exact n1
  have b2 : (s.st == 2) = false := by rw [beq_eq_false_iff_ne]; exact n2
  have b3 : (s.st == 3) = false := by rw [beq_eq_false_iff_ne]; exact n3
  have b4 : (s.st == 4) = false := by rw [beq_eq_false_iff_ne]; exact n4
  have b5 : (s.st == 5) = false := by rw [beq_eq_false_iff_ne]; exact n5
  clear n1 n2 n3 n4 n5
  go_wp2
  go_ret
  exact ⟨rfl, L3.out⟩
theorem good_any {F : Nat → Prop} {s : SagaD} {l : List StepD} (h : StepsAt F w s.v l) (hw : ∀ x ∈ l, x.wf) (h1 : I64 s.step) : Calls Tryz.prog 61 #[s.val] w (Gives (.bool (goodF l s)) w) := by
  unfold goodF
  by_cases he : (checkF s.name l).2 = 0
  · rw [if_neg (by rw [he]; decide)]
    by_cases n1 : s.st = 1
    · rw [if_pos n1]; exact good_run h hw h1 he n1
    · rw [if_neg n1]
      by_cases n2 : s.st = 2
      · rw [if_pos n2]; exact good_undo h hw h1 he n2
      · rw [if_neg n2]
        by_cases n5 : s.st = 5
        · rw [if_pos n5]; exact good_stuck h hw h1 he n5
        · rw [if_neg n5]
          by_cases n3 : s.st = 3
          · rw [if_pos n3, ← steps_n h]; exact good_done h hw h1 he n3
          · rw [if_neg n3]
            by_cases n4 : s.st = 4
            · rw [if_pos n4]; exact good_gone h hw h1 he n4
            · rw [if_neg n4]; exact good_other h hw h1 he n1 n2 n3 n4 n5
  · rw [if_pos he]; exact good_err h hw h1 he
end
end Go.Proofs.YtdkiopajilakcaaGreat
