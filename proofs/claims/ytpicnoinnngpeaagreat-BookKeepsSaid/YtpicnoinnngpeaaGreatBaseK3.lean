/- Texts merged: BkB, Chain, BkC, BkD, ShelfD, Ints, RefInts, BkE, BkF, OrderR. -/
import Derived.Test.YtpicnoinnngpeaaGreatBaseK1
import Derived.Test.YtpicnoinnngpeaaGreatBaseK2
import Derived.Maps.RangeWalk
import Derived.Shelf.SlIterI.Nil
import Derived.Shelf.SortM.Plain
import Derived.Shelf.SortM.SortNone
import Derived.Shelf.SlMaps.Clone
import Derived.Shelf.SlMaps.Equal
import Derived.Ground.GgzProg
import Derived.Ground.SlgmProg
import Derived.Ground.SlmcProg
import Derived.Ground.SlmeProg
import Derived.Test.YtpicnoinnngpeaaGreatProg
import Derived.Laws.CopyOwn
import Derived.Deep.QuietTactic
import Derived.BigQuiet
import Derived.Maps.AppendAt
/- What is counted of a book: count, Count, full, underWay of package book. -/
namespace Go.Proofs.YtpicnoinnngpeaaGreat
open Go.RowKit Go.Maps

/-- So many of those that are no longer to come are such. -/
def Cnt (p : Ent → Bool) (L : List Ent) (left : Lit → Bool) (n : Nat) : Prop := n = L.countP fun x => p x && !left (.int .i64 x.id)
theorem Cnt.start (p : Ent → Bool) (L : List Ent) (V : Ent → Value) : Cnt p L (Maps.has (mapD (L.map fun x => (x.id, V x)))) 0 := by
  unfold Cnt
  symm
  rw [List.countP_eq_zero]
  intro x hx
  rw [has_mapD]
  have : ((L.map fun x => (x.id, V x)).any fun q => q.1 == x.id) = true := List.any_eq_true.2 ⟨(x.id, V x), List.mem_map.2 ⟨x, hx, rfl⟩, by simp⟩
  rw [this]
  simp
theorem count_strike (p : Ent → Bool) (x : Ent) (left : Lit → Bool) : ∀ (L : List Ent), RiseE L → x ∈ L → left (.int .i64 x.id) = true →
    L.countP (fun z => p z && !(left (.int .i64 z.id) && !(Lit.int .i64 z.id).sameKey (.int .i64 x.id))) = L.countP (fun z => p z && !left (.int .i64 z.id)) + (if p x then 1 else 0)
  | [], _, h, _ => by cases h
  | z :: r, hr, hx, hl => by
    obtain ⟨h1, h2⟩ := List.pairwise_cons.1 hr
    rw [List.countP_cons, List.countP_cons]
    rcases List.mem_cons.1 hx with rfl | hx
    · have e : r.countP (fun z => p z && !(left (.int .i64 z.id) && !(Lit.int .i64 z.id).sameKey (.int .i64 x.id))) = r.countP (fun z => p z && !left (.int .i64 z.id)) := by
        refine List.countP_congr fun y hy => ?_
        have := h1 y hy
        have hs : (Lit.int .i64 y.id).sameKey (.int .i64 x.id) = false := by simp [Lit.sameKey]; omega
        rw [hs]
        simp
      rw [e, hl]
      have hs : (Lit.int .i64 x.id).sameKey (.int .i64 x.id) = true := by simp [Lit.sameKey]
      rw [hs]
      cases p x <;> simp
    · have := count_strike p x left r h2 hx hl
      rw [this]
      have hz := h1 x hx
      have hs : (Lit.int .i64 z.id).sameKey (.int .i64 x.id) = false := by simp [Lit.sameKey]; omega
      rw [hs]
      simp
      omega
theorem Cnt.next {p : Ent → Bool} {L : List Ent} {left : Lit → Bool} {n : Nat} {x : Ent} (h : Cnt p L left n) (hr : RiseE L) (hx : x ∈ L) (hl : left (.int .i64 x.id) = true) :
    Cnt p L (fun z => left z && !z.sameKey (.int .i64 x.id)) (n + if p x then 1 else 0) := by
  unfold Cnt at *
  rw [count_strike p x left L hr hx hl, h]
theorem Cnt.done {p : Ent → Bool} {L : List Ent} {left : Lit → Bool} {n : Nat} (h : Cnt p L left n) (hl : ∀ z, left z = false) : n = L.countP p := by
  unfold Cnt at h
  rw [h]
  refine List.countP_congr fun x _ => ?_
  rw [hl]
  simp
/-- What comes of such a map is one of its sagas. -/
theorem came_ent {f : Int → Loc} {L : List Ent} {x : Int} {d : DataW Value} (h : ∀ zd, (mapD (L.map (pairE f))).atKey (.int .i64 x) zd = d) : ∃ y ∈ L, y.id = x ∧ d = .held (y.val f) := by
  have h0 := h .nil
  have h1 := h (.held (.bool true))
  rw [at_mapD] at h0 h1
  cases hf : (L.map (pairE f)).find? (fun p => p.1 == x) with
  | none => rw [hf] at h0 h1; simp only at h0 h1; rw [← h0] at h1; cases h1
  | some p =>
    rw [hf] at h0
    obtain ⟨y, hy, rfl⟩ := List.mem_map.1 (List.mem_of_find?_eq_some hf)
    exact ⟨y, hy, by simpa [pairE] using List.find?_some hf, h0.symm⟩
theorem later_grown {w w' : World} (h : Later w w') : w.grownBy w' none := ⟨h.os, h.tape, h.output, h.size, fun i hi _ => h.block i hi⟩
theorem later_of_grown {w w' : World} (h : w.grownBy w' none) : Later w w' := ⟨h.os, h.tape, h.output, h.size, fun i hi => h.block i hi (by simp)⟩

section
variable {F : Nat → Prop} {w : World} {g b k : Nat} {most : Int} {t : BkS}
set_option maxHeartbeats 4000000 in
set_option maxRecDepth 100000 in
theorem count_any (gf : Nat) (cb : Array Value) (p : Ent → Bool) (h : BookAt F w g b k most t) (hn : t.L.length ≤ 1000000) (eg : ∀ args w, (callFunc gf args).run Tryz.prog w = .ok (.enter gf args) w)
    (hc : ∀ W, Later w W → ∀ x ∈ t.L, ∀ q n c, Calls Tryz.prog gf (#[.int .i64 x.id, (x.s.withV q n c).val] ++ cb) W (Gives (.bool (p x)) W)) :
    Calls Tryz.prog 49 #[.pointer (some ⟨g, 0, none⟩), .func (.func gf) #[] cb] w (Gives (.int .i64 ((t.L.countP p : Nat) : Int)) w) := by
  have C := hide (made_yes h)
  have c2 := h.c2
  obtain ⟨f, hm, _⟩ := h.body
  have HM := hide hm
  have HR := hide h.ok.1
  have HC := hide hc
  obtain ⟨L, hL⟩ : ∃ L, t.L = L := ⟨_, rfl⟩
  rw [hL] at HM HR HC hn ⊢
  clear hL h hc hm
  go_enter Tryz.func49, Tryz.ntmps49
  go_wp2_with (fail)
  refine C.out.mono ?_
  rintro e w1 ⟨rfl, rfl⟩
  obtain ⟨R, hRR⟩ : ∃ R, w.heap.size = R := ⟨_, rfl⟩
  have HRR := hide hRR
  clear hRR
  go_wp2_with (at_range; refine wpList_range_own _ rfl _ 77 rfl 3 36 Tryz.int_law Tryz.underlying77 _ b k _ rfl HM.out ?_; rw [HRR.out]; intro w2 hrg0 hg0 hs0)
  have HG0 : Hid (Later w w2) := later_of_grown hg0
  have HRG0 := hide hrg0
  clear hrg0 hg0 hs0
  go_frame
  go_loopw [5] (fun n wr => ∃ (q : Nat) (left : Lit → Bool) (cnt : Nat), n = .int .i64 (q : Int) ∧ wr.ranges Tryz.prog 3 heldR b R k (mapD (L.map (pairE f))) left cnt ∧ Cnt p L left q ∧ Later w wr) (fun _ wr => wr.rangeLeft b R)
  case atStart => exact ⟨0, _, _, rfl, HRG0.out, Cnt.start p L (Ent.val f), HG0.out⟩
  case round =>
    obtain ⟨q, left, cnt, rfl, hrg, htop, hb⟩ := hrel
    have HRG := hide hrg
    have HTOP := hide htop
    have HB := hide hb
    have hq : q ≤ 1000000 := by
      have h1 : q = L.countP _ := htop
      have h2 := List.countP_le_length (p := fun x => p x && !left (.int .i64 x.id)) (l := L)
      omega
    clear hrg htop hb HRG0 HG0
    go_wp2_with (at_next; refine wpList_next_ranges _ rfl _ rfl 3 Tryz.int_law heldR (Value.int .i64) id (fun key kl hkey => by obtain ⟨x, rfl, _⟩ := Maps.keyOf_int_inv Tryz.underlying3 hkey; exact ⟨x, rfl⟩) (fun v _ _ => ⟨v, rfl⟩) b R k _ _ _ rfl HRG.out ?_ ?_)
    · intro _ hl0
      have hd := HTOP.out.done hl0
      subst hd
      go_wp2
      go_ret
      exact ⟨rfl, HB.out⟩
    · intro x c kl yd yp w3 cnt3 hkey hlx hv hat hrg3 hlt hg3 hs3 hen
      obtain ⟨x', ex, rfl, _⟩ := Maps.keyOf_int_inv Tryz.underlying3 hkey
      cases ex
      obtain ⟨z, hz, rfl, hzd⟩ := came_ent hat
      have hcv : c = z.val f := by
        have e1 : (DataW.held c, ([] : List MemPlace)) = (yd, yp) := Option.some.inj hv
        have e2 : DataW.held c = yd := congrArg Prod.fst e1
        rw [← e2] at hzd
        exact DataW.held.inj hzd
      subst hcv
      have HRG3 := hide hrg3
      have HB3 : Hid (Later w w3) := Below.grown HB.out hg3 (Below.size HB.out) (fun k hk => by have := Option.some.inj hk; have := HRR.out; omega)
      have HT3 := hide (HTOP.out.next HR.out hz hlx)
      have HZ := hide hz
      obtain ⟨zi, zs, zl⟩ := z
      simp only at HT3 HZ hen ⊢
      simp only at HRG3
      obtain ⟨lc, hlc⟩ : ∃ lc, f zi = lc := ⟨_, rfl⟩
      have hvz : Ent.val f ⟨zi, zs, zl⟩ = (zs.withV lc.p lc.n lc.c).val := by rw [← hlc]; rfl
      rw [hvz] at hen ⊢
      obtain ⟨s2, hs2⟩ : ∃ s2, zs.withV lc.p lc.n lc.c = s2 := ⟨_, rfl⟩
      rw [hs2] at hen ⊢
      have HS2 := hide hs2
      have HLT := hide hlt
      clear hat hrg3 hg3 hs3 hlx hv hkey hz hzd hvz hlc hs2 hlt
      obtain ⟨v, hv⟩ : ∃ v, v = w3.heap.size := ⟨_, rfl⟩
      have T3 : Hid (SBox 36 w3.heap.size SagaD.zero (w3.alloc (.cells #[.string ⟨#[]⟩, .slice none 0 0, .int .i64 0, .int .i64 0, .int .i64 0, .bool false, .bool false, .bool false, .bool false, .bool false, .bool false, .bool false, .bool false] 36 (0, 0)))) := heap_alloc_new _ _
      have L3 : Hid (Later w3 (w3.alloc (.cells #[.string ⟨#[]⟩, .slice none 0 0, .int .i64 0, .int .i64 0, .int .i64 0, .bool false, .bool false, .bool false, .bool false, .bool false, .bool false, .bool false, .bool false] 36 (0, 0)))) := (Below.refl _ _).alloc (Nat.le_refl _) _
      clear hv v
      go_wp2_with (refine wpList_store_saga (s := s2) (by rfl) _ _ (by rfl) (by rfl) T3.out (by rfl) ?_)
      intro w4 X4 G4
      have L4 : Hid (Later w3 w4) := L3.out.grown G4 (by simp) (fun k hk => by have := Option.some.inj hk; omega)
      have XX := hide X4
      clear X4 G4 hen
      go_wp2_with (refine wpList_load_saga (by rfl) _ (by rfl) (by rfl) XX.out ?_)
      have hcall := HC.out w4 (Later.trans HB3.out L4.out) ⟨zi, zs, zl⟩ HZ.out lc.p lc.n lc.c
      simp only [HS2.out] at hcall
      go_at_fn gf
      refine hcall.mono ?_
      rintro e w5 ⟨rfl, hl5⟩
      have L5 : Hid (Later w3 w5) := Later.trans L4.out hl5
      have HRG5 := hide (HRG3.out.kept (later_grown L5.out) (by simp) (by simp))
      have HB5 : Hid (Later w w5) := Later.trans HB3.out L5.out
      clear hcall hl5
      cases hp : p ⟨zi, zs, zl⟩ with
      | true =>
        have HT5 : Hid (Cnt p L (fun z => left z && !z.sameKey (.int .i64 zi)) (q + 1)) := by
          have := HT3.out
          rw [hp] at this
          exact this
        clear hp
        go_wp2
        go_roundw
        case rel => exact ⟨q + 1, _, _, by go_num, HRG5.out, HT5.out, HB5.out⟩
        case measure => rw [HRG5.out.left_eq, HRG.out.left_eq]; exact HLT.out
      | false =>
        have HT5 : Hid (Cnt p L (fun z => left z && !z.sameKey (.int .i64 zi)) q) := by
          have := HT3.out
          rw [hp] at this
          exact this
        clear hp
        go_wp2
        go_roundw
        case rel => exact ⟨q, _, _, rfl, HRG5.out, HT5.out, HB5.out⟩
        case measure => rw [HRG5.out.left_eq, HRG.out.left_eq]; exact HLT.out
end
end Go.Proofs.YtpicnoinnngpeaaGreat
/- A long chain of '&&' over fields of two structs, one conjunct at a time: the frame is known by four of its slots alone. -/
namespace Go.Proofs.YtpicnoinnngpeaaGreat
open Go.RowKit

/-- The frame: two addresses in slots 2 and 3, and what holds so far in slot k. -/
structure Fr (X Y : Value) (k : Nat) (c : Bool) (n : Nat) (a : Act) : Prop where
  x : a.tmps[2]? = some X
  y : a.tmps[3]? = some Y
  c : a.tmps[k]? = some (.bool c)
  n : a.tmps.size = n
  d : a.defers = []
theorem put_tmps (a : Act) (d : Nat) (v : Value) (i : Nat) : (a.put (some d) v).tmps[i]? = if d = i then (if i < a.tmps.size then some v else none) else a.tmps[i]? := by
  show (a.tmps.setIfInBounds d v)[i]? = _
  rw [Array.getElem?_setIfInBounds]
  by_cases h : d = i
  · subst h
    simp
  · simp [h]
theorem put_same (a : Act) (d : Nat) (v : Value) (h : d < a.tmps.size) : (a.put (some d) v).tmps[d]? = some v := by rw [put_tmps, if_pos rfl, if_pos h]
theorem put_other (a : Act) (d : Nat) (v : Value) (i : Nat) (h : d ≠ i) : (a.put (some d) v).tmps[i]? = a.tmps[i]? := by rw [put_tmps, if_neg h]
theorem put_size (a : Act) (d : Nat) (v : Value) : (a.put (some d) v).tmps.size = a.tmps.size := by simp [Act.put]
theorem eval_of {a : Act} {i : Nat} {v : Value} (h : a.tmps[i]? = some v) : a.eval (.tmp i) = v := by
  show a.tmps.getD i undef = v
  rw [Array.getD_eq_getD_getElem?, h]
  rfl
/-- The same without a word of what holds so far. -/
structure Fr0 (X Y : Value) (n : Nat) (a : Act) : Prop where
  x : a.tmps[2]? = some X
  y : a.tmps[3]? = some Y
  n : a.tmps.size = n
  d : a.defers = []
section
variable {X Y : Value} {k n : Nat} {c : Bool} {a : Act}
theorem Fr0.put (h : Fr0 X Y n a) (d : Nat) (v : Value) (h2 : d ≠ 2) (h3 : d ≠ 3) : Fr0 X Y n (a.put (some d) v) := ⟨(put_other a d v 2 h2).trans h.x, (put_other a d v 3 h3).trans h.y, (put_size a d v).trans h.n, h.d⟩
theorem Fr.put (h : Fr X Y k c n a) (d : Nat) (v : Value) (h2 : d ≠ 2) (h3 : d ≠ 3) (hk : d ≠ k) : Fr X Y k c n (a.put (some d) v) :=
  ⟨(put_other a d v 2 h2).trans h.x, (put_other a d v 3 h3).trans h.y, (put_other a d v k hk).trans h.c, (put_size a d v).trans h.n, h.d⟩
variable {P : Program} {ops : Array Oper} {Q : Exit → Act → World → Prop} {rest : List Oper} {w : World}
theorem wpList_val {o : Oper} {d : Nat} {v : Value} {w' : World} (hd : o.dst = some d) (hw : Region.wanted o (yielded ops a.tmps) = true) (hx : (execOp a.eval o).run P w = .ok (.value v) w')
    (h : wpList P ops Q rest (a.put (some d) v) w') : wpList P ops Q (o :: rest) a w := by
  refine wpList_step fun K hK => ?_
  rw [if_pos hw]
  unfold Oper.wp
  rw [hx, Oper.upon_value, hd]
  exact hK _ _ h
theorem want_true {o : Oper} {j : Nat} {k : Nat} (hg : o.guard = some (j, true)) (hj : (ops[j]?).bind (·.dst) = some k) (hk : a.tmps[k]? = some (.bool true)) : Region.wanted o (yielded ops a.tmps) = true := by
  unfold Region.wanted yielded
  rw [hg]
  simp only [hj, Option.bind_some, hk]
  rfl
theorem want_false {o : Oper} {j : Nat} {k : Nat} (hg : o.guard = some (j, true)) (hj : (ops[j]?).bind (·.dst) = some k) (hk : a.tmps[k]? = some (.bool false)) : Region.wanted o (yielded ops a.tmps) = false := by
  unfold Region.wanted yielded
  rw [hg]
  simp only [hj, Option.bind_some, hk]
  rfl
theorem want_none {o : Oper} (hg : o.guard = none) : Region.wanted o (yielded ops a.tmps) = true := by
  unfold Region.wanted
  rw [hg]
theorem skip_one {o : Oper} {j d : Nat} (h : Fr X Y k false n a) (hj : (ops[j]?).bind (·.dst) = some k) (hd : o.dst = some d) (hg : o.guard = some (j, true)) (h2 : d ≠ 2) (h3 : d ≠ 3) (hk : d ≠ k)
    (next : ∀ a', Fr X Y k false n a' → wpList P ops Q rest a' w) : wpList P ops Q (o :: rest) a w := by
  refine wpList_skip (want_false hg hj h.c) ?_
  rw [hd]
  exact next _ (h.put d undef h2 h3 hk)

/-- One conjunct: the operations at slots s to s + 4 are wanted just if all holds so far; then the pick, then a move. -/
theorem conj {q : Bool} {s : Nat} {W : World → Prop} (j t : Nat) (h : Fr X Y k c n a) (hj : (ops[j]?).bind (·.dst) = some k) (hs : k < s) (hs3 : 3 < s) (hn : s + 6 ≤ n) (ht : 3 < t) (htn : t < n) (hW : W w)
    {o1 o2 o3 o4 o5 o6 o7 : Oper} {px py vx vy : Value}
    (g1 : o1.dst = some s ∧ o1.guard = some (j, true)) (g2 : o2.dst = some (s + 1) ∧ o2.guard = some (j, true)) (g3 : o3.dst = some (s + 2) ∧ o3.guard = some (j, true)) (g4 : o4.dst = some (s + 3) ∧ o4.guard = some (j, true)) (g5 : o5.dst = some (s + 4) ∧ o5.guard = some (j, true))
    (g6 : o6.op = .pick (.tmp k) (.tmp (s + 4)) (.const (.bool false)) ∧ o6.dst = some (s + 5) ∧ o6.guard = none) (g7 : (o7.op = .move (.tmp (s + 5)) ∨ o7.op = .assign (.tmp (s + 5))) ∧ o7.dst = some t ∧ o7.guard = none)
    (e1 : ∀ a' : Act, a'.tmps[2]? = some X → (execOp a'.eval o1).run P w = .ok (.value px) w)
    (e2 : ∀ a' : Act, a'.tmps[s]? = some px → (execOp a'.eval o2).run P w = .ok (.value vx) w)
    (e3 : ∀ a' : Act, a'.tmps[3]? = some Y → (execOp a'.eval o3).run P w = .ok (.value py) w)
    (e4 : ∀ a' : Act, a'.tmps[(s + 2)]? = some py → (execOp a'.eval o4).run P w = .ok (.value vy) w)
    (e5 : ∀ (a' : Act) (r : List Oper), a'.tmps[(s + 1)]? = some vx → a'.tmps[(s + 3)]? = some vy → Region.wanted o5 (yielded ops a'.tmps) = true → (∀ w', W w' → wpList P ops Q r (a'.put (some (s + 4)) (.bool q)) w') → wpList P ops Q (o5 :: r) a' w)
    (next : ∀ a' w', Fr X Y t (c && q) n a' → W w' → wpList P ops Q rest a' w') : wpList P ops Q (o1 :: o2 :: o3 :: o4 :: o5 :: o6 :: o7 :: rest) a w := by
  have last : ∀ (a' : Act) (w' : World) (b : Bool), Fr X Y k c n a' → (c = true → a'.tmps[s + 4]? = some (.bool q)) → W w' → wpList P ops Q (o6 :: o7 :: rest) a' w' := by
    intro a' w' b h' hq hw'
    refine wpList_val (w' := w') (v := .bool (c && q)) g6.2.1 (want_none g6.2.2) ?_ ?_
    · unfold execOp
      simp only [g6.1, eval_of h'.c]
      cases c with
      | false => rfl
      | true =>
        simp only [eval_of (hq rfl)]
        rfl
    · refine wpList_val (w' := w') (v := .bool (c && q)) g7.2.1 (want_none g7.2.2) ?_ ?_
      · unfold execOp
        rcases g7.1 with g | g <;> (simp only [g, eval_of (put_same a' (s + 5) (.bool (c && q)) (by have := h'.n; omega))]; rfl)
      · have h5 := h'.put (s + 5) (.bool (c && q)) (by omega) (by omega) (by omega)
        exact next _ _ ⟨(put_other _ t _ 2 (by omega)).trans h5.x, (put_other _ t _ 3 (by omega)).trans h5.y, put_same _ _ _ (by have := h5.n; omega), (put_size _ _ _).trans h5.n, h5.d⟩ hw'
  cases c with
  | false =>
    refine skip_one h hj g1.1 g1.2 (by omega) (by omega) (by omega) fun a1 h1 => ?_
    refine skip_one h1 hj g2.1 g2.2 (by omega) (by omega) (by omega) fun a2 h2 => ?_
    refine skip_one h2 hj g3.1 g3.2 (by omega) (by omega) (by omega) fun a3 h3 => ?_
    refine skip_one h3 hj g4.1 g4.2 (by omega) (by omega) (by omega) fun a4 h4 => ?_
    refine skip_one h4 hj g5.1 g5.2 (by omega) (by omega) (by omega) fun a5 h5 => ?_
    exact last a5 w false h5 (fun h => by cases h) hW
  | true =>
    have sz := h.n
    refine wpList_val g1.1 (want_true g1.2 hj h.c) (e1 a h.x) ?_
    have h1 := h.put s px (by omega) (by omega) (by omega)
    have t1 : (a.put (some s) px).tmps[s]? = some px := put_same a s px (by omega)
    refine wpList_val g2.1 (want_true g2.2 hj h1.c) (e2 _ t1) ?_
    have h2 := h1.put (s + 1) vx (by omega) (by omega) (by omega)
    have t2 := put_same (a.put (some s) px) (s + 1) vx (by have := h1.n; omega)
    refine wpList_val g3.1 (want_true g3.2 hj h2.c) (e3 _ h2.y) ?_
    have h3 := h2.put (s + 2) py (by omega) (by omega) (by omega)
    have t3 := put_same ((a.put (some s) px).put (some (s + 1)) vx) (s + 2) py (by have := h2.n; omega)
    have t2' := (put_other ((a.put (some s) px).put (some (s + 1)) vx) (s + 2) py (s + 1) (by omega)).trans t2
    refine wpList_val g4.1 (want_true g4.2 hj h3.c) (e4 _ t3) ?_
    have h4 := h3.put (s + 3) vy (by omega) (by omega) (by omega)
    have t4 := put_same (((a.put (some s) px).put (some (s + 1)) vx).put (some (s + 2)) py) (s + 3) vy (by have := h3.n; omega)
    have t2'' := (put_other (((a.put (some s) px).put (some (s + 1)) vx).put (some (s + 2)) py) (s + 3) vy (s + 1) (by omega)).trans t2'
    refine e5 _ _ t2'' t4 (want_true g5.2 hj h4.c) fun w' hw' => ?_
    have h5 := h4.put (s + 4) (.bool q) (by omega) (by omega) (by omega)
    exact last _ w' true h5 (fun _ => put_same _ _ _ (by have := h4.n; omega)) hw'
/-- One conjunct over fields of fields: the operations at slots s to s + 6 are wanted just if all holds so far; then the pick, then a move. -/
theorem conj2 {q : Bool} {s : Nat} {W : World → Prop} (j t : Nat) (h : Fr X Y k c n a) (hj : (ops[j]?).bind (·.dst) = some k) (hs : k < s) (hs3 : 3 < s) (hn : s + 8 ≤ n) (ht : 3 < t) (htn : t < n) (hW : W w)
    {o1 o1' o2 o3 o3' o4 o5 o6 o7 : Oper} {px px' py py' vx vy : Value}
    (g1 : o1.dst = some s ∧ o1.guard = some (j, true)) (g1' : o1'.dst = some (s + 1) ∧ o1'.guard = some (j, true)) (g2 : o2.dst = some (s + 2) ∧ o2.guard = some (j, true)) (g3 : o3.dst = some (s + 3) ∧ o3.guard = some (j, true)) (g3' : o3'.dst = some (s + 4) ∧ o3'.guard = some (j, true)) (g4 : o4.dst = some (s + 5) ∧ o4.guard = some (j, true)) (g5 : o5.dst = some (s + 6) ∧ o5.guard = some (j, true))
    (g6 : o6.op = .pick (.tmp k) (.tmp (s + 6)) (.const (.bool false)) ∧ o6.dst = some (s + 7) ∧ o6.guard = none) (g7 : (o7.op = .move (.tmp (s + 7)) ∨ o7.op = .assign (.tmp (s + 7))) ∧ o7.dst = some t ∧ o7.guard = none)
    (e1 : ∀ a' : Act, a'.tmps[2]? = some X → (execOp a'.eval o1).run P w = .ok (.value px) w)
    (e1' : ∀ a' : Act, a'.tmps[s]? = some px → (execOp a'.eval o1').run P w = .ok (.value px') w)
    (e2 : ∀ a' : Act, a'.tmps[s + 1]? = some px' → (execOp a'.eval o2).run P w = .ok (.value vx) w)
    (e3 : ∀ a' : Act, a'.tmps[3]? = some Y → (execOp a'.eval o3).run P w = .ok (.value py) w)
    (e3' : ∀ a' : Act, a'.tmps[s + 3]? = some py → (execOp a'.eval o3').run P w = .ok (.value py') w)
    (e4 : ∀ a' : Act, a'.tmps[s + 4]? = some py' → (execOp a'.eval o4).run P w = .ok (.value vy) w)
    (e5 : ∀ (a' : Act) (r : List Oper), a'.tmps[(s + 2)]? = some vx → a'.tmps[(s + 5)]? = some vy → Region.wanted o5 (yielded ops a'.tmps) = true → (∀ w', W w' → wpList P ops Q r (a'.put (some (s + 6)) (.bool q)) w') → wpList P ops Q (o5 :: r) a' w)
    (next : ∀ a' w', Fr X Y t (c && q) n a' → W w' → wpList P ops Q rest a' w') : wpList P ops Q (o1 :: o1' :: o2 :: o3 :: o3' :: o4 :: o5 :: o6 :: o7 :: rest) a w := by
  have last : ∀ (a' : Act) (w' : World) (b : Bool), Fr X Y k c n a' → (c = true → a'.tmps[s + 6]? = some (.bool q)) → W w' → wpList P ops Q (o6 :: o7 :: rest) a' w' := by
    intro a' w' b h' hq hw'
    refine wpList_val (w' := w') (v := .bool (c && q)) g6.2.1 (want_none g6.2.2) ?_ ?_
    · unfold execOp
      simp only [g6.1, eval_of h'.c]
      cases c with
      | false => rfl
      | true =>
        simp only [eval_of (hq rfl)]
        rfl
    · refine wpList_val (w' := w') (v := .bool (c && q)) g7.2.1 (want_none g7.2.2) ?_ ?_
      · unfold execOp
        rcases g7.1 with g | g <;> (simp only [g, eval_of (put_same a' (s + 7) (.bool (c && q)) (by have := h'.n; omega))]; rfl)
      · have h5 := h'.put (s + 7) (.bool (c && q)) (by omega) (by omega) (by omega)
        exact next _ _ ⟨(put_other _ t _ 2 (by omega)).trans h5.x, (put_other _ t _ 3 (by omega)).trans h5.y, put_same _ _ _ (by have := h5.n; omega), (put_size _ _ _).trans h5.n, h5.d⟩ hw'
  cases c with
  | false =>
    refine skip_one h hj g1.1 g1.2 (by omega) (by omega) (by omega) fun a1 h1 => ?_
    refine skip_one h1 hj g1'.1 g1'.2 (by omega) (by omega) (by omega) fun b1 hb1 => ?_
    refine skip_one hb1 hj g2.1 g2.2 (by omega) (by omega) (by omega) fun a2 h2 => ?_
    refine skip_one h2 hj g3.1 g3.2 (by omega) (by omega) (by omega) fun a3 h3 => ?_
    refine skip_one h3 hj g3'.1 g3'.2 (by omega) (by omega) (by omega) fun b3 hb3 => ?_
    refine skip_one hb3 hj g4.1 g4.2 (by omega) (by omega) (by omega) fun a4 h4 => ?_
    refine skip_one h4 hj g5.1 g5.2 (by omega) (by omega) (by omega) fun a5 h5 => ?_
    exact last a5 w false h5 (fun h => by cases h) hW
  | true =>
    have sz := h.n
    refine wpList_val g1.1 (want_true g1.2 hj h.c) (e1 a h.x) ?_
    have h1 := h.put s px (by omega) (by omega) (by omega)
    have t1 : (a.put (some s) px).tmps[s]? = some px := put_same a s px (by omega)
    generalize a.put (some s) px = a1 at t1 h1 ⊢
    refine wpList_val g1'.1 (want_true g1'.2 hj h1.c) (e1' _ t1) ?_
    have tb1 := put_same a1 (s + 1) px' (by have := h1.n; omega)
    have hb1 := h1.put (s + 1) px' (by omega) (by omega) (by omega)
    generalize a1.put (some (s + 1)) px' = b1 at tb1 hb1 ⊢
    refine wpList_val g2.1 (want_true g2.2 hj hb1.c) (e2 _ tb1) ?_
    have t2 := put_same b1 (s + 2) vx (by have := hb1.n; omega)
    have h2 := hb1.put (s + 2) vx (by omega) (by omega) (by omega)
    generalize b1.put (some (s + 2)) vx = a2 at t2 h2 ⊢
    refine wpList_val g3.1 (want_true g3.2 hj h2.c) (e3 _ h2.y) ?_
    have t3 := put_same a2 (s + 3) py (by have := h2.n; omega)
    have u3 := (put_other a2 (s + 3) py (s + 2) (by omega)).trans t2
    have h3 := h2.put (s + 3) py (by omega) (by omega) (by omega)
    generalize a2.put (some (s + 3)) py = a3 at t3 u3 h3 ⊢
    refine wpList_val g3'.1 (want_true g3'.2 hj h3.c) (e3' _ t3) ?_
    have tb3 := put_same a3 (s + 4) py' (by have := h3.n; omega)
    have ub3 := (put_other a3 (s + 4) py' (s + 2) (by omega)).trans u3
    have hb3 := h3.put (s + 4) py' (by omega) (by omega) (by omega)
    generalize a3.put (some (s + 4)) py' = b3 at tb3 ub3 hb3 ⊢
    refine wpList_val g4.1 (want_true g4.2 hj hb3.c) (e4 _ tb3) ?_
    have t4 := put_same b3 (s + 5) vy (by have := hb3.n; omega)
    have u4 := (put_other b3 (s + 5) vy (s + 2) (by omega)).trans ub3
    have h4 := hb3.put (s + 5) vy (by omega) (by omega) (by omega)
    generalize b3.put (some (s + 5)) vy = a4 at t4 u4 h4 ⊢
    refine e5 _ _ u4 t4 (want_true g5.2 hj h4.c) fun w' hw' => ?_
    have h5 := h4.put (s + 6) (.bool q) (by omega) (by omega) (by omega)
    exact last _ w' true h5 (fun _ => put_same _ _ _ (by have := h4.n; omega)) hw'
/-- The first conjunct, that is always wanted: no pick. -/
theorem conj_first {q : Bool} {s : Nat} (hx : a.tmps[2]? = some X) (hy : a.tmps[3]? = some Y) (hsz : a.tmps.size = n) (hd : a.defers = []) (hs3 : 3 < s) (hn : s + 5 < n)
    {o1 o2 o3 o4 o5 o6 : Oper} {px py vx vy : Value}
    (g1 : o1.dst = some s ∧ o1.guard = none) (g2 : o2.dst = some (s + 1) ∧ o2.guard = none) (g3 : o3.dst = some (s + 2) ∧ o3.guard = none) (g4 : o4.dst = some (s + 3) ∧ o4.guard = none) (g5 : o5.dst = some (s + 4) ∧ o5.guard = none)
    (g6 : o6.op = .move (.tmp (s + 4)) ∧ o6.dst = some (s + 5) ∧ o6.guard = none)
    (e1 : ∀ a' : Act, a'.tmps[2]? = some X → (execOp a'.eval o1).run P w = .ok (.value px) w)
    (e2 : ∀ a' : Act, a'.tmps[s]? = some px → (execOp a'.eval o2).run P w = .ok (.value vx) w)
    (e3 : ∀ a' : Act, a'.tmps[3]? = some Y → (execOp a'.eval o3).run P w = .ok (.value py) w)
    (e4 : ∀ a' : Act, a'.tmps[(s + 2)]? = some py → (execOp a'.eval o4).run P w = .ok (.value vy) w)
    (e5 : ∀ a' : Act, a'.tmps[(s + 1)]? = some vx → a'.tmps[(s + 3)]? = some vy → (execOp a'.eval o5).run P w = .ok (.value (.bool q)) w)
    (next : ∀ a', Fr X Y (s + 5) q n a' → wpList P ops Q rest a' w) : wpList P ops Q (o1 :: o2 :: o3 :: o4 :: o5 :: o6 :: rest) a w := by
  have h0 : Fr0 X Y n a := ⟨hx, hy, hsz, hd⟩
  refine wpList_val g1.1 (want_none g1.2) (e1 a h0.x) ?_
  have t1 := put_same a s px (by have := h0.n; omega)
  have h1 := h0.put s px (by omega) (by omega)
  generalize a.put (some s) px = a1 at t1 h1 ⊢
  refine wpList_val g2.1 (want_none g2.2) (e2 _ t1) ?_
  have t2 := put_same a1 (s + 1) vx (by have := h1.n; omega)
  have h2 := h1.put (s + 1) vx (by omega) (by omega)
  generalize a1.put (some (s + 1)) vx = a2 at t2 h2 ⊢
  refine wpList_val g3.1 (want_none g3.2) (e3 _ h2.y) ?_
  have t3 := put_same a2 (s + 2) py (by have := h2.n; omega)
  have t2' := (put_other a2 (s + 2) py (s + 1) (by omega)).trans t2
  have h3 := h2.put (s + 2) py (by omega) (by omega)
  generalize a2.put (some (s + 2)) py = a3 at t3 t2' h3 ⊢
  refine wpList_val g4.1 (want_none g4.2) (e4 _ t3) ?_
  have t4 := put_same a3 (s + 3) vy (by have := h3.n; omega)
  have t2'' := (put_other a3 (s + 3) vy (s + 1) (by omega)).trans t2'
  have h4 := h3.put (s + 3) vy (by omega) (by omega)
  generalize a3.put (some (s + 3)) vy = a4 at t4 t2'' h4 ⊢
  refine wpList_val g5.1 (want_none g5.2) (e5 _ t2'' t4) ?_
  have t5 := put_same a4 (s + 4) (.bool q) (by have := h4.n; omega)
  have h5 := h4.put (s + 4) (.bool q) (by omega) (by omega)
  generalize a4.put (some (s + 4)) (.bool q) = a5 at t5 h5 ⊢
  refine wpList_val (w' := w) (v := .bool q) g6.2.1 (want_none g6.2.2) ?_ ?_
  · unfold execOp
    simp only [g6.1, eval_of t5]
    rfl
  · have h6 := h5.put (s + 5) (.bool q) (by omega) (by omega)
    exact next _ ⟨h6.x, h6.y, put_same _ _ _ (by have := h5.n; omega), h6.n, h6.d⟩
end
end Go.Proofs.YtpicnoinnngpeaaGreat
/- underWay, Count and full of package book. -/
namespace Go.Proofs.YtpicnoinnngpeaaGreat
open Go.RowKit Go.Maps
section
variable {w : World}
set_option maxHeartbeats 1000000 in
set_option maxRecDepth 100000 in
theorem under_any (s : SagaD) : Calls Tryz.prog 52 #[s.val] w (Gives (.bool (decide (s.st = 1) || decide (s.st = 2))) w) := by
  obtain ⟨W1, hW1⟩ : ∃ W1, W1 = w.alloc (.cells s.cells.toArray 36 (0, 0)) := ⟨_, rfl⟩
  obtain ⟨y, hy⟩ : ∃ y, y = w.heap.size := ⟨_, rfl⟩
  have X1 : Hid (SBox 36 y s W1) := by rw [hW1, hy]; exact heap_alloc_new _ _
  have L1 : Hid (Later w W1) := by rw [hW1]; exact (Below.refl _ _).alloc (Nat.le_refl _) _
  have c2 := X1.out.c2
  rw [hW1, hy] at c2
  obtain ⟨st, hst⟩ : ∃ st, s.st = st := ⟨_, rfl⟩
  rw [hst] at c2 ⊢
  have HW1 := hide hW1.symm
  have HY := hide hy.symm
  clear hW1 hy hst
  by_cases h1 : st = 1
  · subst h1
    go_enter Tryz.func52, Tryz.ntmps52
    go_wp2
    go_ret
    exact ⟨rfl, by rw [HW1.out]; exact L1.out⟩
  · have e1 : (st == 1) = false := by simpa using h1
    have d1 : decide (st = 1) = false := by simpa using h1
    rw [d1]
    by_cases h2 : st = 2
    · subst h2
      clear h1 d1 e1
      go_enter Tryz.func52, Tryz.ntmps52
      go_wp2
      go_ret
      exact ⟨rfl, by rw [HW1.out]; exact L1.out⟩
    · have e2 : (st == 2) = false := by simpa using h2
      have d2 : decide (st = 2) = false := by simpa using h2
      rw [d2]
      clear h1 h2 d1 d2
      go_enter Tryz.func52, Tryz.ntmps52
      go_wp2
      go_ret
      exact ⟨rfl, by rw [HW1.out]; exact L1.out⟩
set_option maxHeartbeats 1000000 in
set_option maxRecDepth 100000 in
theorem state_is (x : Ent) (q : Option Addr) (n c : Nat) {pg : Nat} {st : Int} (hp : pg < w.heap.size) (hc : w.cell? ⟨pg, 0, none⟩ = some (.int .i64 st)) :
    Calls Tryz.prog 50 #[.int .i64 x.id, (x.s.withV q n c).val, .pointer (some ⟨pg, 0, none⟩)] w (Gives (.bool (x.s.st == st)) w) := by
  obtain ⟨s, hs⟩ : ∃ s, x.s.withV q n c = s := ⟨_, rfl⟩
  have hst : x.s.st = s.st := by rw [← hs]; rfl
  rw [hs, hst]
  obtain ⟨W1, hW1⟩ : ∃ W1, W1 = w.alloc (.cells s.cells.toArray 36 (0, 0)) := ⟨_, rfl⟩
  obtain ⟨y, hy⟩ : ∃ y, y = w.heap.size := ⟨_, rfl⟩
  have X1 : Hid (SBox 36 y s W1) := by rw [hW1, hy]; exact heap_alloc_new _ _
  have L1 : Hid (Later w W1) := by rw [hW1]; exact (Below.refl _ _).alloc (Nat.le_refl _) _
  have c2 := X1.out.c2
  have c1 : W1.cell? ⟨pg, 0, none⟩ = some (.int .i64 st) := (Below.cell L1.out (p := ⟨pg, 0, none⟩) hp).trans hc
  rw [hW1, hy] at c2
  rw [hW1] at c1
  obtain ⟨id, hid⟩ : ∃ id, x.id = id := ⟨_, rfl⟩
  rw [hid]
  obtain ⟨s0, hs0⟩ : ∃ s0, s.st = s0 := ⟨_, rfl⟩
  rw [hs0] at c2 ⊢
  have HW1 := hide hW1.symm
  clear hW1 hy hs hst hc hp hid hs0
  go_enter Tryz.func50, Tryz.ntmps50
  go_wp2
  go_ret
  exact ⟨rfl, by rw [HW1.out]; exact L1.out⟩
/-- Does it go on, and is it another one? -/
def another (id : Int) (x : Ent) : Bool := (x.id != id) && x.isOpen
set_option maxHeartbeats 1000000 in
set_option maxRecDepth 100000 in
theorem another_is (x : Ent) (q : Option Addr) (n c : Nat) {pg : Nat} {but : Int} (hp : pg < w.heap.size) (hc : w.cell? ⟨pg, 0, none⟩ = some (.int .i64 but)) :
    Calls Tryz.prog 88 #[.int .i64 x.id, (x.s.withV q n c).val, .pointer (some ⟨pg, 0, none⟩)] w (Gives (.bool (another but x)) w) := by
  obtain ⟨s, hs⟩ : ∃ s, x.s.withV q n c = s := ⟨_, rfl⟩
  have hst : x.s.st = s.st := by rw [← hs]; rfl
  unfold another Ent.isOpen
  rw [hs, hst]
  obtain ⟨W1, hW1⟩ : ∃ W1, W1 = w.alloc (.cells s.cells.toArray 36 (0, 0)) := ⟨_, rfl⟩
  obtain ⟨y, hy⟩ : ∃ y, y = w.heap.size := ⟨_, rfl⟩
  have X1 : Hid (SBox 36 y s W1) := by rw [hW1, hy]; exact heap_alloc_new _ _
  have L1 : Hid (Later w W1) := by rw [hW1]; exact (Below.refl _ _).alloc (Nat.le_refl _) _
  have c1 : W1.cell? ⟨pg, 0, none⟩ = some (.int .i64 but) := (Below.cell L1.out (p := ⟨pg, 0, none⟩) hp).trans hc
  have C := hide (under_any (w := W1) s)
  obtain ⟨id, hid⟩ : ∃ id, x.id = id := ⟨_, rfl⟩
  rw [hid]
  obtain ⟨r, hr⟩ : ∃ r, (decide (s.st = 1) || decide (s.st = 2)) = r := ⟨_, rfl⟩
  rw [hr] at C ⊢
  rw [hW1] at c1
  have HW1 := hide hW1.symm
  have HY := hide hy.symm
  have X2 : Hid (SBox 36 w.heap.size s (w.alloc (.cells s.cells.toArray 36 (0, 0)))) := heap_alloc_new _ _
  clear hW1 hy hs hst hc hp hid hr X1
  by_cases hb : id = but
  · have e1 : (id != but) = false := by simpa using hb
    rw [e1]
    go_enter Tryz.func88, Tryz.ntmps88
    go_wp2
    go_ret
    exact ⟨rfl, by rw [HW1.out]; exact L1.out⟩
  · have e1 : (id != but) = true := by simpa using hb
    rw [e1]
    go_enter Tryz.func88, Tryz.ntmps88
    go_wp2_with (refine wpList_val rfl (by rfl) (exec_load_saga _ (by rfl) (by rfl) X2.out) ?_; rw [HW1.out])
    refine C.out.mono ?_
    rintro e w2 ⟨rfl, hl⟩
    have HL := hide hl
    clear hl
    go_wp2
    go_ret
    exact ⟨rfl, L1.out.trans HL.out⟩
end
section
variable {F : Nat → Prop} {w : World} {g b k : Nat} {most : Int} {t : BkS}
theorem enters_state : ∀ args w, (callFunc 50 args).run Tryz.prog w = .ok (.enter 50 args) w := enters_of Tryz.func50 (by kernel_rfl) rfl
theorem enters_another : ∀ args w, (callFunc 88 args).run Tryz.prog w = .ok (.enter 88 args) w := enters_of Tryz.func88 (by kernel_rfl) rfl
def stateN (L : List Ent) (st : Int) : Nat := L.countP fun x => x.s.st == st
set_option maxHeartbeats 1000000 in
set_option maxRecDepth 100000 in
theorem counts_any (st : Int) (h : BookAt F w g b k most t) (hn : t.L.length ≤ 1000000) : Calls Tryz.prog 19 #[.pointer (some ⟨g, 0, none⟩), .int .i64 st] w (Gives (.int .i64 ((stateN t.L st : Nat) : Int)) w) := by
  obtain ⟨W1, hW1⟩ : ∃ W1, W1 = w.alloc (.cells #[.int .i64 st] 3 (0, 0)) := ⟨_, rfl⟩
  obtain ⟨y, hy⟩ : ∃ y, y = w.heap.size := ⟨_, rfl⟩
  have L1 : Hid (Later w W1) := by rw [hW1]; exact (Below.refl _ _).alloc (Nat.le_refl _) _
  have hb : W1.heap[y]? = some (.cells #[.int .i64 st] 3 (0, 0)) := by rw [hW1, hy]; exact heap_alloc_new _ _
  have hc : W1.cell? ⟨y, 0, none⟩ = some (.int .i64 st) := cell_of_row W1 y 0 _ _ _ hb
  have hlt := lt_of_block hb
  have C : Hid (Calls Tryz.prog 49 #[.pointer (some ⟨g, 0, none⟩), .func (.func 50) #[] #[.pointer (some ⟨y, 0, none⟩)]] W1 (Gives (.int .i64 ((stateN t.L st : Nat) : Int)) W1)) :=
    count_any _ _ (fun x => x.s.st == st) (h.later L1.out) hn enters_state fun W hW x _ q n c => state_is x q n c (Nat.lt_of_lt_of_le hlt (Below.size hW)) ((Below.cell hW (p := ⟨y, 0, none⟩) hlt).trans hc)
  have HW1 := hide hW1.symm
  have HY := hide hy.symm
  obtain ⟨r, hr⟩ : ∃ r, stateN t.L st = r := ⟨_, rfl⟩
  rw [hr] at C ⊢
  clear h hn hW1 hy hb hc hlt hr
  go_enter Tryz.func19, Tryz.ntmps19
  go_wp2_with (fail)
  simp only [HW1.out, HY.out]
  refine C.out.mono ?_
  rintro e w2 ⟨rfl, hl⟩
  have HL := hide hl
  clear hl
  go_wp2
  go_ret
  exact ⟨rfl, L1.out.trans HL.out⟩
def fullB (L : List Ent) (most id : Int) : Bool := decide (most ≤ ((L.countP (another id) : Nat) : Int))
set_option maxHeartbeats 1000000 in
set_option maxRecDepth 100000 in
theorem full_any (id : Int) (h : BookAt F w g b k most t) (hn : t.L.length ≤ 1000000) : Calls Tryz.prog 53 #[.pointer (some ⟨g, 0, none⟩), .int .i64 id] w (Gives (.bool (fullB t.L most id)) w) := by
  obtain ⟨W1, hW1⟩ : ∃ W1, W1 = w.alloc (.cells #[.int .i64 id] 3 (0, 0)) := ⟨_, rfl⟩
  obtain ⟨y, hy⟩ : ∃ y, y = w.heap.size := ⟨_, rfl⟩
  have L1 : Hid (Later w W1) := by rw [hW1]; exact (Below.refl _ _).alloc (Nat.le_refl _) _
  have hb : W1.heap[y]? = some (.cells #[.int .i64 id] 3 (0, 0)) := by rw [hW1, hy]; exact heap_alloc_new _ _
  have hc : W1.cell? ⟨y, 0, none⟩ = some (.int .i64 id) := cell_of_row W1 y 0 _ _ _ hb
  have hlt := lt_of_block hb
  obtain ⟨r, hr⟩ : ∃ r, t.L.countP (another id) = r := ⟨_, rfl⟩
  have C : Hid (∀ W, Later W1 W → Calls Tryz.prog 49 #[.pointer (some ⟨g, 0, none⟩), .func (.func 88) #[] #[.pointer (some ⟨y, 0, none⟩)]] W (Gives (.int .i64 (r : Int)) W)) := fun W hWW => by
    have hl0 : Later w W1 := L1.out
    have hlw : Later w W := Later.trans hl0 hWW
    have hbw := h.later hlw
    have := count_any 88 #[.pointer (some ⟨y, 0, none⟩)] (another id) hbw hn enters_another fun W' hW x _ q n c => by
      have hl9 : Later W1 W' := Later.trans hWW hW
      have h1 : y < W'.heap.size := Nat.lt_of_lt_of_le hlt (Below.size hl9)
      have h2 : W'.cell? ⟨y, 0, none⟩ = some (.int .i64 id) := (Below.cell hl9 (p := ⟨y, 0, none⟩) hlt).trans hc
      exact another_is x q n c h1 h2
    rw [hr] at this
    exact this
  have CF : Hid (∀ W, Later w W → W.cell? ⟨g, 0, none⟩ = some (.int .i64 most)) := fun W hW => (h.later hW).c0
  unfold fullB
  rw [hr]
  have HW1 := hide hW1.symm
  have HY := hide hy.symm
  clear h hn hW1 hy hb hc hlt hr
  go_enter Tryz.func53, Tryz.ntmps53
  go_wp2_with (fail)
  simp only [HW1.out, HY.out]
  refine wp_region_L (by kernel_rfl) ?_
  refine wpAnyL_take (i := 0) (d := some 5) (v := ?vaa0) rfl rfl (by kernel_rfl) (by kernel_rfl) (by kernel_rfl) (fun _ _ _ h => h) (by rfl) ?yaa0 ?_
  case yaa0 => (intro w' hw'; go_simp; try (with_reducible rfl))
  simp only [Act.put]; try simp only [List.setIfInBounds_toArray]; try simp only [List.set_cons_zero, List.set_cons_succ]
  refine wpAnyL_take (i := 1) (d := some 6) (v := ?vaa1) rfl rfl (by kernel_rfl) (by kernel_rfl) (by kernel_rfl) (fun _ _ _ h => h) (by rfl) ?yaa1 ?_
  case yaa1 => (intro w' hw'; go_simp; try (with_reducible rfl))
  simp only [Act.put]; try simp only [List.setIfInBounds_toArray]; try simp only [List.set_cons_zero, List.set_cons_succ]
  refine wpAnyL_take (i := 3) (d := some 8) (v := ?vaa3) rfl rfl (by kernel_rfl) (by kernel_rfl) (by kernel_rfl) (fun _ _ _ h => h) (by rfl) ?yaa3 ?_
  case yaa3 => (intro w' hw'; go_simp; try (with_reducible rfl))
  simp only [Act.put]; try simp only [List.setIfInBounds_toArray]; try simp only [List.set_cons_zero, List.set_cons_succ]
  refine wpAnyL_take (i := 4) (d := some 9) (v := ?vaa4) rfl rfl (by kernel_rfl) (by kernel_rfl) (by kernel_rfl) (fun _ _ _ h => h) (by rfl) ?yaa4 ?_
  case yaa4 => (intro w' hw'; go_simp; try (with_reducible rfl))
  simp only [Act.put]; try simp only [List.setIfInBounds_toArray]; try simp only [List.set_cons_zero, List.set_cons_succ]
  refine wpAnyL_take (i := 5) (d := some 10) (v := ?vaa5) rfl rfl (by kernel_rfl) (by kernel_rfl) (by kernel_rfl) (fun _ _ _ h => h) (by rfl) ?yaa5 ?_
  case yaa5 => (intro w' hw'; go_simp; try (with_reducible rfl))
  simp only [Act.put]; try simp only [List.setIfInBounds_toArray]; try simp only [List.set_cons_zero, List.set_cons_succ]
  refine wpAnyL_take (i := 6) (d := some 11) (v := ?vaa6) rfl rfl (by kernel_rfl) (by kernel_rfl) (by kernel_rfl) (fun _ _ _ h => h) (by rfl) ?yaa6 ?_
  case yaa6 => (intro w' hw'; have hd1 : Later w W1.drew := Later.trans (show Later w W1 from L1.out) (Later.drew _); have cc := CF.out _ (Later.trans hd1 hw'); clear hd1; go_simp; try (with_reducible rfl))
  simp only [Act.put]; try simp only [List.setIfInBounds_toArray]; try simp only [List.set_cons_zero, List.set_cons_succ]
  refine wpAnyL_only (i := 2) rfl (by kernel_rfl) (by rfl) fun K hK => ?_
  go_simp
  refine (C.out _ (Later.drew _)).mono ?_
  rintro e w1 ⟨rfl, hl⟩
  have hd0 : Later w W1 := L1.out
  have hd1 : Later W1 W1.drew := Later.drew _
  have hd2 : Later W1 w1 := Later.trans hd1 hl
  have HL : Hid (Later w w1) := Later.trans hd0 hd2
  clear hd0 hd1 hd2
  refine hK.out _ _ hl ?_
  clear hl
  clear hK K
  try (simp only [Act.put]; try simp only [List.setIfInBounds_toArray]; try simp only [List.set_cons_zero, List.set_cons_succ])
  refine wpAnyL_take (i := 7) (d := some 12) (v := ?vaa7) rfl rfl (by kernel_rfl) (by kernel_rfl) (by kernel_rfl) (fun _ _ _ h => h) (by rfl) ?yaa7 ?_
  case yaa7 => (intro w' hw'; go_simp; try (with_reducible rfl))
  simp only [Act.put]; try simp only [List.setIfInBounds_toArray]; try simp only [List.set_cons_zero, List.set_cons_succ]
  refine wpAnyL_take (i := 8) (d := some 4) (v := ?vaa8) rfl rfl (by kernel_rfl) (by kernel_rfl) (by kernel_rfl) (fun _ _ _ h => h) (by rfl) ?yaa8 ?_
  case yaa8 => (intro w' hw'; go_simp; try (with_reducible rfl))
  simp only [Act.put]; try simp only [List.setIfInBounds_toArray]; try simp only [List.set_cons_zero, List.set_cons_succ]
  refine wpAnyL_done (by kernel_rfl) ?_ _
  go_wp2
  go_ret
  exact ⟨rfl, HL.out⟩
end
end Go.Proofs.YtpicnoinnngpeaaGreat
/- Saga, Status and New of package book. -/
namespace Go.Proofs.YtpicnoinnngpeaaGreat
open Go.RowKit Go.Maps
/-- What a look-up says, whether it is there or not. -/
def AtV (F : Nat → Prop) (s : SagaD) (l : List StepD) (ok : Bool) (w : World) (e : Ending) (w' : World) : Prop := ∃ p n c, e = .returned (.tuple #[(s.withV p n c).val, .bool ok]) ∧ StepsAt F w' (.slice p n c) l ∧ Later w w'
def atS (t : BkS) (id : Int) : SagaD := match entAt t.L id with | some x => x.s | none => SagaD.zero
def atL (t : BkS) (id : Int) : List StepD := match entAt t.L id with | some x => x.l | none => []
def atB (t : BkS) (id : Int) : Bool := (entAt t.L id).isSome
section
variable {F : Nat → Prop} {w : World} {g b k : Nat} {most : Int} {t : BkS}
theorem bat_any (h : BookAt F w g b k most t) {id : Int} (hid : I64 id) : Calls Tryz.prog 29 #[.pointer (some ⟨g, 0, none⟩), .int .i64 id] w (AtV F (atS t id) (atL t id) (atB t id) w) := by
  unfold atS atL atB
  cases hx : entAt t.L id with
  | some x => exact at_some h hid hx
  | none =>
    refine (at_none h hid hx).mono ?_
    rintro e w' ⟨rfl, hl⟩
    exact ⟨none, 0, 0, rfl, StepsAt.nil_ _ _, hl⟩
theorem atL_len (h : BookAt F w g b k most t) (id : Int) : (atL t id).length ≤ 8 := by
  unfold atL
  cases hx : entAt t.L id with
  | some x => exact (h.ok.2.1 x (entAt_mem hx).1).1.2.1
  | none => simp
/-- A saga in memory of its own. -/
def OwnV (s : SagaD) (l : List StepD) (ok : Bool) (w : World) (e : Ending) (w' : World) : Prop := ∃ p n c, e = .returned (.tuple #[(s.withV p n c).val, .bool ok]) ∧ StepsAt (w.heap.size ≤ ·) w' (.slice p n c) l ∧ Later w w'
set_option maxHeartbeats 4000000 in
set_option maxRecDepth 100000 in
theorem saga_any (h : BookAt F w g b k most t) {id : Int} (hid : I64 id) : Calls Tryz.prog 12 #[.pointer (some ⟨g, 0, none⟩), .int .i64 id] w (OwnV (atS t id) (atL t id) (atB t id) w) := by
  obtain ⟨W1, hW1⟩ : ∃ W1, W1 = w.alloc (.cells #[.string ⟨#[]⟩, .slice none 0 0, .int .i64 0, .int .i64 0, .int .i64 0, .bool false, .bool false, .bool false, .bool false, .bool false, .bool false, .bool false, .bool false] 36 (0, 0)) := ⟨_, rfl⟩
  obtain ⟨y, hy⟩ : ∃ y, y = w.heap.size := ⟨_, rfl⟩
  have Y1 : Hid (SBox 36 y SagaD.zero W1) := by rw [hW1, hy]; exact heap_alloc_new _ _
  have L1 : Hid (Later w W1) := by rw [hW1]; exact (Below.refl _ _).alloc (Nat.le_refl _) _
  have HY : Hid (w.heap.size ≤ y) := Nat.le_of_eq hy.symm
  have C := hide (bat_any (h.later L1.out) hid)
  have HL8 := hide (atL_len h id)
  obtain ⟨s, hs⟩ : ∃ s, atS t id = s := ⟨_, rfl⟩
  obtain ⟨l, hl⟩ : ∃ l, atL t id = l := ⟨_, rfl⟩
  obtain ⟨q, hq⟩ : ∃ q, atB t id = q := ⟨_, rfl⟩
  rw [hs, hl, hq] at C
  rw [hl] at HL8
  rw [hs, hl, hq]
  have HW1 := hide hW1.symm
  have HG := hide hy.symm
  clear h hid hW1 hy hs hl hq
  go_enter Tryz.func12, Tryz.ntmps12
  go_wp2_with (fail)
  simp only [HW1.out, HG.out]
  refine C.out.mono ?_
  rintro e w2 ⟨p, n, c, rfl, hs, hl2⟩
  obtain ⟨s2, hs2⟩ : ∃ s2, s.withV p n c = s2 := ⟨_, rfl⟩
  have hv : s2.v = .slice p n c := by rw [← hs2]; rfl
  rw [← hv] at hs
  have L2a : Later w W1 := L1.out
  have L2 : Hid (Later w w2) := Later.trans L2a hl2
  have Y2 : Hid (SBox 36 y SagaD.zero w2) := Y1.out.below hl2
  rw [hs2]
  have HS2 := hide hs2
  have T2 : Hid (SBox 36 w2.heap.size SagaD.zero (w2.alloc (.cells #[.string ⟨#[]⟩, .slice none 0 0, .int .i64 0, .int .i64 0, .int .i64 0, .bool false, .bool false, .bool false, .bool false, .bool false, .bool false, .bool false, .bool false] 36 (0, 0)))) := heap_alloc_new _ _
  have L2b : Hid (Later w2 (w2.alloc (.cells #[.string ⟨#[]⟩, .slice none 0 0, .int .i64 0, .int .i64 0, .int .i64 0, .bool false, .bool false, .bool false, .bool false, .bool false, .bool false, .bool false, .bool false] 36 (0, 0)))) := (Below.refl _ _).alloc (Nat.le_refl _) _
  have HS := hide hs
  clear hs hl2 C L2a hv hs2
  go_wp2_with (refine wpList_store_saga (s := s2) (by rfl) _ _ (by rfl) (by rfl) T2.out (by rfl) ?_)
  intro w3 X3 G3
  have L3 : Hid (Later w2 w3) := L2b.out.grown G3 (by simp) (fun k hk => by have := Option.some.inj hk; omega)
  have HX3 := hide X3
  have C2 := hide (bown_any (StepsAt.kept HS.out (Kept.of_below L3.out F)) (by have := HL8.out; omega))
  have Y3 : Hid (SBox 36 y SagaD.zero w3) := Y2.out.below L3.out
  clear X3 G3
  go_wp2_with (refine wpList_load_saga (by rfl) _ (by rfl) (by rfl) HX3.out ?_)
  refine C2.out.mono ?_
  rintro e w4 ⟨p4, n4, c4, rfl, hs4, hl4⟩
  have Y4 : Hid (SBox 36 y SagaD.zero w4) := Y3.out.below hl4
  have L4a : Later w w2 := L2.out
  have L4b : Later w2 w4 := Later.trans L3.out hl4
  have L4 : Hid (Later w w4) := Later.trans L4a L4b
  have HS4 := hide hs4
  have HLT : Hid (y < w3.heap.size) := SBox.lt Y3.out
  clear hs4 hl4 L4a L4b C2
  go_wp2_with (refine wpList_store_saga (s := s2.withV p4 n4 c4) (by rfl) _ _ (by rfl) (by rfl) Y4.out (by rfl) ?_)
  intro w5 Z5 G5
  have HZ5 := hide Z5
  have HLF : Hid (Later w w5) := L4.out.grown G5 (Below.size L4.out) (fun k hk => by have := Option.some.inj hk; have := HY.out; omega)
  have S5 : Hid (StepsAt (w.heap.size ≤ ·) w5 (.slice p4 n4 c4) l) := FlatAt.mono (StepsAt.kept HS4.out (Kept.of_grown G5 (fun k hk hf => by have := Option.some.inj hk; have := HLT.out; omega))) (fun i _ hf => by have h1 : w3.heap.size ≤ i := hf; have h2 := Below.size L2.out; have h3 := Below.size L3.out; omega)
  clear Z5 G5
  go_wp2
  refine bodyPost_ret (results_box2 Tryz.results12 _ _ y 36 _ _ (by rfl) HZ5.out Tryz.underlying36 (by rfl) (by kernel_rfl) (.bool q) (by rfl)) (by rfl) ?_
  exact ⟨p4, n4, c4, by rw [← HS2.out]; rfl, S5.out, HLF.out⟩

/-- The block g holds a reply. -/
def RBox (g : Nat) (r : RepD) (w : World) : Prop := w.heap[g]? = some (.cells r.cells.toArray 44 (0, 0))
theorem RepD.one (r : RepD) : ∀ u ∈ r.cells, u.oneCell' = true := by
  intro u hu
  simp only [RepD.cells, List.mem_cons, List.not_mem_nil, or_false] at hu
  rcases hu with rfl | rfl | rfl | rfl <;> rfl
theorem rep_put (x y : RepD) : putAt x.cells.toArray 0 y.cells = y.cells.toArray := by simp [putAt, RepD.cells]
theorem RBox.below {g : Nat} {r : RepD} {w w' : World} (h : RBox g r w) (hl : Later w w') : RBox g r w' := (Below.block hl g (lt_of_block h)).trans h
theorem RBox.other {g : Nat} {x : RepD} {w w' : World} (h : RBox g x w) {r : Option Nat} (hg : w.grownBy w' r) (hr : some g ≠ r) : RBox g x w' := (hg.block g (lt_of_block h) hr).trans h
theorem RBox.turned {Q : Nat → Prop} {g : Nat} {r : RepD} {w w' : World} (h : RBox g r w) (ht : Turned Q w w') (hq : ¬ Q g) : RBox g r w' := (ht.block g (lt_of_block h) hq).trans h
section
variable {ops : Array Oper} {rest : List Oper} {op : Oper} {a : Act} {W : World} {Q : Exit → Act → World → Prop} {g : Nat} {r z : RepD}
theorem wpList_store_rep (hgd : op.guard = none) (x y : Operand) (ho : op.op = .store 44 x y) (hx : a.eval x = .pointer (some ⟨g, 0, none⟩)) (hg : RBox g z W) (hy : a.eval y = r.val)
    (h : ∀ w', RBox g r w' → W.grownBy w' (some g) → wpList Tryz.prog ops Q rest (a.put op.dst undef) w') : wpList Tryz.prog ops Q (op :: rest) a W :=
  wpList_store_box hgd 44 x y ho g 0 r.cells.toArray hx hy _ _ hg (by kernel_rfl) (by exact Nat.le_of_ble_eq_true rfl) (by exact r.one) (fun w' hb hg' => h w' (by rw [show r.cells.toArray.toList = r.cells from rfl, rep_put] at hb; exact hb) hg')
end
/-- The Status of that number. -/
theorem status_at (L : List Ent) (last id : Int) : statusF L id = if atB ⟨last, L⟩ id then ⟨0, id, (atS ⟨last, L⟩ id).st, (atS ⟨last, L⟩ id).step⟩ else errR 8 := by
  unfold statusF atB atS
  cases hx : entAt L id <;> rfl
set_option maxHeartbeats 4000000 in
set_option maxRecDepth 100000 in
theorem status_any (h : BookAt F w g b k most t) {id : Int} (hid : I64 id) : Calls Tryz.prog 17 #[.pointer (some ⟨g, 0, none⟩), .int .i64 id] w (Gives (statusF t.L id).val w) := by
  obtain ⟨W1, hW1⟩ : ∃ W1, W1 = w.alloc (.cells #[.int .i64 0, .int .i64 0, .int .i64 0, .int .i64 0] 44 (0, 0)) := ⟨_, rfl⟩
  obtain ⟨y, hy⟩ : ∃ y, y = w.heap.size := ⟨_, rfl⟩
  have Y1 : Hid (RBox y (errR 0) W1) := by rw [hW1, hy]; exact heap_alloc_new _ _
  have L1 : Hid (Later w W1) := by rw [hW1]; exact (Below.refl _ _).alloc (Nat.le_refl _) _
  have HY : Hid (w.heap.size ≤ y) := Nat.le_of_eq hy.symm
  have CM := hide (made_yes (h.later L1.out))
  have C := hide (bat_any (h.later L1.out) hid)
  rw [status_at t.L t.last id]
  change Calls _ _ _ _ (Gives (if atB t id then (⟨0, id, (atS t id).st, (atS t id).step⟩ : RepD) else errR 8).val w)
  obtain ⟨s, hs⟩ : ∃ s, atS t id = s := ⟨_, rfl⟩
  obtain ⟨l, hl⟩ : ∃ l, atL t id = l := ⟨_, rfl⟩
  obtain ⟨q, hq⟩ : ∃ q, atB t id = q := ⟨_, rfl⟩
  rw [hs, hl, hq] at C
  rw [hs, hq]
  have HW1 := hide hW1.symm
  have HG := hide hy.symm
  clear h hid hW1 hy hs hl hq
  cases q with
  | true =>
    rw [if_pos rfl]
    obtain ⟨st, hst⟩ : ∃ st, s.st = st := ⟨_, rfl⟩
    obtain ⟨sp, hsp⟩ : ∃ sp, s.step = sp := ⟨_, rfl⟩
    rw [hst, hsp]
    have HST := hide hst
    have HSP := hide hsp
    clear hst hsp
    go_enter Tryz.func17, Tryz.ntmps17
    go_wp2_with (fail)
    simp only [HW1.out, HG.out]
    refine CM.out.mono ?_
    rintro e w2 ⟨rfl, rfl⟩
    go_wp2_with (fail)
    refine C.out.mono ?_
    rintro e w2 ⟨p, n, c, rfl, hs, hl2⟩
    obtain ⟨s2, hs2⟩ : ∃ s2, s.withV p n c = s2 := ⟨_, rfl⟩
    have E2 : Hid (s2.st = st) := by show s2.st = st; rw [← hs2]; exact HST.out
    have E3 : Hid (s2.step = sp) := by show s2.step = sp; rw [← hs2]; exact HSP.out
    rw [hs2]
    have L2a : Later w W1 := L1.out
    have L2 : Hid (Later w w2) := Later.trans L2a hl2
    have Y2 : Hid (RBox y (errR 0) w2) := Y1.out.below hl2
    have T2 : Hid (SBox 36 w2.heap.size SagaD.zero (w2.alloc (.cells #[.string ⟨#[]⟩, .slice none 0 0, .int .i64 0, .int .i64 0, .int .i64 0, .bool false, .bool false, .bool false, .bool false, .bool false, .bool false, .bool false, .bool false] 36 (0, 0)))) := heap_alloc_new _ _
    have L2b : Hid (Later w2 (w2.alloc (.cells #[.string ⟨#[]⟩, .slice none 0 0, .int .i64 0, .int .i64 0, .int .i64 0, .bool false, .bool false, .bool false, .bool false, .bool false, .bool false, .bool false, .bool false] 36 (0, 0)))) := (Below.refl _ _).alloc (Nat.le_refl _) _
    clear hs hl2 C CM L2a hs2
    go_wp2_with (refine wpList_store_saga (s := s2) (by rfl) _ _ (by rfl) (by rfl) T2.out (by rfl) ?_)
    intro w3 X3 G3
    have L3 : Hid (Later w2 w3) := L2b.out.grown G3 (by simp) (fun k hk => by have := Option.some.inj hk; omega)
    have c2 := SBox.c2 X3
    have c3 := SBox.c3 X3
    have Y3 : Hid (RBox y (errR 0) w3) := Y2.out.below L3.out
    have L4a : Later w w2 := L2.out
    have L4b : Later w2 w3 := L3.out
    have L4 : Hid (Later w w3) := Later.trans L4a L4b
    clear X3 G3 L4a L4b
    rw [E2.out] at c2
    rw [E3.out] at c3
    go_wp2_with (refine wpList_store_rep (r := ⟨0, id, st, sp⟩) (by rfl) _ _ (by rfl) (by rfl) Y3.out (by rfl) ?_)
    intro w5 Z5 G5
    have HLF : Hid (Later w w5) := L4.out.grown G5 (Below.size L4.out) (fun k hk => by have := Option.some.inj hk; have := HY.out; omega)
    have HZ5 := hide Z5
    clear Z5 G5
    go_wp2
    refine bodyPost_ret (results_cell_row Tryz.results17 _ _ y 44 _ (0, 0) _ (by rfl) HZ5.out Tryz.underlying44 (by rfl) (by kernel_rfl)) (by rfl) ?_
    exact ⟨rfl, HLF.out⟩
  | false =>
    rw [if_neg (by simp)]
    go_enter Tryz.func17, Tryz.ntmps17
    go_wp2_with (fail)
    simp only [HW1.out, HG.out]
    refine CM.out.mono ?_
    rintro e w2 ⟨rfl, rfl⟩
    go_wp2_with (fail)
    refine C.out.mono ?_
    rintro e w2 ⟨p, n, c, rfl, hs, hl2⟩
    obtain ⟨s2, hs2⟩ : ∃ s2, s.withV p n c = s2 := ⟨_, rfl⟩
    rw [hs2]
    have L2a : Later w W1 := L1.out
    have L2 : Hid (Later w w2) := Later.trans L2a hl2
    have Y2 : Hid (RBox y (errR 0) w2) := Y1.out.below hl2
    have T2 : Hid (SBox 36 w2.heap.size SagaD.zero (w2.alloc (.cells #[.string ⟨#[]⟩, .slice none 0 0, .int .i64 0, .int .i64 0, .int .i64 0, .bool false, .bool false, .bool false, .bool false, .bool false, .bool false, .bool false, .bool false] 36 (0, 0)))) := heap_alloc_new _ _
    have L2b : Hid (Later w2 (w2.alloc (.cells #[.string ⟨#[]⟩, .slice none 0 0, .int .i64 0, .int .i64 0, .int .i64 0, .bool false, .bool false, .bool false, .bool false, .bool false, .bool false, .bool false, .bool false] 36 (0, 0)))) := (Below.refl _ _).alloc (Nat.le_refl _) _
    clear hs hl2 C CM L2a hs2
    go_wp2_with (refine wpList_store_saga (s := s2) (by rfl) _ _ (by rfl) (by rfl) T2.out (by rfl) ?_)
    intro w3 X3 G3
    have L3 : Hid (Later w2 w3) := L2b.out.grown G3 (by simp) (fun k hk => by have := Option.some.inj hk; omega)
    have Y3 : Hid (RBox y (errR 0) w3) := Y2.out.below L3.out
    have L4a : Later w w2 := L2.out
    have L4b : Later w2 w3 := L3.out
    have L4 : Hid (Later w w3) := Later.trans L4a L4b
    clear X3 G3 L4a L4b
    go_wp2_with (refine wpList_store_rep (r := errR 8) (by rfl) _ _ (by rfl) (by rfl) Y3.out (by rfl) ?_)
    intro w5 Z5 G5
    have HLF : Hid (Later w w5) := L4.out.grown G5 (Below.size L4.out) (fun k hk => by have := Option.some.inj hk; have := HY.out; omega)
    have HZ5 := hide Z5
    clear Z5 G5
    go_wp2
    refine bodyPost_ret (results_cell_row Tryz.results17 _ _ y 44 _ (0, 0) _ (by rfl) HZ5.out Tryz.underlying44 (by rfl) (by kernel_rfl)) (by rfl) ?_
    exact ⟨rfl, HLF.out⟩
/-- What New hands back where there may be so many. -/
def NewBook (w : World) (most : Int) (e : Ending) (w' : World) : Prop :=
  ∃ g b, e = .returned (.pointer (some ⟨g, 0, none⟩)) ∧ w.heap.size ≤ g ∧ w.heap.size ≤ b ∧ Later w w' ∧ ∀ F : Nat → Prop, ¬ F g → ¬ F b → BookAt F w' g b 0 most ⟨0, []⟩
set_option maxHeartbeats 400000 in
theorem new_no (most : Int) (w : World) (h : most < 0 ∨ 32 < most) : Calls Tryz.prog 10 #[.int .i64 most] w fun e w' => e = .returned (.pointer none) ∧ w = w' := by
  by_cases h0 : most < 0
  · clear h
    go_enter Tryz.func10, Tryz.ntmps10
    go_wp2
    go_ret
    exact ⟨rfl, rfl⟩
  · have h1 : 32 < most := by omega
    clear h
    go_enter Tryz.func10, Tryz.ntmps10
    go_wp2
    go_ret
    exact ⟨rfl, rfl⟩
set_option maxHeartbeats 400000 in
theorem new_yes (most : Int) (w : World) (h0 : 0 ≤ most) (h1 : most ≤ 32) : Calls Tryz.prog 10 #[.int .i64 most] w (NewBook w most) := by
  have hmm := @run_makeMap Tryz.prog
  go_enter Tryz.func10, Tryz.ntmps10
  go_wp2
  go_ret
  refine ⟨w.heap.size + 1, w.heap.size, rfl, by omega, by omega, ((Below.refl _ _).alloc (Nat.le_refl _) _).alloc (by simp) _, fun F hg hb => ⟨heap_alloc2_new w _ _, ⟨fun _ => ⟨none, 0, 0⟩, ?_, by simp⟩, ⟨.nil, by simp, by decide, by decide⟩, by omega, hg, hb⟩⟩
  exact (World.ownsMap_made w Tryz.prog 3 heldR).alloc _
end
end Go.Proofs.YtpicnoinnngpeaaGreat
/- Contracts of the library laid at this program: its numbers, and that its bodies are the ones that the contracts speak of. -/
namespace Go.Proofs.YtpicnoinnngpeaaGreat
open Go.Shelf
def Tryz.keysA_ren : Go.Shelf.Ren := ⟨fun | 7 => 60 | 10 => 94 | n => n, fun | 23 => 77 | 26 => 3 | 3 => 36 | 28 => 107 | 0 => 0 | 27 => 106 | 33 => 100 | 4 => 4 | n => n, fun | n => n⟩
theorem Tryz.keysA : Go.Proofs.SlLaysZI.n7 Tryz.prog Tryz.keysA_ren := {
  mixed := by kernel_rfl
  f7 := ⟨Tryz.f60.name, by decide, Tryz.func60.trans (congrArg some (by kernel_rfl))⟩
  f10 := ⟨Tryz.f94.name, by decide, Tryz.func94.trans (congrArg some (by kernel_rfl))⟩
  t0 := Tryz.underlying0
  a0 := Tryz.isAgg0
  z0 := Tryz.sizeOf0
  v0 := Tryz.zeroValue0
  t4 := Tryz.underlying4
  a4 := Tryz.isAgg4
  z4 := Tryz.sizeOf4
  v4 := Tryz.zeroValue4
  t23 := Tryz.underlying77
  a23 := Tryz.isAgg77
  z23 := Tryz.sizeOf77
  v23 := Tryz.zeroValue77
  t26 := Tryz.underlying3
  a26 := Tryz.isAgg3
  z26 := Tryz.sizeOf3
  v26 := Tryz.zeroValue3
  t27 := Tryz.underlying106
  a27 := Tryz.isAgg106
  z27 := Tryz.sizeOf106
  v27 := Tryz.zeroValue106
  t28 := Tryz.underlying107
  a28 := Tryz.isAgg107
  z28 := Tryz.sizeOf107
  v28 := Tryz.zeroValue107
  t33 := Tryz.underlying100
  a33 := Tryz.isAgg100
  z33 := Tryz.sizeOf100
  v33 := Tryz.zeroValue100 }
def Tryz.sortedA_ren : Go.Shelf.Ren := ⟨fun | 6 => 59 | 8 => 92 | 9 => 93 | 11 => 113 | 13 => 115 | 12 => 114 | 23 => 134 | 24 => 135 | 14 => 125 | 15 => 126 | 16 => 127 | 17 => 128 | 18 => 129 | 19 => 130 | 20 => 131 | 21 => 132 | 22 => 133 | 25 => 142 | 26 => 143 | 27 => 144 | 28 => 145 | 29 => 146 | 30 => 147 | 31 => 154 | n => n, fun | 26 => 3 | 28 => 107 | 24 => 67 | 0 => 0 | 3 => 3 | 37 => 60 | 48 => 165 | 50 => 167 | 4 => 4 | 40 => 157 | 39 => 156 | 45 => 162 | 5 => 5 | 9 => 9 | 51 => 172 | 55 => 176 | 57 => 182 | 58 => 127 | 33 => 100 | n => n, fun | n => n⟩
theorem Tryz.sortedA : Go.Proofs.SlLaysZI.n6 Tryz.prog Tryz.sortedA_ren := {
  mixed := by kernel_rfl
  f6 := ⟨Tryz.f59.name, by decide, Tryz.func59.trans (congrArg some (by kernel_rfl))⟩
  f8 := ⟨Tryz.f92.name, by decide, Tryz.func92.trans (congrArg some (by kernel_rfl))⟩
  f11 := ⟨Tryz.f113.name, by decide, Tryz.func113.trans (congrArg some (by kernel_rfl))⟩
  t0 := Tryz.underlying0
  a0 := Tryz.isAgg0
  z0 := Tryz.sizeOf0
  v0 := Tryz.zeroValue0
  t24 := Tryz.underlying67
  a24 := Tryz.isAgg67
  z24 := Tryz.sizeOf67
  v24 := Tryz.zeroValue67
  t26 := Tryz.underlying3
  a26 := Tryz.isAgg3
  z26 := Tryz.sizeOf3
  v26 := Tryz.zeroValue3
  t28 := Tryz.underlying107
  a28 := Tryz.isAgg107
  z28 := Tryz.sizeOf107
  v28 := Tryz.zeroValue107
  i26 := by kernel_rfl }
def Tryz.sortA_ren : Go.Shelf.Ren := ⟨fun | 5 => 93 | 8 => 115 | 7 => 114 | 19 => 134 | 20 => 135 | 10 => 125 | 11 => 126 | 12 => 127 | 13 => 128 | 14 => 129 | 15 => 130 | 16 => 131 | 17 => 132 | 18 => 133 | 30 => 142 | 31 => 143 | 32 => 144 | 33 => 145 | 34 => 146 | 35 => 147 | 40 => 154 | n => n, fun | 23 => 67 | 25 => 3 | 3 => 3 | 32 => 60 | 22 => 67 | 0 => 0 | 44 => 165 | 46 => 167 | 4 => 4 | 36 => 157 | 35 => 156 | 41 => 162 | 5 => 5 | 9 => 9 | 53 => 172 | 57 => 176 | 63 => 182 | 64 => 127 | n => n, fun | n => n⟩
theorem Tryz.sortA : Go.Proofs.SlLaysM.n5 Tryz.prog Tryz.sortA_ren := {
  mixed := by kernel_rfl
  f5 := ⟨Tryz.f93.name, by decide, Tryz.func93.trans (congrArg some (by kernel_rfl))⟩
  f7 := ⟨Tryz.f114.name, by decide, Tryz.func114.trans (congrArg some (by kernel_rfl))⟩
  f8 := Tryz.func115.trans (congrArg some (by kernel_rfl))
  f10 := ⟨Tryz.f125.name, by decide, Tryz.func125.trans (congrArg some (by kernel_rfl))⟩
  f11 := ⟨Tryz.f126.name, by decide, Tryz.func126.trans (congrArg some (by kernel_rfl))⟩
  f12 := ⟨Tryz.f127.name, by decide, Tryz.func127.trans (congrArg some (by kernel_rfl))⟩
  f13 := ⟨Tryz.f128.name, by decide, Tryz.func128.trans (congrArg some (by kernel_rfl))⟩
  f14 := ⟨Tryz.f129.name, by decide, Tryz.func129.trans (congrArg some (by kernel_rfl))⟩
  f15 := ⟨Tryz.f130.name, by decide, Tryz.func130.trans (congrArg some (by kernel_rfl))⟩
  f16 := ⟨Tryz.f131.name, by decide, Tryz.func131.trans (congrArg some (by kernel_rfl))⟩
  f17 := ⟨Tryz.f132.name, by decide, Tryz.func132.trans (congrArg some (by kernel_rfl))⟩
  f18 := ⟨Tryz.f133.name, by decide, Tryz.func133.trans (congrArg some (by kernel_rfl))⟩
  f19 := Tryz.func134.trans (congrArg some (by kernel_rfl))
  f20 := Tryz.func135.trans (congrArg some (by kernel_rfl))
  f30 := ⟨Tryz.f142.name, by decide, Tryz.func142.trans (congrArg some (by kernel_rfl))⟩
  f31 := Tryz.func143.trans (congrArg some (by kernel_rfl))
  f32 := Tryz.func144.trans (congrArg some (by kernel_rfl))
  f33 := ⟨Tryz.f145.name, by decide, Tryz.func145.trans (congrArg some (by kernel_rfl))⟩
  f34 := ⟨Tryz.f146.name, by decide, Tryz.func146.trans (congrArg some (by kernel_rfl))⟩
  f35 := ⟨Tryz.f147.name, by decide, Tryz.func147.trans (congrArg some (by kernel_rfl))⟩
  f40 := ⟨Tryz.f154.name, by decide, Tryz.func154.trans (congrArg some (by kernel_rfl))⟩
  t0 := Tryz.underlying0
  a0 := Tryz.isAgg0
  z0 := Tryz.sizeOf0
  v0 := Tryz.zeroValue0
  t3 := Tryz.underlying3
  a3 := Tryz.isAgg3
  z3 := Tryz.sizeOf3
  v3 := Tryz.zeroValue3
  t4 := Tryz.underlying4
  a4 := Tryz.isAgg4
  z4 := Tryz.sizeOf4
  v4 := Tryz.zeroValue4
  t5 := Tryz.underlying5
  a5 := Tryz.isAgg5
  z5 := Tryz.sizeOf5
  v5 := Tryz.zeroValue5
  t9 := Tryz.underlying9
  a9 := Tryz.isAgg9
  z9 := Tryz.sizeOf9
  v9 := Tryz.zeroValue9
  t22 := Tryz.underlying67
  a22 := Tryz.isAgg67
  z22 := Tryz.sizeOf67
  v22 := Tryz.zeroValue67
  t23 := Tryz.underlying67
  a23 := Tryz.isAgg67
  z23 := Tryz.sizeOf67
  v23 := Tryz.zeroValue67
  t25 := Tryz.underlying3
  a25 := Tryz.isAgg3
  z25 := Tryz.sizeOf3
  v25 := Tryz.zeroValue3
  t32 := Tryz.underlying60
  a32 := Tryz.isAgg60
  z32 := Tryz.sizeOf60
  v32 := Tryz.zeroValue60
  t35 := Tryz.underlying156
  a35 := Tryz.isAgg156
  z35 := Tryz.sizeOf156
  v35 := Tryz.zeroValue156
  t36 := Tryz.underlying157
  a36 := Tryz.isAgg157
  z36 := Tryz.sizeOf157
  v36 := Tryz.zeroValue157
  t41 := Tryz.underlying162
  a41 := Tryz.isAgg162
  z41 := Tryz.sizeOf162
  v41 := Tryz.zeroValue162
  t44 := Tryz.underlying165
  a44 := Tryz.isAgg165
  z44 := Tryz.sizeOf165
  v44 := Tryz.zeroValue165
  t46 := Tryz.underlying167
  a46 := Tryz.isAgg167
  z46 := Tryz.sizeOf167
  v46 := Tryz.zeroValue167
  t53 := Tryz.underlying172
  a53 := Tryz.isAgg172
  z53 := Tryz.sizeOf172
  v53 := Tryz.zeroValue172
  t57 := Tryz.underlying176
  a57 := Tryz.isAgg176
  z57 := Tryz.sizeOf176
  v57 := Tryz.zeroValue176
  t63 := Tryz.underlying182
  a63 := Tryz.isAgg182
  z63 := Tryz.sizeOf182
  v63 := Tryz.zeroValue182
  t64 := Tryz.underlying127
  a64 := Tryz.isAgg127
  z64 := Tryz.sizeOf127
  v64 := Tryz.zeroValue127 }
def Tryz.cloneM_ren : Go.Shelf.Ren := ⟨fun | 5 => 57 | 7 => 91 | n => n, fun | 23 => 77 | 25 => 3 | 3 => 36 | 4 => 4 | 20 => 20 | n => n, fun | n => n⟩
theorem Tryz.cloneM : Go.Proofs.SlLaysW.n5 Tryz.prog Tryz.cloneM_ren := {
  mixed := by kernel_rfl
  f5 := ⟨Tryz.f57.name, by decide, Tryz.func57.trans (congrArg some (by kernel_rfl))⟩
  f7 := Tryz.func91.trans (congrArg some (by kernel_rfl))
  t4 := Tryz.underlying4
  a4 := Tryz.isAgg4
  z4 := Tryz.sizeOf4
  v4 := Tryz.zeroValue4
  t20 := Tryz.underlying20
  a20 := Tryz.isAgg20
  z20 := Tryz.sizeOf20
  v20 := Tryz.zeroValue20
  t23 := Tryz.underlying77
  a23 := Tryz.isAgg77
  z23 := Tryz.sizeOf77
  v23 := Tryz.zeroValue77 }
end Go.Proofs.YtpicnoinnngpeaaGreat
/- What is said of memory, for slices of int: a slice that holds a list of integers, nil and empty ones among them; a row of ints that the call itself made. -/
namespace Go.Proofs.YtpicnoinnngpeaaGreat
open Go.RowKit

def iv (x : Int) : Value := .int .i64 x
def ivs (l : List Int) : List Value := l.map iv

theorem ivs_len (l : List Int) : (ivs l).length = l.length := by simp [ivs]
theorem ivs_append (a b : List Int) : ivs (a ++ b) = ivs a ++ ivs b := by simp [ivs]
theorem ivs_one (x : Int) : ivs [x] = [.int .i64 x] := rfl
theorem ivs_cell (l : List Int) : ∀ u ∈ ivs l, u.oneCell' = true := by
  intro u hu
  obtain ⟨_, _, rfl⟩ := List.mem_map.1 hu
  rfl
theorem ivs_get {l : List Int} {i : Nat} (h : i < l.length) : (ivs l)[i]? = some (.int .i64 (l.getD i 0)) := by
  simp [ivs, iv, h]
theorem ivs_set (l : List Int) (i : Nat) (x : Int) : ivs (l.set i x) = (ivs l).set i (.int .i64 x) := by simp [ivs, iv, List.map_set]

/-- All of them fit an int. -/
def Fit (l : List Int) : Prop := ∀ x ∈ l, -9223372036854775808 ≤ x ∧ x < 9223372036854775808
theorem Fit.get {l : List Int} (h : Fit l) (i : Nat) : -9223372036854775808 ≤ l.getD i 0 ∧ l.getD i 0 < 9223372036854775808 := by
  by_cases hi : i < l.length
  · have e : l.getD i 0 = l[i] := by simp [List.getD, hi]
    rw [e]
    exact h _ (List.getElem_mem hi)
  · have e : l.getD i 0 = 0 := by simp [List.getD, Nat.not_lt.1 hi]
    rw [e]
    decide

/-- The slice at 'A', of 'n' ints, holds the list l, in a block below B. -/
def IHolds (w : World) (B : Nat) (A : Option Addr) (n : Nat) (l : List Int) : Prop :=
  l.length = n ∧ Fit l ∧ (0 < n → ∃ b off, A = some ⟨b, off, none⟩ ∧ b < B ∧ ∀ i, i < n → w.cell? ⟨b, off + i, none⟩ = some (.int .i64 (l.getD i 0)))

section
variable {w w' : World} {B B' : Nat} {A : Option Addr} {n : Nat} {l : List Int}
theorem IHolds.nil_ (w : World) (B : Nat) : IHolds w B none 0 [] := ⟨rfl, by simp [Fit], fun h => by omega⟩
theorem IHolds.keep (h : IHolds w B A n l) (hk : ∀ p : Addr, p.block < B → w'.cell? p = w.cell? p) : IHolds w' B A n l :=
  ⟨h.1, h.2.1, fun hn => by
    obtain ⟨b, off, e, hb, hc⟩ := h.2.2 hn
    exact ⟨b, off, e, hb, fun i hi => (hk ⟨b, off + i, none⟩ hb).trans (hc i hi)⟩⟩
theorem IHolds.below (h : IHolds w B A n l) (hb : Below B w w') : IHolds w' B A n l := h.keep fun _ hp => hb.cell hp
theorem IHolds.more (h : IHolds w B A n l) (hB : B ≤ B') : IHolds w B' A n l :=
  ⟨h.1, h.2.1, fun hn => by
    obtain ⟨b, off, e, hb, hc⟩ := h.2.2 hn
    exact ⟨b, off, e, by omega, hc⟩⟩
theorem IHolds.drew (h : IHolds w B A n l) : IHolds w.drew B A n l := h
theorem IHolds.drewN (h : IHolds w B A n l) (k : Nat) : IHolds (w.drewN k) B A n l := h
/-- The cell of one of them, at an address that is there. -/
theorem IHolds.at_ (h : IHolds w B A n l) {i : Nat} (hi : i < n) : ∃ b off, A = some ⟨b, off, none⟩ ∧ b < B ∧ w.cell? ⟨b, off + i, none⟩ = some (.int .i64 (l.getD i 0)) := by
  obtain ⟨b, off, e, hb, hc⟩ := h.2.2 (by omega)
  exact ⟨b, off, e, hb, hc i hi⟩
/-- A row of the call's own is such a slice. -/
theorem IHolds.of_own {base e : Nat} {v : Value} (h : w.ownsRow base e 1 v n (ivs l)) (hs : Fit l) : ∃ A c, v = .slice A n c ∧ n ≤ c ∧ (A = none → c = 0) ∧ IHolds w w.heap.size A n l := by
  have hl : l.length = n := by have := h.1; rw [ivs_len] at this; omega
  rcases h.2 with ⟨rfl, rfl⟩ | ⟨g, cap, cur, rfl, _, hg, hnc, _, _, _⟩
  · exact ⟨none, 0, rfl, Nat.le_refl _, fun _ => rfl, hl, hs, fun h => by omega⟩
  · refine ⟨some ⟨g, 0, none⟩, cap, rfl, hnc, (fun h => by cases h), hl, hs, fun hn => ⟨g, 0, rfl, ?_, fun i hi => ?_⟩⟩
    · exact (Array.getElem?_eq_some_iff.1 hg).1
    · have := h.cellAt i (by omega)
      rw [Nat.zero_add, this, ivs_get (by omega)]
end

/-- What a call hands back that makes ints: a slice of the call's own, that holds l; nothing that was there has turned. -/
def NewInts (w : World) (l : List Int) (e : Ending) (w' : World) : Prop :=
  ∃ A n c, e = .returned (.slice A n c) ∧ w'.ownsRow w.heap.size 3 1 (.slice A n c) n (ivs l) ∧ IHolds w' w'.heap.size A n l ∧ n ≤ c ∧ Below w.heap.size w w'

theorem Tryz.infoI64 : (Tryz.prog.info? 3).map (fun i => (i.zero, i.size, i.bytes)) = some (some (.int .i64 0), 1, 8) := by kernel_rfl

section
variable {P : Program} (w : World)
/-- 'append(row, l...)', the row the call's own, l whatever slice of ints. -/
theorem run_append_ints (base : Nat) (t ty e : TypeId) (i : TypeInfo) (z : Value) (ht : P.underlying t = some (.slice e)) (hi : P.info? e = some i) (hz : i.zero = some z)
    (hsize : i.size = 1) (hby : i.bytes = 8) (hzs : z.cells.size = 1)
    (v : Value) (n : Nat) (xs : List Value) (hown : w.ownsRow base e 1 v n xs)
    (B : Nat) (A : Option Addr) (m c : Nat) (l : List Int) (hl : IHolds w B A m l) (hroom : n + m ≤ 8796093022208) (hbase : base ≤ w.heap.size) :
    ∃ v' w', (Builtin.append_ #[t, t] ty #[v, .slice A m c]).run P w = .ok v' w' ∧ w'.ownsRow base e 1 v' (n + m) (xs ++ ivs l) ∧ Went w v.ownBlock w' v'.ownBlock := by
  have hlen := hl.1
  rcases A with _ | ad
  · have hm : m = 0 := by
      rcases Nat.eq_zero_or_pos m with h | h
      · exact h
      · obtain ⟨_, _, h, _⟩ := hl.2.2 h
        cases h
    subst hm
    have : l = [] := List.eq_nil_of_length_eq_zero hlen
    subst this
    refine ⟨v, w, ?_, by simpa [ivs] using hown, Went.refl w _⟩
    rcases hown.2 with ⟨rfl, rfl⟩ | ⟨g, cap, cur, rfl, _, _, hnc, _⟩
    · simp [Builtin.append_, run_underlying ht, sizeOf, typeInfo, hi, Builtin.lenOf, Builtin.firstCells]
    · simp [Builtin.append_, run_underlying ht, sizeOf, typeInfo, hi, Builtin.lenOf, Builtin.firstCells, hnc, storeCells]
  · obtain ⟨v', w', h1, h2, h3, _, h5⟩ := run_append_own_at (P := P) w base t ty e i z 1 8 ht hi hz hsize hby hzs (by omega) v n xs hown ad m c (ivs l) (by rw [ivs_len, hlen, Nat.mul_one])
      (fun j u hu => by
        have hj : j < l.length := by
          have := (List.getElem?_eq_some_iff.1 hu).1
          rwa [ivs_len] at this
        obtain ⟨b, off, h, _, hc⟩ := hl.2.2 (by omega)
        obtain rfl := Option.some.inj h
        rw [ivs_get hj] at hu
        rw [Addr.add_lit, hc j (by omega)]
        exact hu) (ivs_cell _) (by simp only [maxLen]; omega) (by omega) hbase
    exact ⟨v', w', h1, h2, .of_at h3 h5⟩

theorem wpList_append_ints {ops : Array Oper} {rest : List Oper} {o : Oper} {a : Act} {Q : Exit → Act → World → Prop} (hgd : o.guard = none) (s x : Operand) (t : TypeId)
    (ho : o.op = .call { callee := .builtin .append, args := #[s, x], argTypes := #[t, t] })
    (base : Nat) (e : TypeId) (i : TypeInfo) (z : Value) (ht : P.underlying t = some (.slice e)) (hi : P.info? e = some i) (hz : i.zero = some z)
    (hsize : i.size = 1) (hby : i.bytes = 8) (hzs : z.cells.size = 1)
    (v : Value) (n : Nat) (xs : List Value) (hs : a.eval s = v) (hown : w.ownsRow base e 1 v n xs)
    (B : Nat) (A : Option Addr) (m c : Nat) (l : List Int) (hx : a.eval x = .slice A m c) (hl : IHolds w B A m l) (hroom : n + m ≤ 8796093022208) (hbase : base ≤ w.heap.size)
    (h : ∀ v' w', w'.ownsRow base e 1 v' (n + m) (xs ++ ivs l) → Went w v.ownBlock w' v'.ownBlock → wpList P ops Q rest (a.put o.dst v') w') : wpList P ops Q (o :: rest) a w := by
  refine wpList_plain hgd fun K hK => ?_
  obtain ⟨v', w', hr, h2, h3⟩ := run_append_ints (P := P) w base t o.type e i z ht hi hz hsize hby hzs v n xs hown B A m c l hl hroom hbase
  unfold Oper.wp execOp
  simp only [ho, resolve, invoke, builtin, Sem.run_bind, Sem.run_pure, Result.andThen_ok, List.map_toArray, List.map_cons, List.map_nil, hs, hx, hr]
  exact hK _ _ (h v' w' h2 h3)
end

/-- A row of ints of the call's own: where it lies, its cells, a cell that is written. -/
theorem iown_at {w : World} {base e n : Nat} {v : Value} {xs : List Value} (h : w.ownsRow base e 1 v n xs) (hn : 0 < n) : ∃ g c, v = .slice (some ⟨g, 0, none⟩) n c ∧ base ≤ g ∧ g < w.heap.size ∧ n ≤ c ∧ c ≤ maxLen := by
  rcases h.2 with ⟨_, h0⟩ | ⟨g, cap, cur, hv, hb, hg, hnc, hm, _⟩
  · omega
  · exact ⟨g, cap, hv, hb, lt_of_block hg, hnc, hm⟩
theorem iown_cell {w : World} {base e g n c : Nat} {l : List Int} (h : w.ownsRow base e 1 (.slice (some ⟨g, 0, none⟩) n c) n (ivs l)) {i : Nat} (hi : i < n) : w.cell? ⟨g, i, none⟩ = some (.int .i64 (l.getD i 0)) := by
  have hl : l.length = n := by have := h.1; rw [ivs_len] at this; omega
  have h1 := h.cellAt i (by omega)
  rw [h1, ivs_get (by omega)]
theorem iown_free {w : World} {base e g n c : Nat} {xs : List Value} (h : w.ownsRow base e 1 (.slice (some ⟨g, 0, none⟩) n c) n xs) (i : Nat) : w.frozen? ⟨g, i, none⟩ = false := by
  rcases h.2 with ⟨h0, _⟩ | ⟨g', cap, cur, hv, hb, hg, _⟩
  · cases h0
  · simp only [Value.slice.injEq, Option.some.injEq, Addr.mk.injEq, and_true, true_and] at hv
    obtain ⟨rfl, _⟩ := hv
    simp [World.frozen?, hg]
theorem iown_set {w : World} {base e g n c : Nat} {l : List Int} (h : w.ownsRow base e 1 (.slice (some ⟨g, 0, none⟩) n c) n (ivs l)) (i : Nat) (x : Int) :
    (w.setCell ⟨g, i, none⟩ (.int .i64 x)).ownsRow base e 1 (.slice (some ⟨g, 0, none⟩) n c) n (ivs (l.set i x)) ∧ w.grownBy (w.setCell ⟨g, i, none⟩ (.int .i64 x)) (some g) := by
  have h1 := h.stored i (.int .i64 x)
  rw [ivs_set]
  exact h1
theorem own_whole {w : World} {base e g n : Nat} {xs : List Value} (h : w.ownsRow base e 1 (.slice (some ⟨g, 0, none⟩) n n) n xs) : w.heap[g]? = some (.cells xs.toArray e (0, 0)) := by
  rcases h.2 with ⟨h0, _⟩ | ⟨g', cap, cur, hv, _, hg, _, _, hs, ht⟩
  · cases h0
  · simp only [Value.slice.injEq, Option.some.injEq, Addr.mk.injEq, and_true, true_and] at hv
    obtain ⟨rfl, rfl⟩ := hv
    rw [Nat.mul_one] at hs ht
    rw [List.take_of_length_le (by simp [hs])] at ht
    rw [hg, ← ht]
theorem own_of_whole {w : World} {base e g n : Nat} {xs : List Value} (h : w.heap[g]? = some (.cells xs.toArray e (0, 0))) (hl : xs.length = n) (hb : base ≤ g) (hn : n ≤ maxLen) : w.ownsRow base e 1 (.slice (some ⟨g, 0, none⟩) n n) n xs :=
  ⟨by omega, .inr ⟨g, n, xs.toArray, rfl, hb, h, Nat.le_refl _, hn, by simp [hl], by rw [Nat.mul_one]; simp [← hl]⟩⟩
theorem splice_all {cur cs : List Value} (h : cur.length = cs.length) : splice cur 0 cs = cs := by simp [splice, ← h]

/-- 'copy(row, l)', the row made of the same length. -/
theorem wpList_copy_ints {w : World} {ops : Array Oper} {rest : List Oper} {o : Oper} {a : Act} {Q : Exit → Act → World → Prop} (hgd : o.guard = none) (d s : Operand)
    (ho : o.op = .call { callee := .builtin .copy, args := #[d, s], argTypes := #[67, 67] })
    (base g n : Nat) (A : Option Addr) (cap B : Nat) (l : List Int) (xs : List Value) (hd : a.eval d = .slice (some ⟨g, 0, none⟩) n n) (hs : a.eval s = .slice A n cap)
    (hown : w.ownsRow base 3 1 (.slice (some ⟨g, 0, none⟩) n n) n xs) (hl : IHolds w B A n l) (hg : base ≤ g) (hn : n ≤ maxLen)
    (h : ∀ w', Hid (w'.ownsRow base 3 1 (.slice (some ⟨g, 0, none⟩) n n) n (ivs l)) → Hid (Below base w w') → wpList Tryz.prog ops Q rest (a.put o.dst (goInt n)) w') : wpList Tryz.prog ops Q (o :: rest) a w := by
  obtain ⟨i0, hi, hz0, hz1, hz2⟩ := info_parts Tryz.infoI64
  have hsz : (Tryz.prog.info? 3).map (·.size) = some 1 := by rw [hi, ← hz1]; rfl
  have hlen : (ivs l).length = n := by rw [ivs_len, hl.1]
  have hxs : xs.length = n := by have := hown.1; omega
  refine wpList_copy_splice hgd d s 67 67 ho 3 Tryz.underlying67 hsz (some ⟨g, 0, none⟩) A n n n cap hd hs g 0 xs 3 (own_whole hown) (ivs l) (by rw [hlen]; simp) (fun h0 => ?_) (by omega) (ivs_cell _) base w (Below.refl _ _) hg (fun w' h1 h2 => ?_)
  · rw [hlen] at h0
    obtain ⟨b, off, e1, _, hc⟩ := hl.2.2 h0
    refine ⟨rfl, _, e1, fun j u hu => ?_⟩
    have hj : j < l.length := by
      have := (List.getElem?_eq_some_iff.1 hu).1
      rwa [ivs_len] at this
    rw [ivs_get hj] at hu
    rw [Addr.add_lit, ← hu]
    exact hc j (by have := hl.1; omega)
  · rw [hlen]
    refine h w' ?_ h2
    have h3 := h1.out
    rw [splice_all (by omega)] at h3
    exact own_of_whole h3 hlen hg hn
end Go.Proofs.YtpicnoinnngpeaaGreat
/- The walk over droverref01.Ints: are two lists of ints the same? -/
namespace Go.Proofs.YtpicnoinnngpeaaGreat
open Go.RowKit

/-- Are they the same? -/
def eqI (l m : List Int) : Bool := decide (l = m)
theorem eqI_self (l : List Int) : eqI l l = true := by simp [eqI]
theorem eqI_len {l m : List Int} (h : l.length ≠ m.length) : false = eqI l m := by
  unfold eqI
  symm
  rw [decide_eq_false_iff_not]
  intro e
  exact h (congrArg List.length e)
theorem eqI_no {l m : List Int} {i : Nat} (h : l.getD i 0 ≠ m.getD i 0) : false = eqI l m := by
  unfold eqI
  symm
  rw [decide_eq_false_iff_not]
  intro e
  exact h (by rw [e])
def SameUp (l m : List Int) (k : Nat) : Prop := ∀ i, i < k → l.getD i 0 = m.getD i 0
theorem SameUp.zero (l m : List Int) : SameUp l m 0 := fun i hi => by omega
theorem SameUp.next {l m : List Int} {k : Nat} (h : SameUp l m k) (he : l.getD k 0 = m.getD k 0) : SameUp l m (k + 1) := fun i hi => by
  by_cases hk : i = k
  · rw [hk, he]
  · exact h i (by omega)
theorem SameUp.all {l m : List Int} {k : Nat} (h : SameUp l m k) (h1 : l.length = k) (h2 : m.length = k) : true = eqI l m := by
  unfold eqI
  symm
  rw [decide_eq_true_eq]
  apply List.ext_getElem (by omega)
  intro i hi1 hi2
  have := h i (by omega)
  simpa [List.getD, hi1, hi2] using this

set_option maxHeartbeats 400000 in
theorem refints_any (A A2 : Option Addr) (n c m c2 B B2 : Nat) (l l2 : List Int) (w : World) (hl : IHolds w B A n l) (hl2 : IHolds w B2 A2 m l2) (hn : n ≤ 1099511627000) (hm : m ≤ 1099511627000) :
    Calls Tryz.prog 46 #[.slice A n c, .slice A2 m c2] w fun e w' => e = .returned (.bool (eqI l l2)) ∧ ∃ q, w' = w.drewN q := by
  have H1 := hide hl
  have H2 := hide hl2
  clear hl hl2
  by_cases hnm : n = m
  · subst hnm
    have ht : ((n : Int) != (n : Int)) = false := by simp
    go_enter Tryz.func46, Tryz.ntmps46
    go_wp2
    go_loopw [13] (fun i wr => ∃ k : Nat, k ≤ n ∧ i = .int .i64 (k : Int) ∧ SameUp l l2 k ∧ ∃ q, wr = w.drewN q) (fun i _ => n - (Go.RowKit.intOf i).toNat)
    case atStart => exact ⟨0, by omega, rfl, SameUp.zero _ _, 0, rfl⟩
    case round =>
      obtain ⟨k, hk, rfl, hup, q, rfl⟩ := hrel
      have HU := hide hup
      clear hup
      by_cases hkn : k < n
      · obtain ⟨b, off, rfl, _, hc⟩ := H1.out.at_ hkn
        obtain ⟨b2, off2, rfl, _, hc2⟩ := H2.out.at_ hkn
        obtain ⟨x, hx⟩ : ∃ x, x = l.getD k 0 := ⟨_, rfl⟩
        obtain ⟨y, hy⟩ : ∃ y, y = l2.getD k 0 := ⟨_, rfl⟩
        rw [← hx] at hc
        rw [← hy] at hc2
        have HX := hide hx
        have HY := hide hy
        clear hx hy
        by_cases he : x = y
        · subst he
          have ht2 : (x != x) = false := by simp
          go_wp2
          go_quiet (fail)
          go_wp2
          go_roundw
          case rel => exact ⟨k + 1, by omega, by go_num, HU.out.next (by rw [← HX.out, ← HY.out]), _, rfl⟩
          case measure => simp [Go.RowKit.intOf]; omega
        · have ht2 : (x != y) = true := by simpa using he
          have HE : Hid (l.getD k 0 ≠ l2.getD k 0) := by rw [← HX.out, ← HY.out]; exact he
          clear he
          go_wp2
          go_quiet (fail)
          go_wp2
          go_ret
          exact ⟨ret_bool (eqI_no HE.out), _, World.drewN_drewN _ _ _⟩
      · go_wp2
        go_ret
        exact ⟨ret_bool (HU.out.all (by have := H1.out.1; omega) (by have := H2.out.1; omega)), _, rfl⟩
  · have ht : ((n : Int) != (m : Int)) = true := by simp; omega
    go_enter Tryz.func46, Tryz.ntmps46
    go_wp2
    go_ret
    exact ⟨ret_bool (eqI_len (by rw [H1.out.1, H2.out.1]; exact hnm)), 0, rfl⟩
end Go.Proofs.YtpicnoinnngpeaaGreat
/- Ids and Copy of package book: the library's Sorted at what its Keys hands back; the library's Clone. -/
namespace Go.Proofs.YtpicnoinnngpeaaGreat
open Go.RowKit Go.Maps Go.Sort Go.Shelf

/-- The numbers of the sagas. -/
def idsOf (L : List Ent) : List Int := L.map (·.id)
theorem idsOf_len (L : List Ent) : (idsOf L).length = L.length := by simp [idsOf]
theorem keys_mapE (f : Int → Loc) (L : List Ent) : intKeys (mapD (L.map (pairE f))) = idsOf L := by
  simp [mapD, intKeys, idsOf, pairE, Function.comp_def]
  intro a _
  rfl
theorem sort_perm {l m : List Int} (hp : l.Perm m) (hm : m.Pairwise (· < ·)) : l.mergeSort (fun x y => decide (x ≤ y)) = m := by
  have tr : ∀ a b c : Int, decide (a ≤ b) = true → decide (b ≤ c) = true → decide (a ≤ c) = true := fun a b c h1 h2 => by simp only [decide_eq_true_eq] at *; omega
  have to : ∀ a b : Int, (decide (a ≤ b) || decide (b ≤ a)) = true := fun a b => by simp only [Bool.or_eq_true, decide_eq_true_eq]; omega
  refine List.Perm.eq_of_pairwise (le := fun a b => decide (a ≤ b) = true) (fun a b _ _ h1 h2 => ?_) (List.pairwise_mergeSort tr to l) (hm.imp fun {a b} h => by simp only [decide_eq_true_eq]; omega) ((List.mergeSort_perm l _).trans hp)
  simp only [decide_eq_true_eq] at h1 h2
  omega
theorem BkOk.fit {t : BkS} (h : BkOk t) : Fit (idsOf t.L) := by
  intro x hx
  obtain ⟨y, hy, rfl⟩ := List.mem_map.1 hx
  have h1 := h.2.1 y hy
  have h2 := h1.1.2.2.2
  have h3 := h1.2
  exact ⟨by omega, by omega⟩
/-- A slice of no ints. -/
theorem newInts_nil {w w' : World} (hb : Below w.heap.size w w') : NewInts w [] (.returned (.slice none 0 0)) w' :=
  ⟨none, 0, 0, rfl, World.ownsRow_nil _ _ _ _, IHolds.nil_ _ _, Nat.le_refl _, hb⟩

/-- The library's Sort at this program. -/
theorem Tryz.sorts (m : Nat) : AnyZI.SortsIn Tryz.prog Tryz.sortedA_ren Fence.wide m :=
  ⟨fun blk off cap ss W hH hblk hsz => callsIn_wide.2 (AnyM.slices_Sort_int Tryz.sortA blk off cap ss W hH hblk hsz),
   fun p cap W => callsIn_wide.2 (AnyM.slices_Sort_int_none Tryz.sortA p cap W)⟩

/-- What Keys hands back: a function over one new block that holds the map. -/
theorem keys_any (mb : Option Nat) (W : World) : Calls Tryz.prog 60 #[.map mb] W fun e w' => e = .returned (.func (.func 94) #[] #[.pointer (some ⟨W.heap.size, 0, none⟩)]) ∧ w' = W.alloc (.cells #[.map mb] 77) :=
  callsIn_wide.1 (AnyZI.keys_in Tryz.keysA Fence.wide 5 trivial rfl mb W)

/-- Sorted at what Keys hands back for a map: its keys, rising. -/
theorem sorted_any (f : Int → Loc) (b nn : Nat) (L : List Ent) (w : World) (hown : w.ownsMap Tryz.prog 3 heldR b nn (mapD (L.map (pairE f)))) (hr : (idsOf L).Pairwise (· < ·)) (hf : Fit (idsOf L)) (hlen : L.length ≤ 1000000) :
    Calls Tryz.prog 59 #[.func (.func 94) #[] #[.pointer (some ⟨w.heap.size, 0, none⟩)]] (w.alloc (.cells #[.map (some b)] 77)) (NewInts w (idsOf L)) := by
  have hbl := hown.lt
  have hsz : Maps.size (mapD (L.map (pairE f))) = L.length := by rw [size_mapD, List.length_map]
  have hseq : SeqGives Fence.wide 2 Tryz.prog 94 #[.pointer (some ⟨w.heap.size, 0, none⟩)] encZ (fun ss => ss.Perm (intKeys (mapD (L.map (pairE f))))) (Maps.size (mapD (L.map (pairE f)))) (w.alloc (.cells #[.map (some b)] 77)) :=
    AnyZI.keys_gives (ρ := Tryz.keysA_ren) { Tryz.keysA with } Fence.wide _ trivial rfl (by omega) w.heap.size b nn (mapD (L.map (pairE f))) _ (by simp) (by simp) (by
      obtain ⟨es, clock, hb, Ft, hs, hD⟩ := hown
      exact ⟨es, clock, (Below.heap_alloc _ _ b hbl).trans hb, Ft, hs, hD⟩)
  have cS := AnyZI.sorted_in Tryz.sortedA Fence.wide 5 trivial trivial trivial trivial rfl (by omega) (Tryz.sorts _) (enters_of Tryz.func93 (by kernel_rfl) rfl) 94 #[.pointer (some ⟨w.heap.size, 0, none⟩)] trivial (enters_of Tryz.func94 (by kernel_rfl) rfl) _ _ (by rw [hsz]; unfold maxLen; omega) (by rw [hsz]; omega) _ hseq
  change CallsIn _ _ Tryz.prog 59 _ _ _ at cS
  refine (callsIn_wide.1 cS).mono ?_
  rintro e w' ⟨v, ss, rfl, hS, hrow, hnil, hb⟩
  rw [keys_mapE] at hS
  rw [sort_perm hS hr] at hrow
  have hl : ss.length = (idsOf L).length := hS.length_eq
  rw [hl] at hrow
  have hrow' : w'.ownsRow w.heap.size 3 1 v (idsOf L).length (ivs (idsOf L)) := ownsRow_base_a hrow (by simp)
  obtain ⟨A, c, rfl, h1, _, h2⟩ := IHolds.of_own hrow' hf
  exact ⟨A, _, c, rfl, hrow', h2, h1, ((Below.refl _ w).alloc (Nat.le_refl _) _).trans (hb.mono (by simp))⟩
section
variable {F : Nat → Prop} {w : World} {g b k : Nat} {most : Int} {t : BkS}
set_option maxHeartbeats 1000000 in
theorem ids_any (h : BookAt F w g b k most t) (hl : t.L.length ≤ 1000000) : Calls Tryz.prog 26 #[.pointer (some ⟨g, 0, none⟩)] w (NewInts w (idsOf t.L)) := by
  have C := hide (made_yes h)
  have CK := hide (fun W => keys_any (some b) W)
  obtain ⟨f, hm, _⟩ := h.body
  have CS := hide (sorted_any f b k t.L w hm (List.pairwise_map.2 h.ok.1) h.ok.fit hl)
  have c2 := h.c2
  obtain ⟨l, hl2⟩ : ∃ l, idsOf t.L = l := ⟨_, rfl⟩
  rw [hl2] at CS ⊢
  clear h hm hl hl2
  go_enter Tryz.func26, Tryz.ntmps26
  go_wp2_with (fail)
  refine C.out.mono ?_
  rintro e w1 ⟨rfl, rfl⟩
  go_wp2_with (fail)
  refine (CK.out _).mono ?_
  rintro e w1 ⟨rfl, rfl⟩
  go_wp2_with (fail)
  refine CS.out.mono ?_
  rintro e w2 ⟨A, n, c, rfl, h1, h2, h3, h4⟩
  have H : Hid (NewInts w l (.returned (.slice A n c)) w2) := ⟨A, n, c, rfl, h1, h2, h3, h4⟩
  clear h1 h2 h3 h4
  go_wp2
  go_ret
  exact H.out
/-- Another book, alike: the sagas' steps are those of the first one. -/
def Copied (F : Nat → Prop) (k : Nat) (most : Int) (t : BkS) (w : World) (e : Ending) (w' : World) : Prop :=
  ∃ g b, e = .returned (.pointer (some ⟨g, 0, none⟩)) ∧ w.heap.size ≤ g ∧ w.heap.size ≤ b ∧ Later w w' ∧ ∀ G : Nat → Prop, (∀ i, i < w.heap.size → F i → G i) → ¬ G g → ¬ G b → BookAt G w' g b k most t
set_option maxHeartbeats 4000000 in
set_option maxRecDepth 100000 in
theorem copy_any (h : BookAt F w g b k most t) : Calls Tryz.prog 24 #[.pointer (some ⟨g, 0, none⟩)] w (Copied F k most t w) := by
  have C := hide (made_yes h)
  have CF : Hid (∀ W, Later w W → W.cell? ⟨g, 0, none⟩ = some (.int .i64 most) ∧ W.cell? ⟨g, 1, none⟩ = some (.int .i64 t.last) ∧ W.cell? ⟨g, 2, none⟩ = some (.map (some b))) := fun W hW => ⟨(h.later hW).c0, (h.later hW).c1, (h.later hW).c2⟩
  obtain ⟨f, hm, hs⟩ := h.body
  have CC : Hid (∀ W, Later w W → Calls Tryz.prog 57 #[.map (some b)] W fun e w' => e = .returned (.map (some W.heap.size)) ∧ w'.ownsMap Tryz.prog 3 heldR W.heap.size k (mapD (t.L.map (pairE f))) ∧ Below W.heap.size W w') := fun W hW => by
    have hm2 : W.ownsMap Tryz.prog 3 heldR b k (mapD (t.L.map (pairE f))) := hm.kept (later_grown hW) (by simp)
    have hcon := AnyW.maps_Clone_owns Tryz.cloneM 3 heldR b k _ W hm2
    change Calls Tryz.prog 57 _ _ _ at hcon
    refine hcon.mono ?_
    rintro e w' ⟨rfl, h1, _, h2⟩
    exact ⟨rfl, h1, h2⟩
  have HS := hide hs
  have HOK := hide h.ok
  obtain ⟨L, hL⟩ : ∃ L, t.L = L := ⟨_, rfl⟩
  obtain ⟨last, hla⟩ : ∃ last, t.last = last := ⟨_, rfl⟩
  rw [hL] at CC HS
  rw [hla] at CF
  obtain rfl : t = ⟨last, L⟩ := by rw [← hL, ← hla]
  clear h hm hs hL hla
  go_enter Tryz.func24, Tryz.ntmps24
  go_wp2_with (fail)
  refine C.out.mono ?_
  rintro e w1 ⟨rfl, rfl⟩
  clear C
  go_wp2_with (fail)
  refine wp_region_L (by kernel_rfl) ?_
  refine wpAnyL_take (i := 0) (d := some 7) (v := ?vaa0) rfl rfl (by kernel_rfl) (by kernel_rfl) (by kernel_rfl) (fun _ _ _ h => h) (by rfl) ?yaa0 ?_
  case yaa0 => (intro w' hw'; go_simp; try (with_reducible rfl))
  simp only [Act.put]; try simp only [List.setIfInBounds_toArray]; try simp only [List.set_cons_zero, List.set_cons_succ]
  refine wpAnyL_take (i := 1) (d := some 8) (v := ?vaa1) rfl rfl (by kernel_rfl) (by kernel_rfl) (by kernel_rfl) (fun _ _ _ h => h) (by rfl) ?yaa1 ?_
  case yaa1 => (intro w' hw'; go_simp; try (with_reducible rfl))
  simp only [Act.put]; try simp only [List.setIfInBounds_toArray]; try simp only [List.set_cons_zero, List.set_cons_succ]
  refine wpAnyL_take (i := 2) (d := some 9) (v := ?vaa2) rfl rfl (by kernel_rfl) (by kernel_rfl) (by kernel_rfl) (fun _ _ _ h => h) (by rfl) ?yaa2 ?_
  case yaa2 => (intro w' hw'; go_simp; try (with_reducible rfl))
  simp only [Act.put]; try simp only [List.setIfInBounds_toArray]; try simp only [List.set_cons_zero, List.set_cons_succ]
  refine wpAnyL_take (i := 3) (d := some 10) (v := ?vaa3) rfl rfl (by kernel_rfl) (by kernel_rfl) (by kernel_rfl) (fun _ _ _ h => h) (by rfl) ?yaa3 ?_
  case yaa3 => (intro w' hw'; have hd1 : Later w w.drew := Later.drew _; obtain ⟨k0, k1, k2⟩ := CF.out _ (Later.trans hd1 hw'); clear hd1; go_simp; try (with_reducible rfl))
  simp only [Act.put]; try simp only [List.setIfInBounds_toArray]; try simp only [List.set_cons_zero, List.set_cons_succ]
  refine wpAnyL_take (i := 4) (d := some 11) (v := ?vaa4) rfl rfl (by kernel_rfl) (by kernel_rfl) (by kernel_rfl) (fun _ _ _ h => h) (by rfl) ?yaa4 ?_
  case yaa4 => (intro w' hw'; go_simp; try (with_reducible rfl))
  simp only [Act.put]; try simp only [List.setIfInBounds_toArray]; try simp only [List.set_cons_zero, List.set_cons_succ]
  refine wpAnyL_take (i := 5) (d := some 12) (v := ?vaa5) rfl rfl (by kernel_rfl) (by kernel_rfl) (by kernel_rfl) (fun _ _ _ h => h) (by rfl) ?yaa5 ?_
  case yaa5 => (intro w' hw'; go_simp; try (with_reducible rfl))
  simp only [Act.put]; try simp only [List.setIfInBounds_toArray]; try simp only [List.set_cons_zero, List.set_cons_succ]
  refine wpAnyL_take (i := 6) (d := some 13) (v := ?vaa6) rfl rfl (by kernel_rfl) (by kernel_rfl) (by kernel_rfl) (fun _ _ _ h => h) (by rfl) ?yaa6 ?_
  case yaa6 => (intro w' hw'; go_simp; try (with_reducible rfl))
  simp only [Act.put]; try simp only [List.setIfInBounds_toArray]; try simp only [List.set_cons_zero, List.set_cons_succ]
  refine wpAnyL_take (i := 7) (d := some 14) (v := ?vaa7) rfl rfl (by kernel_rfl) (by kernel_rfl) (by kernel_rfl) (fun _ _ _ h => h) (by rfl) ?yaa7 ?_
  case yaa7 => (intro w' hw'; have hd1 : Later w w.drew := Later.drew _; obtain ⟨k0, k1, k2⟩ := CF.out _ (Later.trans hd1 hw'); clear hd1; go_simp; try (with_reducible rfl))
  simp only [Act.put]; try simp only [List.setIfInBounds_toArray]; try simp only [List.set_cons_zero, List.set_cons_succ]
  refine wpAnyL_take (i := 8) (d := some 15) (v := ?vaa8) rfl rfl (by kernel_rfl) (by kernel_rfl) (by kernel_rfl) (fun _ _ _ h => h) (by rfl) ?yaa8 ?_
  case yaa8 => (intro w' hw'; go_simp; try (with_reducible rfl))
  simp only [Act.put]; try simp only [List.setIfInBounds_toArray]; try simp only [List.set_cons_zero, List.set_cons_succ]
  refine wpAnyL_take (i := 9) (d := some 16) (v := ?vaa9) rfl rfl (by kernel_rfl) (by kernel_rfl) (by kernel_rfl) (fun _ _ _ h => h) (by rfl) ?yaa9 ?_
  case yaa9 => (intro w' hw'; go_simp; try (with_reducible rfl))
  simp only [Act.put]; try simp only [List.setIfInBounds_toArray]; try simp only [List.set_cons_zero, List.set_cons_succ]
  refine wpAnyL_take (i := 10) (d := some 17) (v := ?vaa10) rfl rfl (by kernel_rfl) (by kernel_rfl) (by kernel_rfl) (fun _ _ _ h => h) (by rfl) ?yaa10 ?_
  case yaa10 => (intro w' hw'; go_simp; try (with_reducible rfl))
  simp only [Act.put]; try simp only [List.setIfInBounds_toArray]; try simp only [List.set_cons_zero, List.set_cons_succ]
  refine wpAnyL_take (i := 11) (d := some 18) (v := ?vaa11) rfl rfl (by kernel_rfl) (by kernel_rfl) (by kernel_rfl) (fun _ _ _ h => h) (by rfl) ?yaa11 ?_
  case yaa11 => (intro w' hw'; have hd1 : Later w w.drew := Later.drew _; obtain ⟨k0, k1, k2⟩ := CF.out _ (Later.trans hd1 hw'); clear hd1; go_simp; try (with_reducible rfl))
  simp only [Act.put]; try simp only [List.setIfInBounds_toArray]; try simp only [List.set_cons_zero, List.set_cons_succ]
  refine wpAnyL_only (i := 12) rfl (by kernel_rfl) (by rfl) fun K hK => ?_
  go_simp
  have hd1 : Later w w.drew := Later.drew _
  refine (CC.out _ hd1).mono ?_
  rintro e w1 ⟨rfl, hm1, hl1⟩
  obtain ⟨z, hz⟩ : ∃ z, w.drew.heap.size = z := ⟨_, rfl⟩
  rw [hz] at hm1 ⊢
  have HZ : Hid (w.heap.size ≤ z) := Nat.le_of_eq hz
  have hl2 : Later w.drew w1 := hl1
  have hl3 : Later w w1 := Later.trans hd1 hl2
  have HD := hide hl3
  have HM1 := hide hm1
  refine hK.out _ _ hl2 ?_
  clear hl1 hl2 hl3 hd1 hm1 CC
  clear hK K
  try (simp only [Act.put]; try simp only [List.setIfInBounds_toArray]; try simp only [List.set_cons_zero, List.set_cons_succ])
  refine wpAnyL_take (i := 13) (d := some 20) (v := ?vaa13) rfl rfl (by kernel_rfl) (by kernel_rfl) (by kernel_rfl) (fun _ _ _ h => h) (by rfl) ?yaa13 ?_
  case yaa13 => (intro w' hw'; go_simp; try (with_reducible rfl))
  simp only [Act.put]; try simp only [List.setIfInBounds_toArray]; try simp only [List.set_cons_zero, List.set_cons_succ]
  refine wpAnyL_only (i := 14) rfl (by kernel_rfl) (by rfl) fun K hK => ?_
  go_simp
  have HB : Hid ((w1.alloc (.cells #[.int .i64 most, .int .i64 last, .map (some z)] 79 (0, 0))).heap[w1.heap.size]? = some (.cells #[.int .i64 most, .int .i64 last, .map (some z)] 79 (0, 0))) := heap_alloc_new _ _
  have HM : Hid ((w1.alloc (.cells #[.int .i64 most, .int .i64 last, .map (some z)] 79 (0, 0))).ownsMap Tryz.prog 3 heldR z k (mapD (L.map (pairE f)))) := HM1.out.alloc _
  have HL : Hid (Later w (w1.alloc (.cells #[.int .i64 most, .int .i64 last, .map (some z)] 79 (0, 0)))) := by
    have hd : Later w w1 := HD.out
    exact hd.alloc (Below.size hd) _
  have HZL : Hid (z < w1.heap.size) := HM1.out.lt
  refine hK.out _ _ ((Below.refl _ _).alloc (Nat.le_refl _) _) ?_
  clear hK K
  try (simp only [Act.put]; try simp only [List.setIfInBounds_toArray]; try simp only [List.set_cons_zero, List.set_cons_succ])
  refine wpAnyL_take (i := 15) (d := some 2) (v := ?vaa15) rfl rfl (by kernel_rfl) (by kernel_rfl) (by kernel_rfl) (fun _ _ _ h => h) (by rfl) ?yaa15 ?_
  case yaa15 => (intro w' hw'; go_simp; try (with_reducible rfl))
  simp only [Act.put]; try simp only [List.setIfInBounds_toArray]; try simp only [List.set_cons_zero, List.set_cons_succ]
  refine wpAnyL_done (by kernel_rfl) ?_ _
  go_wp2
  go_ret
  refine ⟨w1.heap.size, z, rfl, by have := HZ.out; have := HZL.out; omega, HZ.out, HL.out, fun G hG hg hb => ⟨HB.out, ⟨f, HM.out, fun x hx => StepsAt.kept (StepsAt.mono (HS.out x hx) hG) (Kept.of_below HL.out G)⟩, HOK.out, by have := HZL.out; omega, hg, hb⟩⟩
end
end Go.Proofs.YtpicnoinnngpeaaGreat
/- A saga is put into a book's map, or struck from it; makeRoom of package book. -/
namespace Go.Proofs.YtpicnoinnngpeaaGreat
open Go.RowKit Go.Maps
theorem put_congr {V V' : Ent → Value} (id : Int) (v : DataW Value) (L : List Ent) (h : ∀ y ∈ L, y.id ≠ id → V y = V' y) :
    (mapD (L.map fun y => (y.id, V y))).put (.int .i64 id) v = (mapD (L.map fun y => (y.id, V' y))).put (.int .i64 id) v := by
  unfold mapD
  show DataW.map _ = DataW.map _
  congr 2
  induction L with
  | nil => rfl
  | cons y r ih =>
    have ih := ih (fun z hz => h z (by simp [hz]))
    simp only [List.map_cons]
    by_cases e : y.id = id
    · rw [List.filter_cons_of_neg (by simp [Lit.sameKey, e]), List.filter_cons_of_neg (by simp [Lit.sameKey, e])]
      exact ih
    · rw [List.filter_cons_of_pos (by simp [Lit.sameKey]; exact e), List.filter_cons_of_pos (by simp [Lit.sameKey]; exact e), ih, h y (by simp) e]
theorem rise_one {L : List Ent} (hr : RiseE L) {x y : Ent} (hx : x ∈ L) (hy : y ∈ L) (e : x.id = y.id) : x = y := by
  have hp := List.pairwise_iff_getElem.1 hr
  obtain ⟨i, hi, rfl⟩ := List.mem_iff_getElem.1 hx
  obtain ⟨j, hj, rfl⟩ := List.mem_iff_getElem.1 hy
  rcases Nat.lt_trichotomy i j with hlt | heq | hgt
  · have := hp i j hi hj hlt
    omega
  · subst heq
    rfl
  · have := hp j i hj hi hgt
    omega
/-- The steps of one saga lie elsewhere. -/
def setLoc (f : Int → Loc) (id : Int) (p : Option Addr) (n c : Nat) (i : Int) : Loc := if i = id then ⟨p, n, c⟩ else f i
section
variable {F : Nat → Prop} {w : World} {g b k : Nat} {most : Int} {t : BkS}
theorem BookAt.put {w' : World} {f : Int → Loc} {x : Ent} {p : Option Addr} {n c : Nat} (h : BookAt F w g b k most t) (hm : ∀ y ∈ t.L, StepsAt F w (f y.id).v y.l)
    (ho : w'.ownsMap Tryz.prog 3 heldR b (k + 1) ((mapD (t.L.map (pairE f))).put (.int .i64 x.id) (.held (x.s.withV p n c).val))) (ht : w.mapTurned w' b)
    (hs : StepsAt F w (.slice p n c) x.l) (hx : EntOk x) (hi : x.id ≤ 4611686018427387904) : BookAt F w' g b (k + 1) most ⟨t.last, putE x t.L⟩ := by
  have T : Turned (fun i => i = b) w w' := Turned.of_grown ht.grown (fun g e => (Option.some.inj e).symm)
  have hv : (x.s.withV p n c).val = x.val (setLoc f x.id p n c) := by unfold Ent.val Ent.sd setLoc; simp
  have e1 := put_congr (V := Ent.val f) (V' := Ent.val (setLoc f x.id p n c)) x.id (.held (x.val (setLoc f x.id p n c))) t.L (fun y _ hne => by
    unfold Ent.val Ent.sd setLoc
    rw [if_neg hne])
  have e2 := put_mapE (V := Ent.val (setLoc f x.id p n c)) x t.L h.ok.1
  have hk : Kept F w w' := T.kept fun i hf e => h.apart.2.2 (e ▸ hf)
  refine ⟨(T.block g h.lt.1 h.apart.1).trans h.cell, ⟨setLoc f x.id p n c, ?_, fun y hy => ?_⟩, ⟨putE_rise x h.ok.1, fun y hy => ?_, h.ok.2.2⟩, h.apart⟩
  · rw [hv] at ho
    have e3 : (mapD (t.L.map (pairE f))).put (.int .i64 x.id) (.held (x.val (setLoc f x.id p n c))) = mapD ((putE x t.L).map (pairE (setLoc f x.id p n c))) := e1.trans e2
    rw [e3] at ho
    exact ho
  · by_cases e : y.id = x.id
    · rcases mem_putE hy with rfl | hy2
      · unfold setLoc
        rw [if_pos rfl]
        exact hs.kept hk
      · have h1 := entAt_putE x h.ok.1
        have hy3 : y = x := rise_one (putE_rise x h.ok.1) hy (putE_mem x t.L) e
        subst hy3
        unfold setLoc
        rw [if_pos rfl]
        exact hs.kept hk
    · rcases mem_putE hy with rfl | hy2
      · exact absurd rfl e
      · unfold setLoc
        rw [if_neg e]
        exact (hm y hy2).kept hk
  · rcases mem_putE hy with rfl | hy
    · exact ⟨hx, hi⟩
    · exact h.ok.2.1 y hy
theorem dropE_pair (f : Int → Loc) (L : List Ent) (id : Int) : (dropE L id).map (pairE f) = (L.map (pairE f)).filter fun p => !(p.1 == id) := by
  unfold dropE
  rw [List.filter_map]
  rfl
theorem BookAt.drop {w' : World} {f : Int → Loc} {id : Int} (h : BookAt F w g b k most t) (hm : ∀ y ∈ t.L, StepsAt F w (f y.id).v y.l)
    (ho : w'.ownsMap Tryz.prog 3 heldR b k ((mapD (t.L.map (pairE f))).del (.int .i64 id))) (ht : w.mapTurned w' b) : BookAt F w' g b k most ⟨t.last, dropE t.L id⟩ := by
  have T : Turned (fun i => i = b) w w' := Turned.of_grown ht.grown (fun g e => (Option.some.inj e).symm)
  have hk : Kept F w w' := T.kept fun i hf e => h.apart.2.2 (e ▸ hf)
  rw [del_mapD, ← dropE_pair] at ho
  exact ⟨(T.block g h.lt.1 h.apart.1).trans h.cell, ⟨f, ho, fun y hy => (hm y (dropE_sub y hy)).kept hk⟩, ⟨dropE_rise id h.ok.1, fun y hy => h.ok.2.1 y (dropE_sub y hy), h.ok.2.2⟩, h.apart⟩
end
section
variable {P : Program} {w : World} {ops : Array Oper} {rest : List Oper} {o : Oper} {a : Act} {Q : Exit → Act → World → Prop}
/-- 'm[k]', at the operation. -/
theorem wpList_lookup_held1 (hg : o.guard = none) (m x : Operand) (t : TypeId) (hop : o.op = Op.lookup t m x false)
    (k e : TypeId) (K : Maps.Keyed P k) (ht : P.underlying t = some (.map k e)) (z : Value) (hz : (zeroValue e).run P w = .ok z w) (b n : Nat) (L : List (Int × Value))
    (hm : a.eval m = .map (some b)) (hown : w.ownsMap P k heldR b n (mapD L)) (key : Int) (hx : a.eval x = .int .i64 key) (hkey : keyOf P k (Value.int .i64 key) = some (Lit.int .i64 key))
    (v : Value) (ok : Bool) (hres : foundIn L z key = (v, ok)) (hK : wpList P ops Q rest (a.put o.dst v) w) : wpList P ops Q (o :: rest) a w := by
  refine wpList_plain hg fun K' hK' => ?_
  have hr := look_held false K ht hz hown hkey
  rw [hres] at hr
  unfold Oper.wp
  simp [execOp, hop, hm, hx, hr, Result.andThen]
  exact hK' _ _ hK
end
/-- The first that ended. -/
theorem roomF_few {L : List Ent} (h : L.length < 32) : roomF L = L := by unfold roomF; rw [if_pos h]
theorem roomF_at {L : List Ent} {i : Nat} {x : Ent} (h : 32 ≤ L.length) (hx : L[i]? = some x) (ho : x.isOpen = false) (hb : ∀ j y, j < i → L[j]? = some y → y.isOpen = true) : roomF L = dropE L x.id := by
  unfold roomF
  rw [if_neg (by omega)]
  have : L.find? (fun x => !x.isOpen) = some x := by
    rw [List.find?_eq_some_iff_getElem]
    obtain ⟨hi, e⟩ := List.getElem?_eq_some_iff.1 hx
    exact ⟨by simp [ho], i, hi, e, fun j hj => by
      have := hb j L[j] hj (List.getElem?_eq_getElem _)
      simp [this]⟩
  rw [this]
theorem roomF_all {L : List Ent} (hb : ∀ j y, j < L.length → L[j]? = some y → y.isOpen = true) : roomF L = L := by
  unfold roomF
  split
  · rfl
  · have : L.find? (fun x => !x.isOpen) = none := by
      rw [List.find?_eq_none]
      intro x hx
      obtain ⟨j, hj, e⟩ := List.mem_iff_getElem.1 hx
      have := hb j x hj (by rw [List.getElem?_eq_getElem hj, e])
      simp [this]
    rw [this]
section
variable {F : Nat → Prop} {w : World} {g b k : Nat} {most : Int} {t : BkS}
/-- The book without the saga that is forgotten. -/
def Roomy (F : Nat → Prop) (g b k : Nat) (most : Int) (t : BkS) (w : World) (e : Ending) (w' : World) : Prop := e = .returned (.tuple #[]) ∧ BookAt F w' g b k most ⟨t.last, roomF t.L⟩ ∧ Turned (fun i => i = b) w w'
theorem entAt_get {L : List Ent} (hr : RiseE L) {i : Nat} {x : Ent} (hx : L[i]? = some x) : entAt L x.id = some x := by
  unfold entAt
  rw [List.find?_eq_some_iff_getElem]
  obtain ⟨hi, e⟩ := List.getElem?_eq_some_iff.1 hx
  refine ⟨by simp, i, hi, e, fun j hj => ?_⟩
  have := List.pairwise_iff_getElem.1 hr j i (by omega) hi hj
  rw [e] at this
  simp
  omega
set_option maxHeartbeats 4000000 in
set_option maxRecDepth 100000 in
theorem room_few (h : BookAt F w g b k most t) (hl : t.L.length < 32) : Calls Tryz.prog 65 #[.pointer (some ⟨g, 0, none⟩)] w (Roomy F g b k most t w) := by
  obtain ⟨f, hm, _⟩ := h.body
  have HM := hide hm
  have H := hide h
  have c2 := h.c2
  have hsz : Maps.size (mapD (t.L.map (pairE f))) = t.L.length := by rw [size_mapD, List.length_map]
  obtain ⟨n, hn⟩ : ∃ n, t.L.length = n := ⟨_, rfl⟩
  rw [hn] at hsz hl
  have HSZ := hide hsz
  have HR := hide (roomF_few (L := t.L) (by omega))
  clear h hm hn hsz
  go_enter Tryz.func65, Tryz.ntmps65
  go_wp2_with (at_len; refine wpList_len_own _ rfl _ 77 rfl 3 36 Tryz.underlying77 _ b k _ rfl HM.out ?_; rw [HSZ.out])
  refine bodyPost_ret (results_none rfl _ _ _) rfl ?_
  exact ⟨rfl, by rw [HR.out]; exact H.out, Turned.refl _ _⟩
set_option maxHeartbeats 4000000 in
set_option maxRecDepth 100000 in
theorem room_many (h : BookAt F w g b k most t) (hl : 32 ≤ t.L.length) (hl6 : t.L.length ≤ 1000000) : Calls Tryz.prog 65 #[.pointer (some ⟨g, 0, none⟩)] w (Roomy F g b k most t w) := by
  obtain ⟨f, hm, hs⟩ := h.body
  have HM := hide hm
  have HS := hide hs
  have H := hide h
  have c2 := h.c2
  have hsz : Maps.size (mapD (t.L.map (pairE f))) = t.L.length := by rw [size_mapD, List.length_map]
  have C := hide (ids_any h hl6)
  have HLE : Hid ((idsOf t.L).length = t.L.length) := idsOf_len t.L
  obtain ⟨n, hn⟩ : ∃ n, t.L.length = n := ⟨_, rfl⟩
  rw [hn] at hsz hl hl6 HLE
  have HN := hide hn
  have HSZ := hide hsz
  clear h hm hs hn hsz
  go_enter Tryz.func65, Tryz.ntmps65
  go_wp2_with (at_len; refine wpList_len_own _ rfl _ 77 rfl 3 36 Tryz.underlying77 _ b k _ rfl HM.out ?_; rw [HSZ.out])
  refine C.out.mono ?_
  rintro e w1 ⟨A, m, c, rfl, hown, hI, hmc, hb1⟩
  have hmn : m = n := by
    have h1 : (idsOf t.L).length = m := hI.1
    have h2 := HLE.out
    omega
  subst hmn
  have HI := hide hI
  have L1 : Hid (Later w w1) := hb1
  clear hown hI hmc hb1 C
  go_wp2
  go_loopw [13] (fun i wr => ∃ q : Nat, q ≤ m ∧ i = .int .i64 (q : Int) ∧ (∀ j y, j < q → t.L[j]? = some y → y.isOpen = true) ∧ Later w1 wr) (fun i _ => m - (Go.RowKit.intOf i).toNat)
  case atStart => exact ⟨0, by omega, rfl, fun j y hj _ => by omega, Later.refl _⟩
  case round =>
    obtain ⟨q, hq, rfl, hop, hlr⟩ := hrel
    have HOP := hide hop
    have LR := hide hlr
    have LWa : Later w w1 := L1.out
    have LW : Hid (Later w wr) := Later.trans LWa hlr
    clear hop hlr LWa
    by_cases hqm : q < m
    · obtain ⟨x, hx⟩ : ∃ x, t.L[q]? = some x := ⟨t.L[q]'(by rw [HN.out]; exact hqm), List.getElem?_eq_getElem _⟩
      obtain ⟨B, off, rfl, hB, hc⟩ := HI.out.at_ hqm
      have hid : (idsOf t.L).getD q 0 = x.id := by simp [idsOf, List.getD, hx]
      rw [hid] at hc
      have hc2 : wr.cell? ⟨B, off + q, none⟩ = some (.int .i64 x.id) := (Below.cell LR.out (p := ⟨B, off + q, none⟩) hB).trans hc
      have HBr := H.out.later LW.out
      have d2 := HBr.c2
      have hok := HBr.ok.2.1 x (List.mem_of_getElem? hx)
      have hid64 : I64 x.id := ⟨by have := hok.1.2.2.2; omega, by have := hok.2; omega⟩
      have HKEY := hide (int_key hid64)
      have HM2 : Hid (wr.ownsMap Tryz.prog 3 heldR b k (mapD (t.L.map (pairE f)))) := HM.out.kept (later_grown LW.out) (by simp)
      have HR : Hid (foundIn (t.L.map (pairE f)) SagaD.zero.val x.id = ((x.sd f).val, true)) := by
        show _ = _
        rw [found_ent, entAt_get HBr.ok.1 hx]
      have CU := hide (under_any (w := wr) (x.sd f))
      have hso : (decide ((x.sd f).st = 1) || decide ((x.sd f).st = 2)) = x.isOpen := rfl
      rw [hso] at CU
      have HX := hide hx
      obtain ⟨id, hidd⟩ : ∃ id, x.id = id := ⟨_, rfl⟩
      rw [hidd] at hc2 HKEY HR
      obtain ⟨sv, hsv⟩ : ∃ sv, x.sd f = sv := ⟨_, rfl⟩
      rw [hsv] at HR CU
      have HB2 := hide HBr
      have HID := hide hidd
      clear hx hc hid HBr hok hid64 hso hidd hsv hB
      cases ho : x.isOpen with
      | true =>
        rw [ho] at CU
        have HO := hide ho
        clear ho
        go_wp2_with (at_lookup; refine wpList_lookup_held1 rfl _ _ 77 rfl 3 36 Tryz.int_law Tryz.underlying77 SagaD.zero.val (by kernel_rfl) b k _ rfl HM2.out id rfl HKEY.out _ true HR.out ?_)
        refine CU.out.mono ?_
        rintro e w2 ⟨rfl, hl2⟩
        have L2a : Later w1 wr := LR.out
        have L2 : Hid (Later w1 w2) := Later.trans L2a hl2
        clear hl2 L2a
        go_wp2
        go_roundw
        case rel => exact ⟨q + 1, by omega, by go_num, fun j y hj hy => by
          rcases Nat.lt_or_ge j q with h | h
          · exact HOP.out j y h hy
          · obtain rfl : j = q := by omega
            have e := hy.symm.trans HX.out
            obtain rfl := Option.some.inj e
            exact HO.out, L2.out⟩
        case measure => simp [Go.RowKit.intOf]; omega
      | false =>
        rw [ho] at CU
        have HR2 := hide (roomF_at (by rw [HN.out]; exact hl) HX.out ho HOP.out)
        clear ho
        go_wp2_with (at_lookup; refine wpList_lookup_held1 rfl _ _ 77 rfl 3 36 Tryz.int_law Tryz.underlying77 SagaD.zero.val (by kernel_rfl) b k _ rfl HM2.out id rfl HKEY.out _ true HR.out ?_)
        refine CU.out.mono ?_
        rintro e w2 ⟨rfl, hl2⟩
        have L2a : Later w wr := LW.out
        have L2 : Hid (Later w w2) := Later.trans L2a hl2
        have HB3 := hide (HB2.out.later hl2)
        have d3 := HB3.out.c2
        have HM3 : Hid (w2.ownsMap Tryz.prog 3 heldR b k (mapD (t.L.map (pairE f)))) := HM2.out.kept (later_grown hl2) (by simp)
        have HS3 : Hid (∀ y ∈ t.L, StepsAt F w2 (f y.id).v y.l) := fun y hy => StepsAt.kept (HS.out y hy) (Kept.of_below L2.out F)
        clear hl2 L2a
        go_wp2_with (at_delete; refine wpList_delete_own _ rfl _ _ 77 3 rfl 36 Tryz.int_law Tryz.underlying77 heldR b k (mapD (t.L.map (pairE f))) rfl HM3.out _ _ rfl HKEY.out ?_; intro w3 ho3 ht3)
        have E3 := HB3.out.drop HS3.out ho3 ht3
        rw [← HID.out, ← HR2.out] at E3
        refine bodyPost_ret (results_none rfl _ _ _) rfl ?_
        exact ⟨rfl, E3, (Turned.of_below L2.out _).trans (Turned.of_grown ht3.grown (fun k e => (Option.some.inj e).symm))⟩
    · obtain rfl : q = m := by omega
      have HR := hide (roomF_all (L := t.L) (fun j y hj hy => HOP.out j y (by rw [HN.out] at hj; exact hj) hy))
      go_wp2
      go_end0
      exact ⟨rfl, by rw [HR.out]; exact H.out.later LW.out, Turned.of_below LW.out _⟩
theorem room_any (h : BookAt F w g b k most t) (hl6 : t.L.length ≤ 1000000) : Calls Tryz.prog 65 #[.pointer (some ⟨g, 0, none⟩)] w (Roomy F g b k most t w) := by
  rcases Nat.lt_or_ge t.L.length 32 with hl | hl
  · exact room_few h hl
  · exact room_many h hl hl6
end
end Go.Proofs.YtpicnoinnngpeaaGreat
/- A region whose order is open, of calls that turn but one part of memory beside operations that read another: as text Order, over whatever relation of worlds. -/
namespace Go.Proofs.YtpicnoinnngpeaaGreat
open Go.RowKit

/-- A relation of worlds that goes on. -/
def Pre (R : World → World → Prop) : Prop := (∀ w, R w w) ∧ ∀ {a b c : World}, R a b → R b c → R a c
theorem pre_grown (r : Option Nat) : Pre (fun a b => a.grownBy b r) := ⟨fun w => World.grownBy.refl w r, fun h k => h.trans k⟩

section
variable {P : Program} {ops : Array Oper} {Q : Exit → Act → World → Prop} {md : Region.Mode} {R : World → World → Prop}

/-- Whatever order is picked from here on, and behind each operation the world is a later one. -/
def wpAnyR (R : World → World → Prop) (P : Program) (md : Region.Mode) (ops : Array Oper) (Q : Exit → Act → World → Prop) : Nat → Array Bool → Act → World → Prop
  | 0, listed, a, w => Region.ready md ops listed = [] ∧ Q .normal a w
  | fuel + 1, listed, a, w =>
    (Region.ready md ops listed = [] → Q .normal a w) ∧
    ∀ i ∈ Region.ready md ops listed, wpOp P ops Q i (fun a' w' => R w w' ∧ wpAnyR R P md ops Q fuel (listed.setIfInBounds i true) a' w') a w

theorem wpAny_of_R : ∀ (fuel : Nat) (listed : Array Bool) (a : Act) (w : World), wpAnyR R P md ops Q fuel listed a w → wpAny P md ops Q fuel listed a w
  | 0, _, _, _, h => h
  | fuel + 1, _, _, _, h => ⟨h.1, fun i hi => wpOp_mono (fun a' w' h' => wpAny_of_R fuel _ a' w' h'.2) (h.2 i hi)⟩

/-- What yields its value in all later worlds does so in those that are later than a later one. -/
theorem yields_rel {o : Oper} {v : Value} {a : Act} {w w' : World} (h : YieldsIf P ops (R w) o v a) (hR : Pre R) (hl : R w w') : YieldsIf P ops (R w') o v a :=
  h.imp (fun ⟨hw, hv⟩ => ⟨hw, fun u hu => hv u (hR.2 hl hu)⟩) id

/-- Such an operation, if it may come up, may come up at once. -/
theorem wpAnyR_first (hR : Pre R) {i : Nat} {oi : Oper} {v : Value} (hi : ops[i]? = some oi) (hsel : ∀ (j : Nat) (o : Oper) cs b, ops[j]? = some o → o.op ≠ .select cs b)
    (hQ : ∀ c a w, Q (.panic c) (a.put oi.dst v) w → Q (.panic c) a w) :
    ∀ (fuel : Nat) (listed : Array Bool) (a : Act) (w : World),
      (∀ j oj, ops[j]? = some oj → j ≠ i → listed.getD j true = false → (∀ e ∈ oj.after, Region.binds md e = true → e.on ≠ i) → oi.apart ops oj = true) →
      i ∈ Region.ready md ops listed → YieldsIf P ops (R w) oi v a →
      wpAnyR R P md ops Q fuel (listed.setIfInBounds i true) (a.put oi.dst v) w → wpAnyR R P md ops Q (fuel + 1) listed a w := by
  intro fuel
  induction fuel with
  | zero =>
    intro listed a w _ hr hy H
    refine ⟨fun h => (by rw [h] at hr; cases hr), fun j hj => ?_⟩
    by_cases hji : j = i
    · subst hji
      exact hy.wpOp hi (hR.1 w) ⟨hR.1 w, H⟩
    · have := ready_mono hj hji
      rw [H.1] at this
      cases this
  | succ fuel ih =>
    intro listed a w hfree hr hy H
    refine ⟨fun h => (by rw [h] at hr; cases hr), fun j hj => ?_⟩
    by_cases hji : j = i
    · subst hji
      exact hy.wpOp hi (hR.1 w) ⟨hR.1 w, H⟩
    · have h1 := H.2 j (ready_mono hj hji)
      obtain ⟨hjun, oj, hoj, hall⟩ := mem_ready.1 hj
      have hnot : ∀ e ∈ oj.after, Region.binds md e = true → e.on ≠ i := fun e he hb heq => by
        have q1 := hall e he hb
        have q0 := (mem_ready.1 hr).1
        rw [heq] at q1
        rcases Nat.lt_or_ge i listed.size with h' | h'
        · simp [h'] at q0 q1
          rw [q0] at q1
          cases q1
        · simp [Array.getElem?_eq_none h'] at q1
      have h2 := wpOp_putIf hoj (hfree j oj hoj hji hjun hnot) (fun cs b => hsel i oi cs b hi) (fun cs b => hsel j oj cs b hoj) hQ hy h1
      have hfree' : ∀ k ok, ops[k]? = some ok → k ≠ i → (listed.setIfInBounds j true).getD k true = false →
          (∀ e ∈ ok.after, Region.binds md e = true → e.on ≠ i) → oi.apart ops ok = true := fun k ok hk hki hun hno => by
        refine hfree k ok hk hki ?_ hno
        by_cases hjk : j = k
        · subst hjk; exact hjun
        · rw [getD_set_ne true hjk] at hun; exact hun
      refine wpOp_mono (fun a' w' h3 => ⟨h3.2.1, ih (listed.setIfInBounds j true) a' w' hfree' (ready_mono hr (Ne.symm hji)) (yields_rel h3.1 hR h3.2.1) ?_⟩) h2
      rw [Array.setIfInBounds_comm _ _ hji]
      exact h3.2.2

/-- The moves: an operation that may come up at once; the one that must; the end; the beginning. -/
theorem wpAnyR_take (hR : Pre R) {i : Nat} {oi : Oper} {d : Option Tmp} {v : Value} {fuel : Nat} {listed : Array Bool} {a : Act} {w : World} (hi : ops[i]? = some oi) (hd : oi.dst = d)
    (hs : Region.noSelect ops = true) (hf : Region.free md ops listed i = true) (hr : (Region.ready md ops listed).contains i = true)
    (hQ : ∀ c a w, Q (.panic c) (a.put d v) w → Q (.panic c) a w) (hw : Region.wanted oi (yielded ops a.tmps) = true) (hy : ∀ w', R w w' → (execOp a.eval oi).run P w' = .ok (.value v) w')
    (h : wpAnyR R P md ops Q fuel (listed.setIfInBounds i true) (a.put d v) w) : wpAnyR R P md ops Q (fuel + 1) listed a w := by
  subst hd
  exact wpAnyR_first hR hi (Region.noSelect_spec hs) hQ fuel listed a w (Region.free_spec hi hf) (by simpa using hr) (.inl ⟨hw, hy⟩) h

theorem wpAnyR_pass (hR : Pre R) {i : Nat} {oi : Oper} {d : Option Tmp} {fuel : Nat} {listed : Array Bool} {a : Act} {w : World} (hi : ops[i]? = some oi) (hd : oi.dst = d)
    (hs : Region.noSelect ops = true) (hf : Region.free md ops listed i = true) (hr : (Region.ready md ops listed).contains i = true)
    (hQ : ∀ c a w, Q (.panic c) (a.put d undef) w → Q (.panic c) a w) (hw : Region.wanted oi (yielded ops a.tmps) = false)
    (h : wpAnyR R P md ops Q fuel (listed.setIfInBounds i true) (a.put d undef) w) : wpAnyR R P md ops Q (fuel + 1) listed a w := by
  subst hd
  exact wpAnyR_first hR hi (Region.noSelect_spec hs) hQ fuel listed a w (Region.free_spec hi hf) (by simpa using hr) (.inr ⟨hw, rfl⟩) h

theorem wpAnyR_only {i : Nat} {o : Oper} {fuel : Nat} {listed : Array Bool} {a : Act} {w : World} (ho : ops[i]? = some o) (hr : Region.ready md ops listed = [i]) (hw : Region.wanted o (yielded ops a.tmps) = true)
    (h : ∀ K' : Act → World → Prop, Hid (∀ a' w', R w w' → wpAnyR R P md ops Q fuel (listed.setIfInBounds i true) a' w' → K' a' w') → Oper.wp P o a w K' Q) : wpAnyR R P md ops Q (fuel + 1) listed a w := by
  refine ⟨fun h0 => absurd (hr ▸ h0) (by simp), fun j hj => ?_⟩
  rw [hr] at hj
  obtain rfl : j = i := by simpa using hj
  refine wpOp_step ho fun K' hK => ?_
  rw [if_pos hw]
  exact h K' fun a' w' hl hn => hK a' w' ⟨hl, hn⟩

theorem wpAnyR_two {i j : Nat} {oi oj : Oper} {fuel : Nat} {listed : Array Bool} {a : Act} {w : World} (hoi : ops[i]? = some oi) (hoj : ops[j]? = some oj) (hr : Region.ready md ops listed = [i, j])
    (hwi : Region.wanted oi (yielded ops a.tmps) = true) (hwj : Region.wanted oj (yielded ops a.tmps) = true)
    (hi : ∀ K' : Act → World → Prop, Hid (∀ a' w', R w w' → wpAnyR R P md ops Q fuel (listed.setIfInBounds i true) a' w' → K' a' w') → Oper.wp P oi a w K' Q)
    (hj : ∀ K' : Act → World → Prop, Hid (∀ a' w', R w w' → wpAnyR R P md ops Q fuel (listed.setIfInBounds j true) a' w' → K' a' w') → Oper.wp P oj a w K' Q) : wpAnyR R P md ops Q (fuel + 1) listed a w := by
  refine ⟨fun h0 => absurd (hr ▸ h0) (by simp), fun k hk => ?_⟩
  rw [hr] at hk
  rcases List.mem_cons.1 hk with rfl | hk
  · refine wpOp_step hoi fun K' hK => ?_
    rw [if_pos hwi]
    exact hi K' fun a' w' hl hn => hK a' w' ⟨hl, hn⟩
  · obtain rfl : k = j := by simpa using hk
    refine wpOp_step hoj fun K' hK => ?_
    rw [if_pos hwj]
    exact hj K' fun a' w' hl hn => hK a' w' ⟨hl, hn⟩

theorem wpAnyR_done {listed : Array Bool} {a : Act} {w : World} (hr : Region.ready md ops listed = []) (h : Q .normal a w) : ∀ fuel, wpAnyR R P md ops Q fuel listed a w
  | 0 => ⟨hr, h⟩
  | _ + 1 => ⟨fun _ => h, by rw [hr]; simp⟩

theorem wp_region_R {id : Nat} {a : Act} {w : World} (hm : P.follows .mixedOrders = true)
    (h : wpAnyR R P .any ops Q ops.size (Array.replicate ops.size false) a w.drew) : (Code.region id ops true).wp P Q a w :=
  wp_region_any hm (wpAny_of_R _ _ _ _ h)
end

end Go.Proofs.YtpicnoinnngpeaaGreat
