/- Texts merged: Chain, SameOpB, Prefix, ReplaceA, ReplaceB, Replace, TellC, Tell, Says, At, OrderV, Add. -/
import Derived.Test.YtaiegmhlgjogmaaGreatAlM1
import Derived.Test.YtaiegmhlgjogmaaGreatAlM2
import Derived.RegionTactic
import Derived.BigRegion
import Derived.Deep.QuietTactic
import Derived.BigQuiet
import Derived.Lib.MinMax
/- A long chain of '&&' over fields of two structs, one conjunct at a time: the frame is known by four of its slots alone. -/
namespace Go.Proofs.YtaiegmhlgjogmaaGreat
open Go.RowKit

/-- The frame: two addresses in slots 2 and 3, and what holds so far in slot k. -/
structure Fr (X Y : Value) (k : Nat) (c : Bool) (n : Nat) (a : Act) : Prop where
  x : a.tmps[2]? = some X
  y : a.tmps[3]? = some Y
  c : a.tmps[k]? = some (.bool c)
  n : a.tmps.size = n
  d : a.defers = []
theorem put_tmps (a : Act) (d : Nat) (v : Value) (i : Nat) : (a.put (some d) v).tmps[i]? = if d = i then (if i < a.tmps.size then some v else none) else a.tmps[i]? := by
  show (a.tmps.setIfInBounds d v)[i]? = _
  rw [Array.getElem?_setIfInBounds]
  by_cases h : d = i
  · subst h
    simp
  · simp [h]
theorem put_same (a : Act) (d : Nat) (v : Value) (h : d < a.tmps.size) : (a.put (some d) v).tmps[d]? = some v := by rw [put_tmps, if_pos rfl, if_pos h]
theorem put_other (a : Act) (d : Nat) (v : Value) (i : Nat) (h : d ≠ i) : (a.put (some d) v).tmps[i]? = a.tmps[i]? := by rw [put_tmps, if_neg h]
theorem put_size (a : Act) (d : Nat) (v : Value) : (a.put (some d) v).tmps.size = a.tmps.size := by simp [Act.put]
theorem eval_of {a : Act} {i : Nat} {v : Value} (h : a.tmps[i]? = some v) : a.eval (.tmp i) = v := by
  show a.tmps.getD i undef = v
  rw [Array.getD_eq_getD_getElem?, h]
  rfl
/-- The same without a word of what holds so far. -/
structure Fr0 (X Y : Value) (n : Nat) (a : Act) : Prop where
  x : a.tmps[2]? = some X
  y : a.tmps[3]? = some Y
  n : a.tmps.size = n
  d : a.defers = []
section
variable {X Y : Value} {k n : Nat} {c : Bool} {a : Act}
theorem Fr0.put (h : Fr0 X Y n a) (d : Nat) (v : Value) (h2 : d ≠ 2) (h3 : d ≠ 3) : Fr0 X Y n (a.put (some d) v) := ⟨(put_other a d v 2 h2).trans h.x, (put_other a d v 3 h3).trans h.y, (put_size a d v).trans h.n, h.d⟩
theorem Fr.put (h : Fr X Y k c n a) (d : Nat) (v : Value) (h2 : d ≠ 2) (h3 : d ≠ 3) (hk : d ≠ k) : Fr X Y k c n (a.put (some d) v) :=
  ⟨(put_other a d v 2 h2).trans h.x, (put_other a d v 3 h3).trans h.y, (put_other a d v k hk).trans h.c, (put_size a d v).trans h.n, h.d⟩
variable {P : Program} {ops : Array Oper} {Q : Exit → Act → World → Prop} {rest : List Oper} {w : World}
theorem wpList_val {o : Oper} {d : Nat} {v : Value} {w' : World} (hd : o.dst = some d) (hw : Region.wanted o (yielded ops a.tmps) = true) (hx : (execOp a.eval o).run P w = .ok (.value v) w')
    (h : wpList P ops Q rest (a.put (some d) v) w') : wpList P ops Q (o :: rest) a w := by
  refine wpList_step fun K hK => ?_
  rw [if_pos hw]
  unfold Oper.wp
  rw [hx, Oper.upon_value, hd]
  exact hK _ _ h
theorem want_true {o : Oper} {j : Nat} {k : Nat} (hg : o.guard = some (j, true)) (hj : (ops[j]?).bind (·.dst) = some k) (hk : a.tmps[k]? = some (.bool true)) : Region.wanted o (yielded ops a.tmps) = true := by
  unfold Region.wanted yielded
  rw [hg]
  simp only [hj, Option.bind_some, hk]
  rfl
theorem want_false {o : Oper} {j : Nat} {k : Nat} (hg : o.guard = some (j, true)) (hj : (ops[j]?).bind (·.dst) = some k) (hk : a.tmps[k]? = some (.bool false)) : Region.wanted o (yielded ops a.tmps) = false := by
  unfold Region.wanted yielded
  rw [hg]
  simp only [hj, Option.bind_some, hk]
  rfl
theorem want_none {o : Oper} (hg : o.guard = none) : Region.wanted o (yielded ops a.tmps) = true := by
  unfold Region.wanted
  rw [hg]
theorem skip_one {o : Oper} {j d : Nat} (h : Fr X Y k false n a) (hj : (ops[j]?).bind (·.dst) = some k) (hd : o.dst = some d) (hg : o.guard = some (j, true)) (h2 : d ≠ 2) (h3 : d ≠ 3) (hk : d ≠ k)
    (next : ∀ a', Fr X Y k false n a' → wpList P ops Q rest a' w) : wpList P ops Q (o :: rest) a w := by
  refine wpList_skip (want_false hg hj h.c) ?_
  rw [hd]
  exact next _ (h.put d undef h2 h3 hk)

/-- One conjunct: the operations at slots s to s + 4 are wanted just if all holds so far; then the pick, then a move. -/
theorem conj {q : Bool} {s : Nat} {W : World → Prop} (j t : Nat) (h : Fr X Y k c n a) (hj : (ops[j]?).bind (·.dst) = some k) (hs : k < s) (hs3 : 3 < s) (hn : s + 6 ≤ n) (ht : 3 < t) (htn : t < n) (hW : W w)
    {o1 o2 o3 o4 o5 o6 o7 : Oper} {px py vx vy : Value}
    (g1 : o1.dst = some s ∧ o1.guard = some (j, true)) (g2 : o2.dst = some (s + 1) ∧ o2.guard = some (j, true)) (g3 : o3.dst = some (s + 2) ∧ o3.guard = some (j, true)) (g4 : o4.dst = some (s + 3) ∧ o4.guard = some (j, true)) (g5 : o5.dst = some (s + 4) ∧ o5.guard = some (j, true))
    (g6 : o6.op = .pick (.tmp k) (.tmp (s + 4)) (.const (.bool false)) ∧ o6.dst = some (s + 5) ∧ o6.guard = none) (g7 : (o7.op = .move (.tmp (s + 5)) ∨ o7.op = .assign (.tmp (s + 5))) ∧ o7.dst = some t ∧ o7.guard = none)
    (e1 : ∀ a' : Act, a'.tmps[2]? = some X → (execOp a'.eval o1).run P w = .ok (.value px) w)
    (e2 : ∀ a' : Act, a'.tmps[s]? = some px → (execOp a'.eval o2).run P w = .ok (.value vx) w)
    (e3 : ∀ a' : Act, a'.tmps[3]? = some Y → (execOp a'.eval o3).run P w = .ok (.value py) w)
    (e4 : ∀ a' : Act, a'.tmps[(s + 2)]? = some py → (execOp a'.eval o4).run P w = .ok (.value vy) w)
    (e5 : ∀ (a' : Act) (r : List Oper), a'.tmps[(s + 1)]? = some vx → a'.tmps[(s + 3)]? = some vy → Region.wanted o5 (yielded ops a'.tmps) = true → (∀ w', W w' → wpList P ops Q r (a'.put (some (s + 4)) (.bool q)) w') → wpList P ops Q (o5 :: r) a' w)
    (next : ∀ a' w', Fr X Y t (c && q) n a' → W w' → wpList P ops Q rest a' w') : wpList P ops Q (o1 :: o2 :: o3 :: o4 :: o5 :: o6 :: o7 :: rest) a w := by
  have last : ∀ (a' : Act) (w' : World) (b : Bool), Fr X Y k c n a' → (c = true → a'.tmps[s + 4]? = some (.bool q)) → W w' → wpList P ops Q (o6 :: o7 :: rest) a' w' := by
    intro a' w' b h' hq hw'
    refine wpList_val (w' := w') (v := .bool (c && q)) g6.2.1 (want_none g6.2.2) ?_ ?_
    · unfold execOp
      simp only [g6.1, eval_of h'.c]
      cases c with
      | false => rfl
      | true =>
        simp only [eval_of (hq rfl)]
        rfl
    · refine wpList_val (w' := w') (v := .bool (c && q)) g7.2.1 (want_none g7.2.2) ?_ ?_
      · unfold execOp
        rcases g7.1 with g | g <;> (simp only [g, eval_of (put_same a' (s + 5) (.bool (c && q)) (by have := h'.n; omega))]; rfl)
      · have h5 := h'.put (s + 5) (.bool (c && q)) (by omega) (by omega) (by omega)
        exact next _ _ ⟨(put_other _ t _ 2 (by omega)).trans h5.x, (put_other _ t _ 3 (by omega)).trans h5.y, put_same _ _ _ (by have := h5.n; omega), (put_size _ _ _).trans h5.n, h5.d⟩ hw'
  cases c with
  | false =>
    refine skip_one h hj g1.1 g1.2 (by omega) (by omega) (by omega) fun a1 h1 => ?_
    refine skip_one h1 hj g2.1 g2.2 (by omega) (by omega) (by omega) fun a2 h2 => ?_
    refine skip_one h2 hj g3.1 g3.2 (by omega) (by omega) (by omega) fun a3 h3 => ?_
    refine skip_one h3 hj g4.1 g4.2 (by omega) (by omega) (by omega) fun a4 h4 => ?_
    refine skip_one h4 hj g5.1 g5.2 (by omega) (by omega) (by omega) fun a5 h5 => ?_
    exact last a5 w false h5 (fun h => by cases h) hW
  | true =>
    have sz := h.n
    refine wpList_val g1.1 (want_true g1.2 hj h.c) (e1 a h.x) ?_
    have h1 := h.put s px (by omega) (by omega) (by omega)
    have t1 : (a.put (some s) px).tmps[s]? = some px := put_same a s px (by omega)
    refine wpList_val g2.1 (want_true g2.2 hj h1.c) (e2 _ t1) ?_
    have h2 := h1.put (s + 1) vx (by omega) (by omega) (by omega)
    have t2 := put_same (a.put (some s) px) (s + 1) vx (by have := h1.n; omega)
    refine wpList_val g3.1 (want_true g3.2 hj h2.c) (e3 _ h2.y) ?_
    have h3 := h2.put (s + 2) py (by omega) (by omega) (by omega)
    have t3 := put_same ((a.put (some s) px).put (some (s + 1)) vx) (s + 2) py (by have := h2.n; omega)
    have t2' := (put_other ((a.put (some s) px).put (some (s + 1)) vx) (s + 2) py (s + 1) (by omega)).trans t2
    refine wpList_val g4.1 (want_true g4.2 hj h3.c) (e4 _ t3) ?_
    have h4 := h3.put (s + 3) vy (by omega) (by omega) (by omega)
    have t4 := put_same (((a.put (some s) px).put (some (s + 1)) vx).put (some (s + 2)) py) (s + 3) vy (by have := h3.n; omega)
    have t2'' := (put_other (((a.put (some s) px).put (some (s + 1)) vx).put (some (s + 2)) py) (s + 3) vy (s + 1) (by omega)).trans t2'
    refine e5 _ _ t2'' t4 (want_true g5.2 hj h4.c) fun w' hw' => ?_
    have h5 := h4.put (s + 4) (.bool q) (by omega) (by omega) (by omega)
    exact last _ w' true h5 (fun _ => put_same _ _ _ (by have := h4.n; omega)) hw'
/-- One conjunct over fields of fields: the operations at slots s to s + 6 are wanted just if all holds so far; then the pick, then a move. -/
theorem conj2 {q : Bool} {s : Nat} {W : World → Prop} (j t : Nat) (h : Fr X Y k c n a) (hj : (ops[j]?).bind (·.dst) = some k) (hs : k < s) (hs3 : 3 < s) (hn : s + 8 ≤ n) (ht : 3 < t) (htn : t < n) (hW : W w)
    {o1 o1' o2 o3 o3' o4 o5 o6 o7 : Oper} {px px' py py' vx vy : Value}
    (g1 : o1.dst = some s ∧ o1.guard = some (j, true)) (g1' : o1'.dst = some (s + 1) ∧ o1'.guard = some (j, true)) (g2 : o2.dst = some (s + 2) ∧ o2.guard = some (j, true)) (g3 : o3.dst = some (s + 3) ∧ o3.guard = some (j, true)) (g3' : o3'.dst = some (s + 4) ∧ o3'.guard = some (j, true)) (g4 : o4.dst = some (s + 5) ∧ o4.guard = some (j, true)) (g5 : o5.dst = some (s + 6) ∧ o5.guard = some (j, true))
    (g6 : o6.op = .pick (.tmp k) (.tmp (s + 6)) (.const (.bool false)) ∧ o6.dst = some (s + 7) ∧ o6.guard = none) (g7 : (o7.op = .move (.tmp (s + 7)) ∨ o7.op = .assign (.tmp (s + 7))) ∧ o7.dst = some t ∧ o7.guard = none)
    (e1 : ∀ a' : Act, a'.tmps[2]? = some X → (execOp a'.eval o1).run P w = .ok (.value px) w)
    (e1' : ∀ a' : Act, a'.tmps[s]? = some px → (execOp a'.eval o1').run P w = .ok (.value px') w)
    (e2 : ∀ a' : Act, a'.tmps[s + 1]? = some px' → (execOp a'.eval o2).run P w = .ok (.value vx) w)
    (e3 : ∀ a' : Act, a'.tmps[3]? = some Y → (execOp a'.eval o3).run P w = .ok (.value py) w)
    (e3' : ∀ a' : Act, a'.tmps[s + 3]? = some py → (execOp a'.eval o3').run P w = .ok (.value py') w)
    (e4 : ∀ a' : Act, a'.tmps[s + 4]? = some py' → (execOp a'.eval o4).run P w = .ok (.value vy) w)
    (e5 : ∀ (a' : Act) (r : List Oper), a'.tmps[(s + 2)]? = some vx → a'.tmps[(s + 5)]? = some vy → Region.wanted o5 (yielded ops a'.tmps) = true → (∀ w', W w' → wpList P ops Q r (a'.put (some (s + 6)) (.bool q)) w') → wpList P ops Q (o5 :: r) a' w)
    (next : ∀ a' w', Fr X Y t (c && q) n a' → W w' → wpList P ops Q rest a' w') : wpList P ops Q (o1 :: o1' :: o2 :: o3 :: o3' :: o4 :: o5 :: o6 :: o7 :: rest) a w := by
  have last : ∀ (a' : Act) (w' : World) (b : Bool), Fr X Y k c n a' → (c = true → a'.tmps[s + 6]? = some (.bool q)) → W w' → wpList P ops Q (o6 :: o7 :: rest) a' w' := by
    intro a' w' b h' hq hw'
    refine wpList_val (w' := w') (v := .bool (c && q)) g6.2.1 (want_none g6.2.2) ?_ ?_
    · unfold execOp
      simp only [g6.1, eval_of h'.c]
      cases c with
      | false => rfl
      | true =>
        simp only [eval_of (hq rfl)]
        rfl
    · refine wpList_val (w' := w') (v := .bool (c && q)) g7.2.1 (want_none g7.2.2) ?_ ?_
      · unfold execOp
        rcases g7.1 with g | g <;> (simp only [g, eval_of (put_same a' (s + 7) (.bool (c && q)) (by have := h'.n; omega))]; rfl)
      · have h5 := h'.put (s + 7) (.bool (c && q)) (by omega) (by omega) (by omega)
        exact next _ _ ⟨(put_other _ t _ 2 (by omega)).trans h5.x, (put_other _ t _ 3 (by omega)).trans h5.y, put_same _ _ _ (by have := h5.n; omega), (put_size _ _ _).trans h5.n, h5.d⟩ hw'
  cases c with
  | false =>
    refine skip_one h hj g1.1 g1.2 (by omega) (by omega) (by omega) fun a1 h1 => ?_
    refine skip_one h1 hj g1'.1 g1'.2 (by omega) (by omega) (by omega) fun b1 hb1 => ?_
    refine skip_one hb1 hj g2.1 g2.2 (by omega) (by omega) (by omega) fun a2 h2 => ?_
    refine skip_one h2 hj g3.1 g3.2 (by omega) (by omega) (by omega) fun a3 h3 => ?_
    refine skip_one h3 hj g3'.1 g3'.2 (by omega) (by omega) (by omega) fun b3 hb3 => ?_
    refine skip_one hb3 hj g4.1 g4.2 (by omega) (by omega) (by omega) fun a4 h4 => ?_
    refine skip_one h4 hj g5.1 g5.2 (by omega) (by omega) (by omega) fun a5 h5 => ?_
    exact last a5 w false h5 (fun h => by cases h) hW
  | true =>
    have sz := h.n
    refine wpList_val g1.1 (want_true g1.2 hj h.c) (e1 a h.x) ?_
    have h1 := h.put s px (by omega) (by omega) (by omega)
    have t1 : (a.put (some s) px).tmps[s]? = some px := put_same a s px (by omega)
    generalize a.put (some s) px = a1 at t1 h1 ⊢
    refine wpList_val g1'.1 (want_true g1'.2 hj h1.c) (e1' _ t1) ?_
    have tb1 := put_same a1 (s + 1) px' (by have := h1.n; omega)
    have hb1 := h1.put (s + 1) px' (by omega) (by omega) (by omega)
    generalize a1.put (some (s + 1)) px' = b1 at tb1 hb1 ⊢
    refine wpList_val g2.1 (want_true g2.2 hj hb1.c) (e2 _ tb1) ?_
    have t2 := put_same b1 (s + 2) vx (by have := hb1.n; omega)
    have h2 := hb1.put (s + 2) vx (by omega) (by omega) (by omega)
    generalize b1.put (some (s + 2)) vx = a2 at t2 h2 ⊢
    refine wpList_val g3.1 (want_true g3.2 hj h2.c) (e3 _ h2.y) ?_
    have t3 := put_same a2 (s + 3) py (by have := h2.n; omega)
    have u3 := (put_other a2 (s + 3) py (s + 2) (by omega)).trans t2
    have h3 := h2.put (s + 3) py (by omega) (by omega) (by omega)
    generalize a2.put (some (s + 3)) py = a3 at t3 u3 h3 ⊢
    refine wpList_val g3'.1 (want_true g3'.2 hj h3.c) (e3' _ t3) ?_
    have tb3 := put_same a3 (s + 4) py' (by have := h3.n; omega)
    have ub3 := (put_other a3 (s + 4) py' (s + 2) (by omega)).trans u3
    have hb3 := h3.put (s + 4) py' (by omega) (by omega) (by omega)
    generalize a3.put (some (s + 4)) py' = b3 at tb3 ub3 hb3 ⊢
    refine wpList_val g4.1 (want_true g4.2 hj hb3.c) (e4 _ tb3) ?_
    have t4 := put_same b3 (s + 5) vy (by have := hb3.n; omega)
    have u4 := (put_other b3 (s + 5) vy (s + 2) (by omega)).trans ub3
    have h4 := hb3.put (s + 5) vy (by omega) (by omega) (by omega)
    generalize b3.put (some (s + 5)) vy = a4 at t4 u4 h4 ⊢
    refine e5 _ _ u4 t4 (want_true g5.2 hj h4.c) fun w' hw' => ?_
    have h5 := h4.put (s + 6) (.bool q) (by omega) (by omega) (by omega)
    exact last _ w' true h5 (fun _ => put_same _ _ _ (by have := h4.n; omega)) hw'
/-- The first conjunct, that is always wanted: no pick. -/
theorem conj_first {q : Bool} {s : Nat} (hx : a.tmps[2]? = some X) (hy : a.tmps[3]? = some Y) (hsz : a.tmps.size = n) (hd : a.defers = []) (hs3 : 3 < s) (hn : s + 5 < n)
    {o1 o2 o3 o4 o5 o6 : Oper} {px py vx vy : Value}
    (g1 : o1.dst = some s ∧ o1.guard = none) (g2 : o2.dst = some (s + 1) ∧ o2.guard = none) (g3 : o3.dst = some (s + 2) ∧ o3.guard = none) (g4 : o4.dst = some (s + 3) ∧ o4.guard = none) (g5 : o5.dst = some (s + 4) ∧ o5.guard = none)
    (g6 : o6.op = .move (.tmp (s + 4)) ∧ o6.dst = some (s + 5) ∧ o6.guard = none)
    (e1 : ∀ a' : Act, a'.tmps[2]? = some X → (execOp a'.eval o1).run P w = .ok (.value px) w)
    (e2 : ∀ a' : Act, a'.tmps[s]? = some px → (execOp a'.eval o2).run P w = .ok (.value vx) w)
    (e3 : ∀ a' : Act, a'.tmps[3]? = some Y → (execOp a'.eval o3).run P w = .ok (.value py) w)
    (e4 : ∀ a' : Act, a'.tmps[(s + 2)]? = some py → (execOp a'.eval o4).run P w = .ok (.value vy) w)
    (e5 : ∀ a' : Act, a'.tmps[(s + 1)]? = some vx → a'.tmps[(s + 3)]? = some vy → (execOp a'.eval o5).run P w = .ok (.value (.bool q)) w)
    (next : ∀ a', Fr X Y (s + 5) q n a' → wpList P ops Q rest a' w) : wpList P ops Q (o1 :: o2 :: o3 :: o4 :: o5 :: o6 :: rest) a w := by
  have h0 : Fr0 X Y n a := ⟨hx, hy, hsz, hd⟩
  refine wpList_val g1.1 (want_none g1.2) (e1 a h0.x) ?_
  have t1 := put_same a s px (by have := h0.n; omega)
  have h1 := h0.put s px (by omega) (by omega)
  generalize a.put (some s) px = a1 at t1 h1 ⊢
  refine wpList_val g2.1 (want_none g2.2) (e2 _ t1) ?_
  have t2 := put_same a1 (s + 1) vx (by have := h1.n; omega)
  have h2 := h1.put (s + 1) vx (by omega) (by omega)
  generalize a1.put (some (s + 1)) vx = a2 at t2 h2 ⊢
  refine wpList_val g3.1 (want_none g3.2) (e3 _ h2.y) ?_
  have t3 := put_same a2 (s + 2) py (by have := h2.n; omega)
  have t2' := (put_other a2 (s + 2) py (s + 1) (by omega)).trans t2
  have h3 := h2.put (s + 2) py (by omega) (by omega)
  generalize a2.put (some (s + 2)) py = a3 at t3 t2' h3 ⊢
  refine wpList_val g4.1 (want_none g4.2) (e4 _ t3) ?_
  have t4 := put_same a3 (s + 3) vy (by have := h3.n; omega)
  have t2'' := (put_other a3 (s + 3) vy (s + 1) (by omega)).trans t2'
  have h4 := h3.put (s + 3) vy (by omega) (by omega)
  generalize a3.put (some (s + 3)) vy = a4 at t4 t2'' h4 ⊢
  refine wpList_val g5.1 (want_none g5.2) (e5 _ t2'' t4) ?_
  have t5 := put_same a4 (s + 4) (.bool q) (by have := h4.n; omega)
  have h5 := h4.put (s + 4) (.bool q) (by omega) (by omega)
  generalize a4.put (some (s + 4)) (.bool q) = a5 at t5 h5 ⊢
  refine wpList_val (w' := w) (v := .bool q) g6.2.1 (want_none g6.2.2) ?_ ?_
  · unfold execOp
    simp only [g6.1, eval_of t5]
    rfl
  · have h6 := h5.put (s + 5) (.bool q) (by omega) (by omega)
    exact next _ ⟨h6.x, h6.y, put_same _ _ _ (by have := h5.n; omega), h6.n, h6.d⟩
end
end Go.Proofs.YtaiegmhlgjogmaaGreat
/- op.Same. -/
namespace Go.Proofs.YtaiegmhlgjogmaaGreat
open Go.RowKit

set_option maxHeartbeats 4000000 in
set_option maxRecDepth 100000 in
theorem sameop_any (F G : Nat → Prop) (v v2 : Value) (x y : OpD) (w : World) (hl : StepsAt F w v x.steps) (hm : StepsAt G w v2 y.steps) :
    Calls Tryz.prog 231 #[.agg (x.cells v).toArray, .agg (y.cells v2).toArray] w fun e w' => e = .returned (.bool (decide (x = y))) ∧ Below w.heap.size w w' := by
  obtain ⟨q0, h0⟩ : ∃ q, (x.kind == y.kind) = q := ⟨_, rfl⟩
  obtain ⟨q1, h1⟩ : ∃ q, (x.client == y.client) = q := ⟨_, rfl⟩
  obtain ⟨q2, h2⟩ : ∃ q, (x.request == y.request) = q := ⟨_, rfl⟩
  obtain ⟨q3, h3⟩ : ∃ q, (x.name.toList == y.name.toList) = q := ⟨_, rfl⟩
  obtain ⟨q4, h4⟩ : ∃ q, decide (x.steps = y.steps) = q := ⟨_, rfl⟩
  obtain ⟨q5, h5⟩ : ∃ q, (x.saga == y.saga) = q := ⟨_, rfl⟩
  obtain ⟨q6, h6⟩ : ∃ q, (x.step == y.step) = q := ⟨_, rfl⟩
  obtain ⟨q7, h7⟩ : ∃ q, (x.try_ == y.try_) = q := ⟨_, rfl⟩
  obtain ⟨q8, h8⟩ : ∃ q, (x.back == y.back) = q := ⟨_, rfl⟩
  obtain ⟨q9, h9⟩ : ∃ q, (x.good == y.good) = q := ⟨_, rfl⟩
  have HALL : Hid (decide (x = y) = (((((((((q0 && q1) && q2) && q3) && q4) && q5) && q6) && q7) && q8) && q9)) := by
    show _ = _
    rw [← h0, ← h1, ← h2, ← h3, ← h4, ← h5, ← h6, ← h7, ← h8, ← h9, str_eq, Bool.eq_iff_iff, decide_eq_true_eq, op_iff]
    simp [and_assoc]
  have C := hide (fun w' (hb : Below w.heap.size w w') => equal_steps F G v v2 x.steps y.steps w' (hl.kept (Kept.of_below hb F)) (hm.kept (Kept.of_below hb G)))
  rw [h4] at C
  have k1 := FlatAt.oneCell hl
  have j1 := FlatAt.oneCell hm
  clear hl hm h4
  obtain ⟨w0, hw0⟩ : ∃ w0, w0 = ((w.alloc (.cells (x.cells v).toArray 33 (0, 0))).alloc (.cells (y.cells v2).toArray 33 (0, 0))) := ⟨_, rfl⟩
  have L0 : Hid (Below w.heap.size w w0) := by rw [hw0]; exact ((Below.refl _ _).alloc (Nat.le_refl _) _).alloc (by simp) _
  have X0 : Hid (w0.heap[w.heap.size]? = some (.cells (x.cells v).toArray 33 (0, 0))) := by rw [hw0]; exact (heap_alloc_old _ _ (by simp)).trans (heap_alloc_new _ _)
  have Y0 : Hid (w0.heap[w.heap.size + 1]? = some (.cells (y.cells v2).toArray 33 (0, 0))) := by rw [hw0]; exact heap_alloc2_new w _ _
  go_enter Tryz.func231, Tryz.ntmps231
  go_step
  go_step
  go_step
  go_step
  go_step
  go_step
  go_step
  go_step
  go_step
  go_step
  go_step
  rename_i KA hKA KB hKB
  refine hKB _ _ ?_
  refine wpList_nil ?_
  refine hKA _ _ ?_
  clear hKA hKB KA KB
  rw [← hw0]
  clear hw0
  go_step
  rename_i K2 hK2
  refine wp_region_lit ?_
  simp only [List.append_eq, List.cons_append, List.nil_append]
  have x0 := cell_of_row w0 w.heap.size 0 _ _ _ (X0.out)
  have y0 := cell_of_row w0 (w.heap.size + 1) 0 _ _ _ (Y0.out)
  simp only [List.getElem?_toArray, OpD.cells, List.getElem?_cons_zero] at x0 y0
  refine conj_first (X := (.pointer (some ⟨w.heap.size, 0, none⟩))) (Y := (.pointer (some ⟨w.heap.size + 1, 0, none⟩))) (n := 77) (s := 5) (px := (.pointer (some ⟨w.heap.size, 0, none⟩))) (py := (.pointer (some ⟨w.heap.size + 1, 0, none⟩))) (vx := .int .i64 x.kind) (vy := .int .i64 y.kind) (q := q0) (by rfl) (by rfl) (by rfl) (by rfl) (by omega) (by omega) ⟨rfl, rfl⟩ ⟨rfl, rfl⟩ ⟨rfl, rfl⟩ ⟨rfl, rfl⟩ ⟨rfl, rfl⟩ ⟨rfl, rfl, rfl⟩ (fun a' h => by go_simp) (fun a' h => by go_simp) (fun a' h => by go_simp) (fun a' h => by go_simp) (fun a' ha hb => by go_simp) fun a0 h0' => ?_
  clear x0 y0
  have x1 := cell_of_row w0 w.heap.size 1 _ _ _ (X0.out)
  have y1 := cell_of_row w0 (w.heap.size + 1) 1 _ _ _ (Y0.out)
  simp only [List.getElem?_toArray, OpD.cells, List.getElem?_cons_zero, List.getElem?_cons_succ] at x1 y1
  refine conj (W := fun w' => w0 = w') 5 17 h0' (by rfl) (by omega) (by omega) (by omega) (by omega) (by omega) rfl (px := (.pointer (some ⟨w.heap.size, 1, none⟩))) (py := (.pointer (some ⟨w.heap.size + 1, 1, none⟩))) (vx := .int .i64 x.client) (vy := .int .i64 y.client) (q := q1) ⟨rfl, rfl⟩ ⟨rfl, rfl⟩ ⟨rfl, rfl⟩ ⟨rfl, rfl⟩ ⟨rfl, rfl⟩ ⟨rfl, rfl, rfl⟩ ⟨.inl rfl, rfl, rfl⟩ (fun a' h => by go_simp) (fun a' h => by go_simp) (fun a' h => by go_simp) (fun a' h => by go_simp) (fun a' r ha hb hw hn => by refine wpList_val rfl hw (w' := w0) (v := .bool q1) ?_ (hn _ rfl); go_simp) fun a1 wq h1' hq => ?_
  subst hq
  clear x1 y1
  have x2 := cell_of_row w0 w.heap.size 2 _ _ _ (X0.out)
  have y2 := cell_of_row w0 (w.heap.size + 1) 2 _ _ _ (Y0.out)
  simp only [List.getElem?_toArray, OpD.cells, List.getElem?_cons_zero, List.getElem?_cons_succ] at x2 y2
  refine conj (W := fun w' => w0 = w') 12 24 h1' (by rfl) (by omega) (by omega) (by omega) (by omega) (by omega) rfl (px := (.pointer (some ⟨w.heap.size, 2, none⟩))) (py := (.pointer (some ⟨w.heap.size + 1, 2, none⟩))) (vx := .int .i64 x.request) (vy := .int .i64 y.request) (q := q2) ⟨rfl, rfl⟩ ⟨rfl, rfl⟩ ⟨rfl, rfl⟩ ⟨rfl, rfl⟩ ⟨rfl, rfl⟩ ⟨rfl, rfl, rfl⟩ ⟨.inl rfl, rfl, rfl⟩ (fun a' h => by go_simp) (fun a' h => by go_simp) (fun a' h => by go_simp) (fun a' h => by go_simp) (fun a' r ha hb hw hn => by refine wpList_val rfl hw (w' := w0) (v := .bool q2) ?_ (hn _ rfl); go_simp) fun a2 wq h2' hq => ?_
  subst hq
  clear x2 y2
  have x3 := cell_of_row w0 w.heap.size 3 _ _ _ (X0.out)
  have y3 := cell_of_row w0 (w.heap.size + 1) 3 _ _ _ (Y0.out)
  simp only [List.getElem?_toArray, OpD.cells, List.getElem?_cons_zero, List.getElem?_cons_succ] at x3 y3
  refine conj2 (W := fun w' => w0 = w') 19 33 h2' (by rfl) (by omega) (by omega) (by omega) (by omega) (by omega) rfl (px := (.pointer (some ⟨w.heap.size, 3, none⟩))) (px' := (.pointer (some ⟨w.heap.size, 3, none⟩))) (py := (.pointer (some ⟨w.heap.size + 1, 3, none⟩))) (py' := (.pointer (some ⟨w.heap.size + 1, 3, none⟩))) (vx := .string x.name) (vy := .string y.name) (q := q3) ⟨rfl, rfl⟩ ⟨rfl, rfl⟩ ⟨rfl, rfl⟩ ⟨rfl, rfl⟩ ⟨rfl, rfl⟩ ⟨rfl, rfl⟩ ⟨rfl, rfl⟩ ⟨rfl, rfl, rfl⟩ ⟨.inl rfl, rfl, rfl⟩ (fun a' h => by go_simp) (fun a' h => by go_simp) (fun a' h => by go_simp) (fun a' h => by go_simp) (fun a' h => by go_simp) (fun a' h => by go_simp) (fun a' r ha hb hw hn => by refine wpList_val rfl hw (w' := w0) (v := .bool q3) ?_ (hn _ rfl); go_simp) fun a3 wq h3' hq => ?_
  subst hq
  clear x3 y3
  have x4 := cell_of_row w0 w.heap.size 4 _ _ _ (X0.out)
  have y4 := cell_of_row w0 (w.heap.size + 1) 4 _ _ _ (Y0.out)
  simp only [List.getElem?_toArray, OpD.cells, List.getElem?_cons_zero, List.getElem?_cons_succ] at x4 y4
  refine conj2 (W := fun w' => Below w0.heap.size w0 w') 28 42 h3' (by rfl) (by omega) (by omega) (by omega) (by omega) (by omega) (Below.refl _ _) (px := (.pointer (some ⟨w.heap.size, 3, none⟩))) (px' := (.pointer (some ⟨w.heap.size, 4, none⟩))) (py := (.pointer (some ⟨w.heap.size + 1, 3, none⟩))) (py' := (.pointer (some ⟨w.heap.size + 1, 4, none⟩))) (vx := v) (vy := v2) (q := q4) ⟨rfl, rfl⟩ ⟨rfl, rfl⟩ ⟨rfl, rfl⟩ ⟨rfl, rfl⟩ ⟨rfl, rfl⟩ ⟨rfl, rfl⟩ ⟨rfl, rfl⟩ ⟨rfl, rfl, rfl⟩ ⟨.inl rfl, rfl, rfl⟩ (fun a' h => by go_simp) (fun a' h => by go_simp) (fun a' h => by go_simp) (fun a' h => by go_simp) (fun a' h => by go_simp) (fun a' h => by go_simp) (fun a' r ha hb hw hn => ?c4) fun a4 wA h4' bA => ?r4
  case c4 =>
    refine wpList_step fun K hK => ?_
    rw [if_pos hw]
    go_simp
    refine (C.out w0 L0.out).mono ?_
    rintro e w1 ⟨rfl, q, rfl⟩
    exact hK _ _ (hn _ (below_drewN _ _ _))
  have LA := hide (L0.out.trans (bA.mono L0.out.size))
  have hsz0 : w.heap.size + 1 < w0.heap.size := lt_of_block Y0.out
  have XA : Hid (wA.heap[w.heap.size]? = some (.cells (x.cells v).toArray 33 (0, 0))) := (bA.block _ (by omega)).trans X0.out
  have YA : Hid (wA.heap[w.heap.size + 1]? = some (.cells (y.cells v2).toArray 33 (0, 0))) := (bA.block _ hsz0).trans Y0.out
  clear bA x4 y4
  have x5 := cell_of_row wA w.heap.size 5 _ _ _ (XA.out)
  have y5 := cell_of_row wA (w.heap.size + 1) 5 _ _ _ (YA.out)
  simp only [List.getElem?_toArray, OpD.cells, List.getElem?_cons_zero, List.getElem?_cons_succ] at x5 y5
  refine conj (W := fun w' => wA = w') 37 49 h4' (by rfl) (by omega) (by omega) (by omega) (by omega) (by omega) rfl (px := (.pointer (some ⟨w.heap.size, 5, none⟩))) (py := (.pointer (some ⟨w.heap.size + 1, 5, none⟩))) (vx := .int .i64 x.saga) (vy := .int .i64 y.saga) (q := q5) ⟨rfl, rfl⟩ ⟨rfl, rfl⟩ ⟨rfl, rfl⟩ ⟨rfl, rfl⟩ ⟨rfl, rfl⟩ ⟨rfl, rfl, rfl⟩ ⟨.inl rfl, rfl, rfl⟩ (fun a' h => by go_simp) (fun a' h => by go_simp) (fun a' h => by go_simp) (fun a' h => by go_simp) (fun a' r ha hb hw hn => by refine wpList_val rfl hw (w' := wA) (v := .bool q5) ?_ (hn _ rfl); go_simp) fun a5 wq h5' hq => ?_
  subst hq
  clear x5 y5
  have x6 := cell_of_row wA w.heap.size 6 _ _ _ (XA.out)
  have y6 := cell_of_row wA (w.heap.size + 1) 6 _ _ _ (YA.out)
  simp only [List.getElem?_toArray, OpD.cells, List.getElem?_cons_zero, List.getElem?_cons_succ] at x6 y6
  refine conj (W := fun w' => wA = w') 44 56 h5' (by rfl) (by omega) (by omega) (by omega) (by omega) (by omega) rfl (px := (.pointer (some ⟨w.heap.size, 6, none⟩))) (py := (.pointer (some ⟨w.heap.size + 1, 6, none⟩))) (vx := .int .i64 x.step) (vy := .int .i64 y.step) (q := q6) ⟨rfl, rfl⟩ ⟨rfl, rfl⟩ ⟨rfl, rfl⟩ ⟨rfl, rfl⟩ ⟨rfl, rfl⟩ ⟨rfl, rfl, rfl⟩ ⟨.inl rfl, rfl, rfl⟩ (fun a' h => by go_simp) (fun a' h => by go_simp) (fun a' h => by go_simp) (fun a' h => by go_simp) (fun a' r ha hb hw hn => by refine wpList_val rfl hw (w' := wA) (v := .bool q6) ?_ (hn _ rfl); go_simp) fun a6 wq h6' hq => ?_
  subst hq
  clear x6 y6
  have x7 := cell_of_row wA w.heap.size 7 _ _ _ (XA.out)
  have y7 := cell_of_row wA (w.heap.size + 1) 7 _ _ _ (YA.out)
  simp only [List.getElem?_toArray, OpD.cells, List.getElem?_cons_zero, List.getElem?_cons_succ] at x7 y7
  refine conj (W := fun w' => wA = w') 51 63 h6' (by rfl) (by omega) (by omega) (by omega) (by omega) (by omega) rfl (px := (.pointer (some ⟨w.heap.size, 7, none⟩))) (py := (.pointer (some ⟨w.heap.size + 1, 7, none⟩))) (vx := .int .i64 x.try_) (vy := .int .i64 y.try_) (q := q7) ⟨rfl, rfl⟩ ⟨rfl, rfl⟩ ⟨rfl, rfl⟩ ⟨rfl, rfl⟩ ⟨rfl, rfl⟩ ⟨rfl, rfl, rfl⟩ ⟨.inl rfl, rfl, rfl⟩ (fun a' h => by go_simp) (fun a' h => by go_simp) (fun a' h => by go_simp) (fun a' h => by go_simp) (fun a' r ha hb hw hn => by refine wpList_val rfl hw (w' := wA) (v := .bool q7) ?_ (hn _ rfl); go_simp) fun a7 wq h7' hq => ?_
  subst hq
  clear x7 y7
  have x8 := cell_of_row wA w.heap.size 8 _ _ _ (XA.out)
  have y8 := cell_of_row wA (w.heap.size + 1) 8 _ _ _ (YA.out)
  simp only [List.getElem?_toArray, OpD.cells, List.getElem?_cons_zero, List.getElem?_cons_succ] at x8 y8
  refine conj (W := fun w' => wA = w') 58 70 h7' (by rfl) (by omega) (by omega) (by omega) (by omega) (by omega) rfl (px := (.pointer (some ⟨w.heap.size, 8, none⟩))) (py := (.pointer (some ⟨w.heap.size + 1, 8, none⟩))) (vx := .bool x.back) (vy := .bool y.back) (q := q8) ⟨rfl, rfl⟩ ⟨rfl, rfl⟩ ⟨rfl, rfl⟩ ⟨rfl, rfl⟩ ⟨rfl, rfl⟩ ⟨rfl, rfl, rfl⟩ ⟨.inl rfl, rfl, rfl⟩ (fun a' h => by go_simp) (fun a' h => by go_simp) (fun a' h => by go_simp) (fun a' h => by go_simp) (fun a' r ha hb hw hn => by refine wpList_val rfl hw (w' := wA) (v := .bool q8) ?_ (hn _ rfl); go_simp) fun a8 wq h8' hq => ?_
  subst hq
  clear x8 y8
  have x9 := cell_of_row wA w.heap.size 9 _ _ _ (XA.out)
  have y9 := cell_of_row wA (w.heap.size + 1) 9 _ _ _ (YA.out)
  simp only [List.getElem?_toArray, OpD.cells, List.getElem?_cons_zero, List.getElem?_cons_succ] at x9 y9
  refine conj (W := fun w' => wA = w') 65 4 h8' (by rfl) (by omega) (by omega) (by omega) (by omega) (by omega) rfl (px := (.pointer (some ⟨w.heap.size, 9, none⟩))) (py := (.pointer (some ⟨w.heap.size + 1, 9, none⟩))) (vx := .bool x.good) (vy := .bool y.good) (q := q9) ⟨rfl, rfl⟩ ⟨rfl, rfl⟩ ⟨rfl, rfl⟩ ⟨rfl, rfl⟩ ⟨rfl, rfl⟩ ⟨rfl, rfl, rfl⟩ ⟨.inr rfl, rfl, rfl⟩ (fun a' h => by go_simp) (fun a' h => by go_simp) (fun a' h => by go_simp) (fun a' h => by go_simp) (fun a' r ha hb hw hn => by refine wpList_val rfl hw (w' := wA) (v := .bool q9) ?_ (hn _ rfl); go_simp) fun a9 wq h9' hq => ?_
  subst hq
  clear x9 y9
  refine wpList_nil ?_
  simp only [Exit.then]
  refine hK2 _ _ ?_
  go_step
  refine bodyPost_ret (results_tmp rfl _ _ _) h9'.d ?_
  refine ⟨?_, LA.out⟩
  rw [Array.getD_eq_getD_getElem?, h9'.c, HALL.out]
  rfl
end Go.Proofs.YtaiegmhlgjogmaaGreat
/- Same and Prefix of package oplog, the document's Prefix. -/
namespace Go.Proofs.YtaiegmhlgjogmaaGreat.Ol
open Go.RowKit

theorem eval_agg (x : OpD) (s : Value) : (Value.agg (x.cells s).toArray) = .agg #[.int .i64 x.kind, .int .i64 x.client, .int .i64 x.request, .string x.name, s, .int .i64 x.saga, .int .i64 x.step, .int .i64 x.try_, .bool x.back, .bool x.good] := rfl
set_option maxHeartbeats 1000000 in
set_option maxRecDepth 100000 in
/-- Same of package oplog. -/
theorem osame_any (F G : Nat → Prop) (v v2 : Value) (x y : OpD) (w : World) (hl : StepsAt F w v x.steps) (hm : StepsAt G w v2 y.steps) :
    Calls Tryz.prog 215 #[.agg (x.cells v).toArray, .agg (y.cells v2).toArray] w fun e w' => e = .returned (.bool (decide (x = y))) ∧ Below w.heap.size w w' := by
  obtain ⟨W, hW⟩ : ∃ W, W = (w.alloc (.cells (x.cells v).toArray 33 (0, 0))).alloc (.cells (y.cells v2).toArray 33 (0, 0)) := ⟨_, rfl⟩
  have hb : Below w.heap.size w W := by rw [hW]; exact ((Below.refl _ _).alloc (Nat.le_refl _) _).alloc (by simp) _
  have X0 : Hid (W.heap[w.heap.size]? = some (.cells (x.cells v).toArray 33 (0, 0))) := by rw [hW]; exact (heap_alloc_old _ _ (by simp)).trans (heap_alloc_new _ _)
  have Y0 : Hid (W.heap[w.heap.size + 1]? = some (.cells (y.cells v2).toArray 33 (0, 0))) := by rw [hW]; exact heap_alloc2_new w _ _
  have C := hide (sameop_any F G v v2 x y W (hl.kept (Kept.of_below hb F)) (hm.kept (Kept.of_below hb G)))
  have k1 := FlatAt.oneCell hl
  have j1 := FlatAt.oneCell hm
  have HB := hide hb
  clear hl hm hb
  generalize decide (x = y) = q at C ⊢
  unfold OpD.cells at hW ⊢
  go_enter Tryz.func215, Tryz.ntmps215
  go_wp2_with (first
    | (rw [← hW]; clear hW; refine wpList_load_box (by rfl) 33 _ (by rfl) w.heap.size 0 (by rfl) 33 _ X0.out 10 _ Tryz.underlying33 (by rfl) (by kernel_rfl) (x.cells v) (by rfl) (by rfl) ?_; refine wpList_load_box (by rfl) 33 _ (by rfl) (w.heap.size + 1) 0 (by rfl) 33 _ Y0.out 10 _ Tryz.underlying33 (by rfl) (by kernel_rfl) (y.cells v2) (by rfl) (by rfl) ?_))
  refine C.out.mono ?_
  rintro e w1 ⟨rfl, hb1⟩
  have HB1 := hide (HB.out.trans (hb1.mono HB.out.size))
  clear hb1 C
  go_wp2
  go_ret
  exact ⟨rfl, HB1.out⟩

/-- How many first ones of both are the same. -/
def pre : List OpD → List OpD → Nat
  | x :: l, y :: m => if x = y then pre l m + 1 else 0
  | _, _ => 0
theorem pre_le : ∀ l m : List OpD, pre l m ≤ l.length ∧ pre l m ≤ m.length
  | [], _ => by simp [pre]
  | _ :: _, [] => by simp [pre]
  | x :: l, y :: m => by
    have := pre_le l m
    unfold pre
    split <;> simp <;> omega
theorem pre_next {l m : List OpD} {k : Nat} {x : OpD} (h1 : l[k]? = some x) (h2 : m[k]? = some x) : pre (l.drop k) (m.drop k) = pre (l.drop (k + 1)) (m.drop (k + 1)) + 1 := by
  have e1 : l.drop k = x :: l.drop (k + 1) := by rw [List.drop_eq_getElem_cons (List.getElem?_eq_some_iff.1 h1).1, (List.getElem?_eq_some_iff.1 h1).2]
  have e2 : m.drop k = x :: m.drop (k + 1) := by rw [List.drop_eq_getElem_cons (List.getElem?_eq_some_iff.1 h2).1, (List.getElem?_eq_some_iff.1 h2).2]
  rw [e1, e2]
  simp [pre]
theorem pre_other {l m : List OpD} {k : Nat} {x y : OpD} (h1 : l[k]? = some x) (h2 : m[k]? = some y) (hne : x ≠ y) : pre (l.drop k) (m.drop k) = 0 := by
  have e1 : l.drop k = x :: l.drop (k + 1) := by rw [List.drop_eq_getElem_cons (List.getElem?_eq_some_iff.1 h1).1, (List.getElem?_eq_some_iff.1 h1).2]
  have e2 : m.drop k = y :: m.drop (k + 1) := by rw [List.drop_eq_getElem_cons (List.getElem?_eq_some_iff.1 h2).1, (List.getElem?_eq_some_iff.1 h2).2]
  rw [e1, e2]
  simp [pre, hne]
theorem pre_end {l m : List OpD} {k : Nat} (h : l.length ≤ k ∨ m.length ≤ k) : pre (l.drop k) (m.drop k) = 0 := by
  rcases h with h | h
  · rw [List.drop_eq_nil_of_le h]; simp [pre]
  · rw [List.drop_eq_nil_of_le h]
    cases l.drop k <;> simp [pre]
/-- As many as there are of the first: it is a beginning of the other. -/
theorem pre_whole : ∀ {l m : List OpD}, l.length ≤ pre l m ↔ m.take l.length = l
  | [], _ => by simp
  | x :: l, [] => by simp [pre]
  | x :: l, y :: m => by
    have ih := pre_whole (l := l) (m := m)
    unfold pre
    by_cases e : x = y
    · subst e
      simp [ih]
    · simp [e, Ne.symm e]

set_option maxHeartbeats 2000000 in
set_option maxRecDepth 100000 in
theorem prefix_any (F G : Nat → Prop) (v v2 : Value) (l m : List OpD) (w : World) (hl : OpsAt F w v l) (hm : OpsAt G w v2 m) :
    Calls Tryz.prog 198 #[v, v2] w fun e w' => e = .returned (.int .i64 ((pre l m : Nat) : Int)) ∧ Below w.heap.size w w' := by
  obtain ⟨ps, hps, hl⟩ := hl
  obtain ⟨ps2, hps2, hm⟩ := hm
  obtain ⟨A, c, rfl, h1, h2, _⟩ := FlatAt.shape hl.1
  obtain ⟨A2, c2, rfl, h3, h4, _⟩ := FlatAt.shape hm.1
  unfold maxLen at h2 h4
  obtain ⟨n, hn⟩ : ∃ n, ps.length = n := ⟨_, rfl⟩
  obtain ⟨n2, hn2⟩ : ∃ n2, ps2.length = n2 := ⟨_, rfl⟩
  rw [hn] at h1 hl ⊢
  rw [hn2] at h3 hm ⊢
  have H1 := hide hl
  have H2 := hide hm
  have HN := hide hn
  have HN2 := hide hn2
  have HP := hide hps
  have HP2 := hide hps2
  have HLN : Hid (l.length = n) := by show _ = _; rw [← hps, List.length_map, hn]
  have HMN : Hid (m.length = n2) := by show _ = _; rw [← hps2, List.length_map, hn2]
  clear hl hm hn hn2 hps hps2
  go_enter Tryz.func198, Tryz.ntmps198
  go_wp2
  go_loopw [5] (fun i wr => ∃ k : Nat, i = .int .i64 (k : Int) ∧ k ≤ n ∧ k ≤ n2 ∧ pre l m = k + pre (l.drop k) (m.drop k) ∧ Later w wr) (fun i _ => n - (intOf i).toNat)
  case atStart => exact ⟨0, rfl, by omega, by omega, by simp, Later.refl _⟩
  case round =>
    obtain ⟨k, rfl, hk, hk2, hup, hb⟩ := hrel
    have HU := hide hup
    have HB := hide hb
    clear hup hb
    by_cases hkn : k < n
    · by_cases hkm : k < n2
      · obtain ⟨x, s, b, off, c', hx, hv, _, _, _, hr, hs⟩ := OpsIn.at_ (H1.out.kept (Kept.of_below HB.out F)) (i := k) (by rw [HN.out]; exact hkn)
        rw [HN.out] at hv
        obtain ⟨rfl, rfl⟩ : A = some ⟨b, off, none⟩ ∧ c = c' := by injection hv with e1 _ e3; exact ⟨e1, e3⟩
        obtain ⟨y, s2, b2, off2, c2', hy, hv2, _, _, _, hr2, hs2⟩ := OpsIn.at_ (H2.out.kept (Kept.of_below HB.out G)) (i := k) (by rw [HN2.out]; exact hkm)
        rw [HN2.out] at hv2
        obtain ⟨rfl, rfl⟩ : A2 = some ⟨b2, off2, none⟩ ∧ c2 = c2' := by injection hv2 with e1 _ e3; exact ⟨e1, e3⟩
        have HX := hide (map_at HP.out hx)
        have HY := hide (map_at HP2.out hy)
        have RX : Hid (∀ w' : World, Later wr w' → w'.rangeAt b (off + k * 10) (x.cells s)) := fun w' hb j u hu => by
          have hr' := hr j u hu
          exact (World.cell?_of_block (Below.block hb b (by assumption))).trans hr'
        have RY : Hid (∀ w' : World, Later wr w' → w'.rangeAt b2 (off2 + k * 10) (y.cells s2)) := fun w' hb j u hu => by
          have hr' := hr2 j u hu
          exact (World.cell?_of_block (Below.block hb b2 (by assumption))).trans hr'
        have C := hide (fun w' (hb : Later wr w') => osame_any F G s s2 x y w' (hs.kept (Kept.of_below hb F)) (hs2.kept (Kept.of_below hb G)))
        have L0 : Hid (Later wr wr.drew) := Later.drew _
        clear hx hy hv hv2 hr hr2 hs hs2
        by_cases he : x = y
        · have hd : decide (x = y) = true := decide_eq_true he
          have HE : Hid (pre l m = (k + 1 : Nat) + pre (l.drop (k + 1)) (m.drop (k + 1))) := by
            show _ = _
            rw [HU.out, pre_next HX.out (by rw [HY.out, he])]
            omega
          clear he
          rw [hd] at C
          clear hd
          go_wp2
          refine wp_region_L (by kernel_rfl) ?_
          refine wpAnyL_take (i := 0) (d := some 6) (v := ?vap0) rfl rfl (by kernel_rfl) (by kernel_rfl) (by kernel_rfl) (fun _ _ _ h => h) (by rfl) ?yap0 ?_
          case yap0 => (intro w' hw'; go_simp; try (with_reducible rfl))
          simp only [Act.put]; try simp only [List.setIfInBounds_toArray]; try simp only [List.set_cons_zero, List.set_cons_succ]
          refine wpAnyL_take (i := 1) (d := some 7) (v := ?vap1) rfl rfl (by kernel_rfl) (by kernel_rfl) (by kernel_rfl) (fun _ _ _ h => h) (by rfl) ?yap1 ?_
          case yap1 => (intro w' hw'; go_simp; try (with_reducible rfl))
          simp only [Act.put]; try simp only [List.setIfInBounds_toArray]; try simp only [List.set_cons_zero, List.set_cons_succ]
          refine wpAnyL_take (i := 2) (d := some 8) (v := ?vap2) rfl rfl (by kernel_rfl) (by kernel_rfl) (by kernel_rfl) (fun _ _ _ h => h) (by rfl) ?yap2 ?_
          case yap2 => (intro w' hw'; go_simp; try (with_reducible rfl))
          simp only [Act.put]; try simp only [List.setIfInBounds_toArray]; try simp only [List.set_cons_zero, List.set_cons_succ]
          refine wpAnyL_take (i := 3) (d := some 9) (v := ?vap3) rfl rfl (by kernel_rfl) (by kernel_rfl) (by kernel_rfl) (fun _ _ _ h => h) (by rfl) ?yap3 ?_
          case yap3 => (intro w' hw'; go_simp; try (with_reducible rfl))
          simp only [Act.put]; try simp only [List.setIfInBounds_toArray]; try simp only [List.set_cons_zero, List.set_cons_succ]
          refine wpAnyL_take (i := 4) (d := some 10) (v := ?vap4) rfl rfl (by kernel_rfl) (by kernel_rfl) (by kernel_rfl) (fun _ _ _ h => h) (by rfl) ?yap4 ?_
          case yap4 => (intro w' hw'; go_simp; try (with_reducible rfl))
          simp only [Act.put]; try simp only [List.setIfInBounds_toArray]; try simp only [List.set_cons_zero, List.set_cons_succ]
          refine wpAnyL_take (i := 5) (d := some 11) (v := ?vap5) rfl rfl (by kernel_rfl) (by kernel_rfl) (by kernel_rfl) (fun _ _ _ h => h) (by rfl) ?yap5 ?_
          case yap5 => (intro w' hw'; go_simp; try (with_reducible rfl))
          simp only [Act.put]; try simp only [List.setIfInBounds_toArray]; try simp only [List.set_cons_zero, List.set_cons_succ]
          refine wpAnyL_take (i := 6) (d := some 12) (v := ?vap6) rfl rfl (by kernel_rfl) (by kernel_rfl) (by kernel_rfl) (fun _ _ _ h => h) (by rfl) ?yap6 ?_
          case yap6 => (intro w' hw'; go_simp; try (with_reducible rfl))
          simp only [Act.put]; try simp only [List.setIfInBounds_toArray]; try simp only [List.set_cons_zero, List.set_cons_succ]
          refine wpAnyL_take (i := 7) (d := some 13) (v := ?vap7) rfl rfl (by kernel_rfl) (by kernel_rfl) (by kernel_rfl) (fun _ _ _ h => h) (by rfl) ?yap7 ?_
          case yap7 => (intro w' hw'; go_simp; try (with_reducible rfl))
          simp only [Act.put]; try simp only [List.setIfInBounds_toArray]; try simp only [List.set_cons_zero, List.set_cons_succ]
          refine wpAnyL_take (i := 8) (d := some 14) (v := ?vap8) rfl rfl (by kernel_rfl) (by kernel_rfl) (by kernel_rfl) (fun _ _ _ h => h) (by rfl) ?yap8 ?_
          case yap8 => (intro w' hw'; go_simp; try (with_reducible rfl))
          simp only [Act.put]; try simp only [List.setIfInBounds_toArray]; try simp only [List.set_cons_zero, List.set_cons_succ]
          refine wpAnyL_take (i := 9) (d := some 15) (v := ?vap9) rfl rfl (by kernel_rfl) (by kernel_rfl) (by kernel_rfl) (fun _ _ _ h => h) (by rfl) ?yap9 ?_
          case yap9 => (intro w' hw'; go_simp; try (with_reducible rfl))
          simp only [Act.put]; try simp only [List.setIfInBounds_toArray]; try simp only [List.set_cons_zero, List.set_cons_succ]
          refine wpAnyL_take (i := 10) (d := some 16) (v := ?vap10) rfl rfl (by kernel_rfl) (by kernel_rfl) (by kernel_rfl) (fun _ _ _ h => h) (by rfl) ?yap10 ?_
          case yap10 => (intro w' hw'; go_simp; try (with_reducible rfl))
          simp only [Act.put]; try simp only [List.setIfInBounds_toArray]; try simp only [List.set_cons_zero, List.set_cons_succ]
          refine wpAnyL_take (i := 11) (d := some 17) (v := ?vap11) rfl rfl (by kernel_rfl) (by kernel_rfl) (by kernel_rfl) (fun _ _ _ h => h) (by rfl) ?yap11 ?_
          case yap11 => (intro w' hw'; go_simp; try (with_reducible rfl))
          simp only [Act.put]; try simp only [List.setIfInBounds_toArray]; try simp only [List.set_cons_zero, List.set_cons_succ]
          refine wpAnyL_take (i := 12) (d := some 18) (v := ?vap12) rfl rfl (by kernel_rfl) (by kernel_rfl) (by kernel_rfl) (fun _ _ _ h => h) (by rfl) ?yap12 ?_
          case yap12 => (intro w' hw'; go_simp; try (with_reducible rfl))
          simp only [Act.put]; try simp only [List.setIfInBounds_toArray]; try simp only [List.set_cons_zero, List.set_cons_succ]
          refine wpAnyL_take (i := 13) (d := some 19) (v := ?vap13) rfl rfl (by kernel_rfl) (by kernel_rfl) (by kernel_rfl) (fun _ _ _ h => h) (by rfl) ?yap13 ?_
          case yap13 => (intro w' hw'; go_simp; try (with_reducible rfl))
          simp only [Act.put]; try simp only [List.setIfInBounds_toArray]; try simp only [List.set_cons_zero, List.set_cons_succ]
          refine wpAnyL_take (i := 14) (d := some 20) (v := .agg (x.cells s).toArray) rfl rfl (by kernel_rfl) (by kernel_rfl) (by kernel_rfl) (fun _ _ _ h => h) (by rfl) ?yap14 ?_
          case yap14 => (intro w' hw'; exact exec_load_range 33 _ (by rfl) b (off + k * 10) (by rfl) _ (RX.out w' (L0.out.trans hw')) _ Tryz.underlying33 (by rfl) (by kernel_rfl))
          simp only [Act.put]; try simp only [List.setIfInBounds_toArray]; try simp only [List.set_cons_zero, List.set_cons_succ]
          refine wpAnyL_take (i := 15) (d := some 21) (v := ?vap15) rfl rfl (by kernel_rfl) (by kernel_rfl) (by kernel_rfl) (fun _ _ _ h => h) (by rfl) ?yap15 ?_
          case yap15 => (intro w' hw'; go_simp; try (with_reducible rfl))
          simp only [Act.put]; try simp only [List.setIfInBounds_toArray]; try simp only [List.set_cons_zero, List.set_cons_succ]
          refine wpAnyL_take (i := 16) (d := some 22) (v := ?vap16) rfl rfl (by kernel_rfl) (by kernel_rfl) (by kernel_rfl) (fun _ _ _ h => h) (by rfl) ?yap16 ?_
          case yap16 => (intro w' hw'; go_simp; try (with_reducible rfl))
          simp only [Act.put]; try simp only [List.setIfInBounds_toArray]; try simp only [List.set_cons_zero, List.set_cons_succ]
          refine wpAnyL_take (i := 17) (d := some 23) (v := ?vap17) rfl rfl (by kernel_rfl) (by kernel_rfl) (by kernel_rfl) (fun _ _ _ h => h) (by rfl) ?yap17 ?_
          case yap17 => (intro w' hw'; go_simp; try (with_reducible rfl))
          simp only [Act.put]; try simp only [List.setIfInBounds_toArray]; try simp only [List.set_cons_zero, List.set_cons_succ]
          refine wpAnyL_take (i := 18) (d := some 24) (v := .agg (y.cells s2).toArray) rfl rfl (by kernel_rfl) (by kernel_rfl) (by kernel_rfl) (fun _ _ _ h => h) (by rfl) ?yap18 ?_
          case yap18 => (intro w' hw'; exact exec_load_range 33 _ (by rfl) b2 (off2 + k * 10) (by rfl) _ (RY.out w' (L0.out.trans hw')) _ Tryz.underlying33 (by rfl) (by kernel_rfl))
          simp only [Act.put]; try simp only [List.setIfInBounds_toArray]; try simp only [List.set_cons_zero, List.set_cons_succ]
          refine wpAnyL_only (i := 19) rfl (by kernel_rfl) (by rfl) fun K hK => ?_
          go_simp
          refine (C.out _ L0.out).mono ?_
          rintro e w8 ⟨rfl, hb8⟩
          have L8 : Hid (Later wr w8) := L0.out.trans hb8
          have HB8 := hide hb8
          clear hb8
          refine hK.out _ _ HB8.out ?_
          clear hK K
          try (simp only [Act.put]; try simp only [List.setIfInBounds_toArray]; try simp only [List.set_cons_zero, List.set_cons_succ])
          refine wpAnyL_take (i := 20) (d := some 26) (v := ?vap20) rfl rfl (by kernel_rfl) (by kernel_rfl) (by kernel_rfl) (fun _ _ _ h => h) (by rfl) ?yap20 ?_
          case yap20 => (intro w' hw'; go_simp; try (with_reducible rfl))
          simp only [Act.put]; try simp only [List.setIfInBounds_toArray]; try simp only [List.set_cons_zero, List.set_cons_succ]
          refine wpAnyL_done (by kernel_rfl) ?_ _
          go_wp2
          go_roundw
          case rel => exact ⟨k + 1, by go_num, by omega, by omega, HE.out, HB.out.trans L8.out⟩
          case measure => simp [intOf]; omega
        · have hd : decide (x = y) = false := decide_eq_false he
          have HE : Hid (pre l m = k) := by
            show _ = _
            rw [HU.out, pre_other HX.out HY.out he]
            omega
          clear he
          rw [hd] at C
          clear hd
          go_wp2
          refine wp_region_L (by kernel_rfl) ?_
          refine wpAnyL_take (i := 0) (d := some 6) (v := ?vaq0) rfl rfl (by kernel_rfl) (by kernel_rfl) (by kernel_rfl) (fun _ _ _ h => h) (by rfl) ?yaq0 ?_
          case yaq0 => (intro w' hw'; go_simp; try (with_reducible rfl))
          simp only [Act.put]; try simp only [List.setIfInBounds_toArray]; try simp only [List.set_cons_zero, List.set_cons_succ]
          refine wpAnyL_take (i := 1) (d := some 7) (v := ?vaq1) rfl rfl (by kernel_rfl) (by kernel_rfl) (by kernel_rfl) (fun _ _ _ h => h) (by rfl) ?yaq1 ?_
          case yaq1 => (intro w' hw'; go_simp; try (with_reducible rfl))
          simp only [Act.put]; try simp only [List.setIfInBounds_toArray]; try simp only [List.set_cons_zero, List.set_cons_succ]
          refine wpAnyL_take (i := 2) (d := some 8) (v := ?vaq2) rfl rfl (by kernel_rfl) (by kernel_rfl) (by kernel_rfl) (fun _ _ _ h => h) (by rfl) ?yaq2 ?_
          case yaq2 => (intro w' hw'; go_simp; try (with_reducible rfl))
          simp only [Act.put]; try simp only [List.setIfInBounds_toArray]; try simp only [List.set_cons_zero, List.set_cons_succ]
          refine wpAnyL_take (i := 3) (d := some 9) (v := ?vaq3) rfl rfl (by kernel_rfl) (by kernel_rfl) (by kernel_rfl) (fun _ _ _ h => h) (by rfl) ?yaq3 ?_
          case yaq3 => (intro w' hw'; go_simp; try (with_reducible rfl))
          simp only [Act.put]; try simp only [List.setIfInBounds_toArray]; try simp only [List.set_cons_zero, List.set_cons_succ]
          refine wpAnyL_take (i := 4) (d := some 10) (v := ?vaq4) rfl rfl (by kernel_rfl) (by kernel_rfl) (by kernel_rfl) (fun _ _ _ h => h) (by rfl) ?yaq4 ?_
          case yaq4 => (intro w' hw'; go_simp; try (with_reducible rfl))
          simp only [Act.put]; try simp only [List.setIfInBounds_toArray]; try simp only [List.set_cons_zero, List.set_cons_succ]
          refine wpAnyL_take (i := 5) (d := some 11) (v := ?vaq5) rfl rfl (by kernel_rfl) (by kernel_rfl) (by kernel_rfl) (fun _ _ _ h => h) (by rfl) ?yaq5 ?_
          case yaq5 => (intro w' hw'; go_simp; try (with_reducible rfl))
          simp only [Act.put]; try simp only [List.setIfInBounds_toArray]; try simp only [List.set_cons_zero, List.set_cons_succ]
          refine wpAnyL_take (i := 6) (d := some 12) (v := ?vaq6) rfl rfl (by kernel_rfl) (by kernel_rfl) (by kernel_rfl) (fun _ _ _ h => h) (by rfl) ?yaq6 ?_
          case yaq6 => (intro w' hw'; go_simp; try (with_reducible rfl))
          simp only [Act.put]; try simp only [List.setIfInBounds_toArray]; try simp only [List.set_cons_zero, List.set_cons_succ]
          refine wpAnyL_take (i := 7) (d := some 13) (v := ?vaq7) rfl rfl (by kernel_rfl) (by kernel_rfl) (by kernel_rfl) (fun _ _ _ h => h) (by rfl) ?yaq7 ?_
          case yaq7 => (intro w' hw'; go_simp; try (with_reducible rfl))
          simp only [Act.put]; try simp only [List.setIfInBounds_toArray]; try simp only [List.set_cons_zero, List.set_cons_succ]
          refine wpAnyL_take (i := 8) (d := some 14) (v := ?vaq8) rfl rfl (by kernel_rfl) (by kernel_rfl) (by kernel_rfl) (fun _ _ _ h => h) (by rfl) ?yaq8 ?_
          case yaq8 => (intro w' hw'; go_simp; try (with_reducible rfl))
          simp only [Act.put]; try simp only [List.setIfInBounds_toArray]; try simp only [List.set_cons_zero, List.set_cons_succ]
          refine wpAnyL_take (i := 9) (d := some 15) (v := ?vaq9) rfl rfl (by kernel_rfl) (by kernel_rfl) (by kernel_rfl) (fun _ _ _ h => h) (by rfl) ?yaq9 ?_
          case yaq9 => (intro w' hw'; go_simp; try (with_reducible rfl))
          simp only [Act.put]; try simp only [List.setIfInBounds_toArray]; try simp only [List.set_cons_zero, List.set_cons_succ]
          refine wpAnyL_take (i := 10) (d := some 16) (v := ?vaq10) rfl rfl (by kernel_rfl) (by kernel_rfl) (by kernel_rfl) (fun _ _ _ h => h) (by rfl) ?yaq10 ?_
          case yaq10 => (intro w' hw'; go_simp; try (with_reducible rfl))
          simp only [Act.put]; try simp only [List.setIfInBounds_toArray]; try simp only [List.set_cons_zero, List.set_cons_succ]
          refine wpAnyL_take (i := 11) (d := some 17) (v := ?vaq11) rfl rfl (by kernel_rfl) (by kernel_rfl) (by kernel_rfl) (fun _ _ _ h => h) (by rfl) ?yaq11 ?_
          case yaq11 => (intro w' hw'; go_simp; try (with_reducible rfl))
          simp only [Act.put]; try simp only [List.setIfInBounds_toArray]; try simp only [List.set_cons_zero, List.set_cons_succ]
          refine wpAnyL_take (i := 12) (d := some 18) (v := ?vaq12) rfl rfl (by kernel_rfl) (by kernel_rfl) (by kernel_rfl) (fun _ _ _ h => h) (by rfl) ?yaq12 ?_
          case yaq12 => (intro w' hw'; go_simp; try (with_reducible rfl))
          simp only [Act.put]; try simp only [List.setIfInBounds_toArray]; try simp only [List.set_cons_zero, List.set_cons_succ]
          refine wpAnyL_take (i := 13) (d := some 19) (v := ?vaq13) rfl rfl (by kernel_rfl) (by kernel_rfl) (by kernel_rfl) (fun _ _ _ h => h) (by rfl) ?yaq13 ?_
          case yaq13 => (intro w' hw'; go_simp; try (with_reducible rfl))
          simp only [Act.put]; try simp only [List.setIfInBounds_toArray]; try simp only [List.set_cons_zero, List.set_cons_succ]
          refine wpAnyL_take (i := 14) (d := some 20) (v := .agg (x.cells s).toArray) rfl rfl (by kernel_rfl) (by kernel_rfl) (by kernel_rfl) (fun _ _ _ h => h) (by rfl) ?yaq14 ?_
          case yaq14 => (intro w' hw'; exact exec_load_range 33 _ (by rfl) b (off + k * 10) (by rfl) _ (RX.out w' (L0.out.trans hw')) _ Tryz.underlying33 (by rfl) (by kernel_rfl))
          simp only [Act.put]; try simp only [List.setIfInBounds_toArray]; try simp only [List.set_cons_zero, List.set_cons_succ]
          refine wpAnyL_take (i := 15) (d := some 21) (v := ?vaq15) rfl rfl (by kernel_rfl) (by kernel_rfl) (by kernel_rfl) (fun _ _ _ h => h) (by rfl) ?yaq15 ?_
          case yaq15 => (intro w' hw'; go_simp; try (with_reducible rfl))
          simp only [Act.put]; try simp only [List.setIfInBounds_toArray]; try simp only [List.set_cons_zero, List.set_cons_succ]
          refine wpAnyL_take (i := 16) (d := some 22) (v := ?vaq16) rfl rfl (by kernel_rfl) (by kernel_rfl) (by kernel_rfl) (fun _ _ _ h => h) (by rfl) ?yaq16 ?_
          case yaq16 => (intro w' hw'; go_simp; try (with_reducible rfl))
          simp only [Act.put]; try simp only [List.setIfInBounds_toArray]; try simp only [List.set_cons_zero, List.set_cons_succ]
          refine wpAnyL_take (i := 17) (d := some 23) (v := ?vaq17) rfl rfl (by kernel_rfl) (by kernel_rfl) (by kernel_rfl) (fun _ _ _ h => h) (by rfl) ?yaq17 ?_
          case yaq17 => (intro w' hw'; go_simp; try (with_reducible rfl))
          simp only [Act.put]; try simp only [List.setIfInBounds_toArray]; try simp only [List.set_cons_zero, List.set_cons_succ]
          refine wpAnyL_take (i := 18) (d := some 24) (v := .agg (y.cells s2).toArray) rfl rfl (by kernel_rfl) (by kernel_rfl) (by kernel_rfl) (fun _ _ _ h => h) (by rfl) ?yaq18 ?_
          case yaq18 => (intro w' hw'; exact exec_load_range 33 _ (by rfl) b2 (off2 + k * 10) (by rfl) _ (RY.out w' (L0.out.trans hw')) _ Tryz.underlying33 (by rfl) (by kernel_rfl))
          simp only [Act.put]; try simp only [List.setIfInBounds_toArray]; try simp only [List.set_cons_zero, List.set_cons_succ]
          refine wpAnyL_only (i := 19) rfl (by kernel_rfl) (by rfl) fun K hK => ?_
          go_simp
          refine (C.out _ L0.out).mono ?_
          rintro e w8 ⟨rfl, hb8⟩
          have L8 : Hid (Later wr w8) := L0.out.trans hb8
          have HB8 := hide hb8
          clear hb8
          refine hK.out _ _ HB8.out ?_
          clear hK K
          try (simp only [Act.put]; try simp only [List.setIfInBounds_toArray]; try simp only [List.set_cons_zero, List.set_cons_succ])
          refine wpAnyL_take (i := 20) (d := some 26) (v := ?vaq20) rfl rfl (by kernel_rfl) (by kernel_rfl) (by kernel_rfl) (fun _ _ _ h => h) (by rfl) ?yaq20 ?_
          case yaq20 => (intro w' hw'; go_simp; try (with_reducible rfl))
          simp only [Act.put]; try simp only [List.setIfInBounds_toArray]; try simp only [List.set_cons_zero, List.set_cons_succ]
          refine wpAnyL_done (by kernel_rfl) ?_ _
          go_wp2
          go_ret
          exact ⟨ret_int (by rw [HE.out]), HB.out.trans L8.out⟩
      · have HE : Hid (pre l m = k) := by
          show _ = _
          rw [HU.out, pre_end (.inr (by have := HMN.out; omega))]
          omega
        go_wp2
        go_quiet (fail)
        go_wp2
        go_ret
        exact ⟨ret_int (by rw [HE.out]), HB.out.trans (below_drewN _ _ _)⟩
    · have HE : Hid (pre l m = k) := by
        show _ = _
        rw [HU.out, pre_end (.inl (by have := HLN.out; omega))]
        omega
      go_wp2
      go_quiet (fail)
      go_wp2
      go_ret
      exact ⟨ret_int (by rw [HE.out]), HB.out.trans (below_drewN _ _ _)⟩

set_option maxHeartbeats 2000000 in
set_option maxRecDepth 100000 in
theorem refprefix_any (F G : Nat → Prop) (v v2 : Value) (l m : List OpD) (w : World) (hl : OpsAt F w v l) (hm : OpsAt G w v2 m) :
    Calls Tryz.prog 21 #[v, v2] w fun e w' => e = .returned (.int .i64 ((pre l m : Nat) : Int)) ∧ Below w.heap.size w w' := by
  obtain ⟨ps, hps, hl⟩ := hl
  obtain ⟨ps2, hps2, hm⟩ := hm
  obtain ⟨A, c, rfl, h1, h2, _⟩ := FlatAt.shape hl.1
  obtain ⟨A2, c2, rfl, h3, h4, _⟩ := FlatAt.shape hm.1
  unfold maxLen at h2 h4
  obtain ⟨n, hn⟩ : ∃ n, ps.length = n := ⟨_, rfl⟩
  obtain ⟨n2, hn2⟩ : ∃ n2, ps2.length = n2 := ⟨_, rfl⟩
  rw [hn] at h1 hl ⊢
  rw [hn2] at h3 hm ⊢
  have H1 := hide hl
  have H2 := hide hm
  have HN := hide hn
  have HN2 := hide hn2
  have HP := hide hps
  have HP2 := hide hps2
  have HLN : Hid (l.length = n) := by show _ = _; rw [← hps, List.length_map, hn]
  have HMN : Hid (m.length = n2) := by show _ = _; rw [← hps2, List.length_map, hn2]
  clear hl hm hn hn2 hps hps2
  go_enter Tryz.func21, Tryz.ntmps21
  go_wp2
  go_loopw [5] (fun i wr => ∃ k : Nat, i = .int .i64 (k : Int) ∧ k ≤ n ∧ k ≤ n2 ∧ pre l m = k + pre (l.drop k) (m.drop k) ∧ Later w wr) (fun i _ => n - (intOf i).toNat)
  case atStart => exact ⟨0, rfl, by omega, by omega, by simp, Later.refl _⟩
  case round =>
    obtain ⟨k, rfl, hk, hk2, hup, hb⟩ := hrel
    have HU := hide hup
    have HB := hide hb
    clear hup hb
    by_cases hkn : k < n
    · by_cases hkm : k < n2
      · obtain ⟨x, s, b, off, c', hx, hv, _, _, _, hr, hs⟩ := OpsIn.at_ (H1.out.kept (Kept.of_below HB.out F)) (i := k) (by rw [HN.out]; exact hkn)
        rw [HN.out] at hv
        obtain ⟨rfl, rfl⟩ : A = some ⟨b, off, none⟩ ∧ c = c' := by injection hv with e1 _ e3; exact ⟨e1, e3⟩
        obtain ⟨y, s2, b2, off2, c2', hy, hv2, _, _, _, hr2, hs2⟩ := OpsIn.at_ (H2.out.kept (Kept.of_below HB.out G)) (i := k) (by rw [HN2.out]; exact hkm)
        rw [HN2.out] at hv2
        obtain ⟨rfl, rfl⟩ : A2 = some ⟨b2, off2, none⟩ ∧ c2 = c2' := by injection hv2 with e1 _ e3; exact ⟨e1, e3⟩
        have HX := hide (map_at HP.out hx)
        have HY := hide (map_at HP2.out hy)
        have RX : Hid (∀ w' : World, Later wr w' → w'.rangeAt b (off + k * 10) (x.cells s)) := fun w' hb j u hu => by
          have hr' := hr j u hu
          exact (World.cell?_of_block (Below.block hb b (by assumption))).trans hr'
        have RY : Hid (∀ w' : World, Later wr w' → w'.rangeAt b2 (off2 + k * 10) (y.cells s2)) := fun w' hb j u hu => by
          have hr' := hr2 j u hu
          exact (World.cell?_of_block (Below.block hb b2 (by assumption))).trans hr'
        have C := hide (fun w' (hb : Later wr w') => same_op F G s s2 x y w' (hs.kept (Kept.of_below hb F)) (hs2.kept (Kept.of_below hb G)))
        have L0 : Hid (Later wr wr.drew) := Later.drew _
        clear hx hy hv hv2 hr hr2 hs hs2
        by_cases he : x = y
        · have hd : decide (x = y) = true := decide_eq_true he
          have HE : Hid (pre l m = (k + 1 : Nat) + pre (l.drop (k + 1)) (m.drop (k + 1))) := by
            show _ = _
            rw [HU.out, pre_next HX.out (by rw [HY.out, he])]
            omega
          clear he
          rw [hd] at C
          clear hd
          go_wp2
          refine wp_region_L (by kernel_rfl) ?_
          refine wpAnyL_take (i := 0) (d := some 6) (v := ?vap0) rfl rfl (by kernel_rfl) (by kernel_rfl) (by kernel_rfl) (fun _ _ _ h => h) (by rfl) ?yap0 ?_
          case yap0 => (intro w' hw'; go_simp; try (with_reducible rfl))
          simp only [Act.put]; try simp only [List.setIfInBounds_toArray]; try simp only [List.set_cons_zero, List.set_cons_succ]
          refine wpAnyL_take (i := 1) (d := some 7) (v := ?vap1) rfl rfl (by kernel_rfl) (by kernel_rfl) (by kernel_rfl) (fun _ _ _ h => h) (by rfl) ?yap1 ?_
          case yap1 => (intro w' hw'; go_simp; try (with_reducible rfl))
          simp only [Act.put]; try simp only [List.setIfInBounds_toArray]; try simp only [List.set_cons_zero, List.set_cons_succ]
          refine wpAnyL_take (i := 2) (d := some 8) (v := ?vap2) rfl rfl (by kernel_rfl) (by kernel_rfl) (by kernel_rfl) (fun _ _ _ h => h) (by rfl) ?yap2 ?_
          case yap2 => (intro w' hw'; go_simp; try (with_reducible rfl))
          simp only [Act.put]; try simp only [List.setIfInBounds_toArray]; try simp only [List.set_cons_zero, List.set_cons_succ]
          refine wpAnyL_take (i := 3) (d := some 9) (v := ?vap3) rfl rfl (by kernel_rfl) (by kernel_rfl) (by kernel_rfl) (fun _ _ _ h => h) (by rfl) ?yap3 ?_
          case yap3 => (intro w' hw'; go_simp; try (with_reducible rfl))
          simp only [Act.put]; try simp only [List.setIfInBounds_toArray]; try simp only [List.set_cons_zero, List.set_cons_succ]
          refine wpAnyL_take (i := 4) (d := some 10) (v := ?vap4) rfl rfl (by kernel_rfl) (by kernel_rfl) (by kernel_rfl) (fun _ _ _ h => h) (by rfl) ?yap4 ?_
          case yap4 => (intro w' hw'; go_simp; try (with_reducible rfl))
          simp only [Act.put]; try simp only [List.setIfInBounds_toArray]; try simp only [List.set_cons_zero, List.set_cons_succ]
          refine wpAnyL_take (i := 5) (d := some 11) (v := ?vap5) rfl rfl (by kernel_rfl) (by kernel_rfl) (by kernel_rfl) (fun _ _ _ h => h) (by rfl) ?yap5 ?_
          case yap5 => (intro w' hw'; go_simp; try (with_reducible rfl))
          simp only [Act.put]; try simp only [List.setIfInBounds_toArray]; try simp only [List.set_cons_zero, List.set_cons_succ]
          refine wpAnyL_take (i := 6) (d := some 12) (v := ?vap6) rfl rfl (by kernel_rfl) (by kernel_rfl) (by kernel_rfl) (fun _ _ _ h => h) (by rfl) ?yap6 ?_
          case yap6 => (intro w' hw'; go_simp; try (with_reducible rfl))
          simp only [Act.put]; try simp only [List.setIfInBounds_toArray]; try simp only [List.set_cons_zero, List.set_cons_succ]
          refine wpAnyL_take (i := 7) (d := some 13) (v := ?vap7) rfl rfl (by kernel_rfl) (by kernel_rfl) (by kernel_rfl) (fun _ _ _ h => h) (by rfl) ?yap7 ?_
          case yap7 => (intro w' hw'; go_simp; try (with_reducible rfl))
          simp only [Act.put]; try simp only [List.setIfInBounds_toArray]; try simp only [List.set_cons_zero, List.set_cons_succ]
          refine wpAnyL_take (i := 8) (d := some 14) (v := ?vap8) rfl rfl (by kernel_rfl) (by kernel_rfl) (by kernel_rfl) (fun _ _ _ h => h) (by rfl) ?yap8 ?_
          case yap8 => (intro w' hw'; go_simp; try (with_reducible rfl))
          simp only [Act.put]; try simp only [List.setIfInBounds_toArray]; try simp only [List.set_cons_zero, List.set_cons_succ]
          refine wpAnyL_take (i := 9) (d := some 15) (v := ?vap9) rfl rfl (by kernel_rfl) (by kernel_rfl) (by kernel_rfl) (fun _ _ _ h => h) (by rfl) ?yap9 ?_
          case yap9 => (intro w' hw'; go_simp; try (with_reducible rfl))
          simp only [Act.put]; try simp only [List.setIfInBounds_toArray]; try simp only [List.set_cons_zero, List.set_cons_succ]
          refine wpAnyL_take (i := 10) (d := some 16) (v := ?vap10) rfl rfl (by kernel_rfl) (by kernel_rfl) (by kernel_rfl) (fun _ _ _ h => h) (by rfl) ?yap10 ?_
          case yap10 => (intro w' hw'; go_simp; try (with_reducible rfl))
          simp only [Act.put]; try simp only [List.setIfInBounds_toArray]; try simp only [List.set_cons_zero, List.set_cons_succ]
          refine wpAnyL_take (i := 11) (d := some 17) (v := ?vap11) rfl rfl (by kernel_rfl) (by kernel_rfl) (by kernel_rfl) (fun _ _ _ h => h) (by rfl) ?yap11 ?_
          case yap11 => (intro w' hw'; go_simp; try (with_reducible rfl))
          simp only [Act.put]; try simp only [List.setIfInBounds_toArray]; try simp only [List.set_cons_zero, List.set_cons_succ]
          refine wpAnyL_take (i := 12) (d := some 18) (v := ?vap12) rfl rfl (by kernel_rfl) (by kernel_rfl) (by kernel_rfl) (fun _ _ _ h => h) (by rfl) ?yap12 ?_
          case yap12 => (intro w' hw'; go_simp; try (with_reducible rfl))
          simp only [Act.put]; try simp only [List.setIfInBounds_toArray]; try simp only [List.set_cons_zero, List.set_cons_succ]
          refine wpAnyL_take (i := 13) (d := some 19) (v := ?vap13) rfl rfl (by kernel_rfl) (by kernel_rfl) (by kernel_rfl) (fun _ _ _ h => h) (by rfl) ?yap13 ?_
          case yap13 => (intro w' hw'; go_simp; try (with_reducible rfl))
          simp only [Act.put]; try simp only [List.setIfInBounds_toArray]; try simp only [List.set_cons_zero, List.set_cons_succ]
          refine wpAnyL_take (i := 14) (d := some 20) (v := .agg (x.cells s).toArray) rfl rfl (by kernel_rfl) (by kernel_rfl) (by kernel_rfl) (fun _ _ _ h => h) (by rfl) ?yap14 ?_
          case yap14 => (intro w' hw'; exact exec_load_range 33 _ (by rfl) b (off + k * 10) (by rfl) _ (RX.out w' (L0.out.trans hw')) _ Tryz.underlying33 (by rfl) (by kernel_rfl))
          simp only [Act.put]; try simp only [List.setIfInBounds_toArray]; try simp only [List.set_cons_zero, List.set_cons_succ]
          refine wpAnyL_take (i := 15) (d := some 21) (v := ?vap15) rfl rfl (by kernel_rfl) (by kernel_rfl) (by kernel_rfl) (fun _ _ _ h => h) (by rfl) ?yap15 ?_
          case yap15 => (intro w' hw'; go_simp; try (with_reducible rfl))
          simp only [Act.put]; try simp only [List.setIfInBounds_toArray]; try simp only [List.set_cons_zero, List.set_cons_succ]
          refine wpAnyL_take (i := 16) (d := some 22) (v := ?vap16) rfl rfl (by kernel_rfl) (by kernel_rfl) (by kernel_rfl) (fun _ _ _ h => h) (by rfl) ?yap16 ?_
          case yap16 => (intro w' hw'; go_simp; try (with_reducible rfl))
          simp only [Act.put]; try simp only [List.setIfInBounds_toArray]; try simp only [List.set_cons_zero, List.set_cons_succ]
          refine wpAnyL_take (i := 17) (d := some 23) (v := ?vap17) rfl rfl (by kernel_rfl) (by kernel_rfl) (by kernel_rfl) (fun _ _ _ h => h) (by rfl) ?yap17 ?_
          case yap17 => (intro w' hw'; go_simp; try (with_reducible rfl))
          simp only [Act.put]; try simp only [List.setIfInBounds_toArray]; try simp only [List.set_cons_zero, List.set_cons_succ]
          refine wpAnyL_take (i := 18) (d := some 24) (v := .agg (y.cells s2).toArray) rfl rfl (by kernel_rfl) (by kernel_rfl) (by kernel_rfl) (fun _ _ _ h => h) (by rfl) ?yap18 ?_
          case yap18 => (intro w' hw'; exact exec_load_range 33 _ (by rfl) b2 (off2 + k * 10) (by rfl) _ (RY.out w' (L0.out.trans hw')) _ Tryz.underlying33 (by rfl) (by kernel_rfl))
          simp only [Act.put]; try simp only [List.setIfInBounds_toArray]; try simp only [List.set_cons_zero, List.set_cons_succ]
          refine wpAnyL_only (i := 19) rfl (by kernel_rfl) (by rfl) fun K hK => ?_
          go_simp
          refine (C.out _ L0.out).mono ?_
          rintro e w8 ⟨rfl, hb8⟩
          have L8 : Hid (Later wr w8) := L0.out.trans hb8
          have HB8 := hide hb8
          clear hb8
          refine hK.out _ _ HB8.out ?_
          clear hK K
          try (simp only [Act.put]; try simp only [List.setIfInBounds_toArray]; try simp only [List.set_cons_zero, List.set_cons_succ])
          refine wpAnyL_take (i := 20) (d := some 26) (v := ?vap20) rfl rfl (by kernel_rfl) (by kernel_rfl) (by kernel_rfl) (fun _ _ _ h => h) (by rfl) ?yap20 ?_
          case yap20 => (intro w' hw'; go_simp; try (with_reducible rfl))
          simp only [Act.put]; try simp only [List.setIfInBounds_toArray]; try simp only [List.set_cons_zero, List.set_cons_succ]
          refine wpAnyL_done (by kernel_rfl) ?_ _
          go_wp2
          go_roundw
          case rel => exact ⟨k + 1, by go_num, by omega, by omega, HE.out, HB.out.trans L8.out⟩
          case measure => simp [intOf]; omega
        · have hd : decide (x = y) = false := decide_eq_false he
          have HE : Hid (pre l m = k) := by
            show _ = _
            rw [HU.out, pre_other HX.out HY.out he]
            omega
          clear he
          rw [hd] at C
          clear hd
          go_wp2
          refine wp_region_L (by kernel_rfl) ?_
          refine wpAnyL_take (i := 0) (d := some 6) (v := ?vaq0) rfl rfl (by kernel_rfl) (by kernel_rfl) (by kernel_rfl) (fun _ _ _ h => h) (by rfl) ?yaq0 ?_
          case yaq0 => (intro w' hw'; go_simp; try (with_reducible rfl))
          simp only [Act.put]; try simp only [List.setIfInBounds_toArray]; try simp only [List.set_cons_zero, List.set_cons_succ]
          refine wpAnyL_take (i := 1) (d := some 7) (v := ?vaq1) rfl rfl (by kernel_rfl) (by kernel_rfl) (by kernel_rfl) (fun _ _ _ h => h) (by rfl) ?yaq1 ?_
          case yaq1 => (intro w' hw'; go_simp; try (with_reducible rfl))
          simp only [Act.put]; try simp only [List.setIfInBounds_toArray]; try simp only [List.set_cons_zero, List.set_cons_succ]
          refine wpAnyL_take (i := 2) (d := some 8) (v := ?vaq2) rfl rfl (by kernel_rfl) (by kernel_rfl) (by kernel_rfl) (fun _ _ _ h => h) (by rfl) ?yaq2 ?_
          case yaq2 => (intro w' hw'; go_simp; try (with_reducible rfl))
          simp only [Act.put]; try simp only [List.setIfInBounds_toArray]; try simp only [List.set_cons_zero, List.set_cons_succ]
          refine wpAnyL_take (i := 3) (d := some 9) (v := ?vaq3) rfl rfl (by kernel_rfl) (by kernel_rfl) (by kernel_rfl) (fun _ _ _ h => h) (by rfl) ?yaq3 ?_
          case yaq3 => (intro w' hw'; go_simp; try (with_reducible rfl))
          simp only [Act.put]; try simp only [List.setIfInBounds_toArray]; try simp only [List.set_cons_zero, List.set_cons_succ]
          refine wpAnyL_take (i := 4) (d := some 10) (v := ?vaq4) rfl rfl (by kernel_rfl) (by kernel_rfl) (by kernel_rfl) (fun _ _ _ h => h) (by rfl) ?yaq4 ?_
          case yaq4 => (intro w' hw'; go_simp; try (with_reducible rfl))
          simp only [Act.put]; try simp only [List.setIfInBounds_toArray]; try simp only [List.set_cons_zero, List.set_cons_succ]
          refine wpAnyL_take (i := 5) (d := some 11) (v := ?vaq5) rfl rfl (by kernel_rfl) (by kernel_rfl) (by kernel_rfl) (fun _ _ _ h => h) (by rfl) ?yaq5 ?_
          case yaq5 => (intro w' hw'; go_simp; try (with_reducible rfl))
          simp only [Act.put]; try simp only [List.setIfInBounds_toArray]; try simp only [List.set_cons_zero, List.set_cons_succ]
          refine wpAnyL_take (i := 6) (d := some 12) (v := ?vaq6) rfl rfl (by kernel_rfl) (by kernel_rfl) (by kernel_rfl) (fun _ _ _ h => h) (by rfl) ?yaq6 ?_
          case yaq6 => (intro w' hw'; go_simp; try (with_reducible rfl))
          simp only [Act.put]; try simp only [List.setIfInBounds_toArray]; try simp only [List.set_cons_zero, List.set_cons_succ]
          refine wpAnyL_take (i := 7) (d := some 13) (v := ?vaq7) rfl rfl (by kernel_rfl) (by kernel_rfl) (by kernel_rfl) (fun _ _ _ h => h) (by rfl) ?yaq7 ?_
          case yaq7 => (intro w' hw'; go_simp; try (with_reducible rfl))
          simp only [Act.put]; try simp only [List.setIfInBounds_toArray]; try simp only [List.set_cons_zero, List.set_cons_succ]
          refine wpAnyL_take (i := 8) (d := some 14) (v := ?vaq8) rfl rfl (by kernel_rfl) (by kernel_rfl) (by kernel_rfl) (fun _ _ _ h => h) (by rfl) ?yaq8 ?_
          case yaq8 => (intro w' hw'; go_simp; try (with_reducible rfl))
          simp only [Act.put]; try simp only [List.setIfInBounds_toArray]; try simp only [List.set_cons_zero, List.set_cons_succ]
          refine wpAnyL_take (i := 9) (d := some 15) (v := ?vaq9) rfl rfl (by kernel_rfl) (by kernel_rfl) (by kernel_rfl) (fun _ _ _ h => h) (by rfl) ?yaq9 ?_
          case yaq9 => (intro w' hw'; go_simp; try (with_reducible rfl))
          simp only [Act.put]; try simp only [List.setIfInBounds_toArray]; try simp only [List.set_cons_zero, List.set_cons_succ]
          refine wpAnyL_take (i := 10) (d := some 16) (v := ?vaq10) rfl rfl (by kernel_rfl) (by kernel_rfl) (by kernel_rfl) (fun _ _ _ h => h) (by rfl) ?yaq10 ?_
          case yaq10 => (intro w' hw'; go_simp; try (with_reducible rfl))
          simp only [Act.put]; try simp only [List.setIfInBounds_toArray]; try simp only [List.set_cons_zero, List.set_cons_succ]
          refine wpAnyL_take (i := 11) (d := some 17) (v := ?vaq11) rfl rfl (by kernel_rfl) (by kernel_rfl) (by kernel_rfl) (fun _ _ _ h => h) (by rfl) ?yaq11 ?_
          case yaq11 => (intro w' hw'; go_simp; try (with_reducible rfl))
          simp only [Act.put]; try simp only [List.setIfInBounds_toArray]; try simp only [List.set_cons_zero, List.set_cons_succ]
          refine wpAnyL_take (i := 12) (d := some 18) (v := ?vaq12) rfl rfl (by kernel_rfl) (by kernel_rfl) (by kernel_rfl) (fun _ _ _ h => h) (by rfl) ?yaq12 ?_
          case yaq12 => (intro w' hw'; go_simp; try (with_reducible rfl))
          simp only [Act.put]; try simp only [List.setIfInBounds_toArray]; try simp only [List.set_cons_zero, List.set_cons_succ]
          refine wpAnyL_take (i := 13) (d := some 19) (v := ?vaq13) rfl rfl (by kernel_rfl) (by kernel_rfl) (by kernel_rfl) (fun _ _ _ h => h) (by rfl) ?yaq13 ?_
          case yaq13 => (intro w' hw'; go_simp; try (with_reducible rfl))
          simp only [Act.put]; try simp only [List.setIfInBounds_toArray]; try simp only [List.set_cons_zero, List.set_cons_succ]
          refine wpAnyL_take (i := 14) (d := some 20) (v := .agg (x.cells s).toArray) rfl rfl (by kernel_rfl) (by kernel_rfl) (by kernel_rfl) (fun _ _ _ h => h) (by rfl) ?yaq14 ?_
          case yaq14 => (intro w' hw'; exact exec_load_range 33 _ (by rfl) b (off + k * 10) (by rfl) _ (RX.out w' (L0.out.trans hw')) _ Tryz.underlying33 (by rfl) (by kernel_rfl))
          simp only [Act.put]; try simp only [List.setIfInBounds_toArray]; try simp only [List.set_cons_zero, List.set_cons_succ]
          refine wpAnyL_take (i := 15) (d := some 21) (v := ?vaq15) rfl rfl (by kernel_rfl) (by kernel_rfl) (by kernel_rfl) (fun _ _ _ h => h) (by rfl) ?yaq15 ?_
          case yaq15 => (intro w' hw'; go_simp; try (with_reducible rfl))
          simp only [Act.put]; try simp only [List.setIfInBounds_toArray]; try simp only [List.set_cons_zero, List.set_cons_succ]
          refine wpAnyL_take (i := 16) (d := some 22) (v := ?vaq16) rfl rfl (by kernel_rfl) (by kernel_rfl) (by kernel_rfl) (fun _ _ _ h => h) (by rfl) ?yaq16 ?_
          case yaq16 => (intro w' hw'; go_simp; try (with_reducible rfl))
          simp only [Act.put]; try simp only [List.setIfInBounds_toArray]; try simp only [List.set_cons_zero, List.set_cons_succ]
          refine wpAnyL_take (i := 17) (d := some 23) (v := ?vaq17) rfl rfl (by kernel_rfl) (by kernel_rfl) (by kernel_rfl) (fun _ _ _ h => h) (by rfl) ?yaq17 ?_
          case yaq17 => (intro w' hw'; go_simp; try (with_reducible rfl))
          simp only [Act.put]; try simp only [List.setIfInBounds_toArray]; try simp only [List.set_cons_zero, List.set_cons_succ]
          refine wpAnyL_take (i := 18) (d := some 24) (v := .agg (y.cells s2).toArray) rfl rfl (by kernel_rfl) (by kernel_rfl) (by kernel_rfl) (fun _ _ _ h => h) (by rfl) ?yaq18 ?_
          case yaq18 => (intro w' hw'; exact exec_load_range 33 _ (by rfl) b2 (off2 + k * 10) (by rfl) _ (RY.out w' (L0.out.trans hw')) _ Tryz.underlying33 (by rfl) (by kernel_rfl))
          simp only [Act.put]; try simp only [List.setIfInBounds_toArray]; try simp only [List.set_cons_zero, List.set_cons_succ]
          refine wpAnyL_only (i := 19) rfl (by kernel_rfl) (by rfl) fun K hK => ?_
          go_simp
          refine (C.out _ L0.out).mono ?_
          rintro e w8 ⟨rfl, hb8⟩
          have L8 : Hid (Later wr w8) := L0.out.trans hb8
          have HB8 := hide hb8
          clear hb8
          refine hK.out _ _ HB8.out ?_
          clear hK K
          try (simp only [Act.put]; try simp only [List.setIfInBounds_toArray]; try simp only [List.set_cons_zero, List.set_cons_succ])
          refine wpAnyL_take (i := 20) (d := some 26) (v := ?vaq20) rfl rfl (by kernel_rfl) (by kernel_rfl) (by kernel_rfl) (fun _ _ _ h => h) (by rfl) ?yaq20 ?_
          case yaq20 => (intro w' hw'; go_simp; try (with_reducible rfl))
          simp only [Act.put]; try simp only [List.setIfInBounds_toArray]; try simp only [List.set_cons_zero, List.set_cons_succ]
          refine wpAnyL_done (by kernel_rfl) ?_ _
          go_wp2
          go_ret
          exact ⟨ret_int (by rw [HE.out]), HB.out.trans L8.out⟩
      · have HE : Hid (pre l m = k) := by
          show _ = _
          rw [HU.out, pre_end (.inr (by have := HMN.out; omega))]
          omega
        go_wp2
        go_quiet (fail)
        go_wp2
        go_ret
        exact ⟨ret_int (by rw [HE.out]), HB.out.trans (below_drewN _ _ _)⟩
    · have HE : Hid (pre l m = k) := by
        show _ = _
        rw [HU.out, pre_end (.inl (by have := HLN.out; omega))]
        omega
      go_wp2
      go_quiet (fail)
      go_wp2
      go_ret
      exact ⟨ret_int (by rw [HE.out]), HB.out.trans (below_drewN _ _ _)⟩
end Go.Proofs.YtaiegmhlgjogmaaGreat.Ol
/- Replace of package oplog. -/
namespace Go.Proofs.YtaiegmhlgjogmaaGreat.Ol
open Go.RowKit

section
variable {S F : Nat → Prop} {l k base c : Nat} {v : Value} {ps : List (OpD × Value)}
theorem replace_no (p : Value) (n : Int) (A : Option Addr) (m cp : Nat) (w : World) (h : NoLog w p) : Calls Tryz.prog 181 #[p, .slice A m cp, .int .i64 n] w fun e w' => e = .returned (.int .i64 1) ∧ w = w' := by
  have C := hide (made_no p w h)
  have hp : ∃ a, p = .pointer a := by rcases h with rfl | ⟨g, rfl, _⟩ <;> exact ⟨_, rfl⟩
  obtain ⟨a, rfl⟩ := hp
  clear h
  go_enter Tryz.func181, Tryz.ntmps181
  go_wp2_with (fail)
  refine C.out.mono ?_
  rintro e w1 ⟨rfl, rfl⟩
  go_wp2
  go_ret
  exact ⟨rfl, rfl⟩
theorem replace_full (n : Int) (A : Option Addr) (m cp : Nat) (w : World) (h : LogAt S w l k base v ps c) (hm : 2000 < m) :
    Calls Tryz.prog 181 #[.pointer (some ⟨l, 0, none⟩), .slice A m cp, .int .i64 n] w fun e w' => e = .returned (.int .i64 7) ∧ w = w' := by
  have C := hide (made_yes w h)
  clear h
  go_enter Tryz.func181, Tryz.ntmps181
  go_wp2_with (fail)
  refine C.out.mono ?_
  rintro e w1 ⟨rfl, rfl⟩
  go_wp2
  go_ret
  exact ⟨rfl, rfl⟩
set_option maxHeartbeats 1000000 in
set_option maxRecDepth 100000 in
theorem replace_arg (n : Int) (A : Option Addr) (m cp : Nat) (w : World) (h : LogAt S w l k base v ps c) (hm : m ≤ 2000) (hn : n < c ∨ (m : Int) < n) :
    Calls Tryz.prog 181 #[.pointer (some ⟨l, 0, none⟩), .slice A m cp, .int .i64 n] w fun e w' => e = .returned (.int .i64 2) ∧ Below w.heap.size w w' := by
  have C := hide (made_yes w h)
  have X1 := hide h.cell
  have X2 := hide h.parts.kept
  clear h
  by_cases h3 : n < (c : Int)
  · clear hn
    go_enter Tryz.func181, Tryz.ntmps181
    go_wp2_with (fail)
    refine C.out.mono ?_
    rintro e w1 ⟨rfl, rfl⟩
    go_wp2
    refine wp_region_L (by kernel_rfl) ?_
    refine wpAnyL_take (i := 0) (d := some 13) (v := ?vac0) rfl rfl (by kernel_rfl) (by kernel_rfl) (by kernel_rfl) (fun _ _ _ h => h) (by rfl) ?yac0 ?_
    case yac0 => (intro w' hw'; go_simp; try (with_reducible rfl))
    simp only [Act.put]; try simp only [List.setIfInBounds_toArray]; try simp only [List.set_cons_zero, List.set_cons_succ]
    refine wpAnyL_take (i := 1) (d := some 14) (v := ?vac1) rfl rfl (by kernel_rfl) (by kernel_rfl) (by kernel_rfl) (fun _ _ _ h => h) (by rfl) ?yac1 ?_
    case yac1 => (intro w' hw'; go_simp; try (with_reducible rfl))
    simp only [Act.put]; try simp only [List.setIfInBounds_toArray]; try simp only [List.set_cons_zero, List.set_cons_succ]
    refine wpAnyL_take (i := 2) (d := some 15) (v := ?vac2) rfl rfl (by kernel_rfl) (by kernel_rfl) (by kernel_rfl) (fun _ _ _ h => h) (by rfl) ?yac2 ?_
    case yac2 => (intro w' hw'; go_simp; try (with_reducible rfl))
    simp only [Act.put]; try simp only [List.setIfInBounds_toArray]; try simp only [List.set_cons_zero, List.set_cons_succ]
    refine wpAnyL_take (i := 3) (d := some 16) (v := ?vac3) rfl rfl (by kernel_rfl) (by kernel_rfl) (by kernel_rfl) (fun _ _ _ h => h) (by rfl) ?yac3 ?_
    case yac3 => (intro w' hw'; go_simp; try (with_reducible rfl))
    simp only [Act.put]; try simp only [List.setIfInBounds_toArray]; try simp only [List.set_cons_zero, List.set_cons_succ]
    refine wpAnyL_take (i := 4) (d := some 17) (v := ?vac4) rfl rfl (by kernel_rfl) (by kernel_rfl) (by kernel_rfl) (fun _ _ _ h => h) (by rfl) ?yac4 ?_
    case yac4 => (intro w' hw'; have hc0 := cell_of_row w' l 0 _ _ _ ((Below.block hw' l (lt_of_block X1.out)).trans X1.out); simp only [List.getElem?_toArray, List.getElem?_cons_zero] at hc0; go_simp; try (with_reducible rfl))
    simp only [Act.put]; try simp only [List.setIfInBounds_toArray]; try simp only [List.set_cons_zero, List.set_cons_succ]
    refine wpAnyL_take (i := 5) (d := some 18) (v := ?vac5) rfl rfl (by kernel_rfl) (by kernel_rfl) (by kernel_rfl) (fun _ _ _ h => h) (by rfl) ?yac5 ?_
    case yac5 => (intro w' hw'; go_simp; try (with_reducible rfl))
    simp only [Act.put]; try simp only [List.setIfInBounds_toArray]; try simp only [List.set_cons_zero, List.set_cons_succ]
    refine wpAnyL_take (i := 6) (d := some 19) (v := ?vac6) rfl rfl (by kernel_rfl) (by kernel_rfl) (by kernel_rfl) (fun _ _ _ h => h) (by rfl) ?yac6 ?_
    case yac6 => (intro w' hw'; go_simp; try (with_reducible rfl))
    simp only [Act.put]; try simp only [List.setIfInBounds_toArray]; try simp only [List.set_cons_zero, List.set_cons_succ]
    refine wpAnyL_take (i := 7) (d := some 20) (v := ?vac7) rfl rfl (by kernel_rfl) (by kernel_rfl) (by kernel_rfl) (fun _ _ _ h => h) (by rfl) ?yac7 ?_
    case yac7 => (intro w' hw'; have hc1 := cell_of_row w' k 1 _ _ _ ((Below.block hw' k (lt_of_block X2.out)).trans X2.out); simp only [List.getElem?_toArray, List.getElem?_cons_zero, List.getElem?_cons_succ] at hc1; go_simp; try (with_reducible rfl))
    simp only [Act.put]; try simp only [List.setIfInBounds_toArray]; try simp only [List.set_cons_zero, List.set_cons_succ]
    refine wpAnyL_take (i := 8) (d := some 21) (v := .bool true) rfl rfl (by kernel_rfl) (by kernel_rfl) (by kernel_rfl) (fun _ _ _ h => h) (by rfl) ?yac8 ?_
    case yac8 => (intro w' hw'; (first | (go_simp; done) | (go_simp; omega) | (go_simp; simp; omega)))
    simp only [Act.put]; try simp only [List.setIfInBounds_toArray]; try simp only [List.set_cons_zero, List.set_cons_succ]
    refine wpAnyL_take (i := 9) (d := some 22) (v := ?vac9) rfl rfl (by kernel_rfl) (by kernel_rfl) (by kernel_rfl) (fun _ _ _ h => h) (by rfl) ?yac9 ?_
    case yac9 => (intro w' hw'; go_simp; try (with_reducible rfl))
    simp only [Act.put]; try simp only [List.setIfInBounds_toArray]; try simp only [List.set_cons_zero, List.set_cons_succ]
    refine wpAnyL_pass (i := 10) (d := some 23) rfl rfl (by kernel_rfl) (by kernel_rfl) (by kernel_rfl) (fun _ _ _ h => h) (by rfl) ?_
    try (simp only [Act.put]; try simp only [List.setIfInBounds_toArray]; try simp only [List.set_cons_zero, List.set_cons_succ])
    refine wpAnyL_pass (i := 11) (d := some 24) rfl rfl (by kernel_rfl) (by kernel_rfl) (by kernel_rfl) (fun _ _ _ h => h) (by rfl) ?_
    try (simp only [Act.put]; try simp only [List.setIfInBounds_toArray]; try simp only [List.set_cons_zero, List.set_cons_succ])
    refine wpAnyL_pass (i := 12) (d := some 25) rfl rfl (by kernel_rfl) (by kernel_rfl) (by kernel_rfl) (fun _ _ _ h => h) (by rfl) ?_
    try (simp only [Act.put]; try simp only [List.setIfInBounds_toArray]; try simp only [List.set_cons_zero, List.set_cons_succ])
    refine wpAnyL_pass (i := 13) (d := some 26) rfl rfl (by kernel_rfl) (by kernel_rfl) (by kernel_rfl) (fun _ _ _ h => h) (by rfl) ?_
    try (simp only [Act.put]; try simp only [List.setIfInBounds_toArray]; try simp only [List.set_cons_zero, List.set_cons_succ])
    refine wpAnyL_take (i := 14) (d := some 27) (v := ?vac14) rfl rfl (by kernel_rfl) (by kernel_rfl) (by kernel_rfl) (fun _ _ _ h => h) (by rfl) ?yac14 ?_
    case yac14 => (intro w' hw'; go_simp; try (with_reducible rfl))
    simp only [Act.put]; try simp only [List.setIfInBounds_toArray]; try simp only [List.set_cons_zero, List.set_cons_succ]
    refine wpAnyL_take (i := 15) (d := some 28) (v := ?vac15) rfl rfl (by kernel_rfl) (by kernel_rfl) (by kernel_rfl) (fun _ _ _ h => h) (by rfl) ?yac15 ?_
    case yac15 => (intro w' hw'; go_simp; try (with_reducible rfl))
    simp only [Act.put]; try simp only [List.setIfInBounds_toArray]; try simp only [List.set_cons_zero, List.set_cons_succ]
    refine wpAnyL_pass (i := 16) (d := some 29) rfl rfl (by kernel_rfl) (by kernel_rfl) (by kernel_rfl) (fun _ _ _ h => h) (by rfl) ?_
    try (simp only [Act.put]; try simp only [List.setIfInBounds_toArray]; try simp only [List.set_cons_zero, List.set_cons_succ])
    refine wpAnyL_pass (i := 17) (d := some 30) rfl rfl (by kernel_rfl) (by kernel_rfl) (by kernel_rfl) (fun _ _ _ h => h) (by rfl) ?_
    try (simp only [Act.put]; try simp only [List.setIfInBounds_toArray]; try simp only [List.set_cons_zero, List.set_cons_succ])
    refine wpAnyL_pass (i := 18) (d := some 31) rfl rfl (by kernel_rfl) (by kernel_rfl) (by kernel_rfl) (fun _ _ _ h => h) (by rfl) ?_
    try (simp only [Act.put]; try simp only [List.setIfInBounds_toArray]; try simp only [List.set_cons_zero, List.set_cons_succ])
    refine wpAnyL_pass (i := 19) (d := some 32) rfl rfl (by kernel_rfl) (by kernel_rfl) (by kernel_rfl) (fun _ _ _ h => h) (by rfl) ?_
    try (simp only [Act.put]; try simp only [List.setIfInBounds_toArray]; try simp only [List.set_cons_zero, List.set_cons_succ])
    refine wpAnyL_pass (i := 20) (d := some 33) rfl rfl (by kernel_rfl) (by kernel_rfl) (by kernel_rfl) (fun _ _ _ h => h) (by rfl) ?_
    try (simp only [Act.put]; try simp only [List.setIfInBounds_toArray]; try simp only [List.set_cons_zero, List.set_cons_succ])
    refine wpAnyL_pass (i := 21) (d := some 34) rfl rfl (by kernel_rfl) (by kernel_rfl) (by kernel_rfl) (fun _ _ _ h => h) (by rfl) ?_
    try (simp only [Act.put]; try simp only [List.setIfInBounds_toArray]; try simp only [List.set_cons_zero, List.set_cons_succ])
    refine wpAnyL_pass (i := 22) (d := some 35) rfl rfl (by kernel_rfl) (by kernel_rfl) (by kernel_rfl) (fun _ _ _ h => h) (by rfl) ?_
    try (simp only [Act.put]; try simp only [List.setIfInBounds_toArray]; try simp only [List.set_cons_zero, List.set_cons_succ])
    refine wpAnyL_pass (i := 23) (d := some 36) rfl rfl (by kernel_rfl) (by kernel_rfl) (by kernel_rfl) (fun _ _ _ h => h) (by rfl) ?_
    try (simp only [Act.put]; try simp only [List.setIfInBounds_toArray]; try simp only [List.set_cons_zero, List.set_cons_succ])
    refine wpAnyL_pass (i := 24) (d := some 37) rfl rfl (by kernel_rfl) (by kernel_rfl) (by kernel_rfl) (fun _ _ _ h => h) (by rfl) ?_
    try (simp only [Act.put]; try simp only [List.setIfInBounds_toArray]; try simp only [List.set_cons_zero, List.set_cons_succ])
    refine wpAnyL_pass (i := 25) (d := some 38) rfl rfl (by kernel_rfl) (by kernel_rfl) (by kernel_rfl) (fun _ _ _ h => h) (by rfl) ?_
    try (simp only [Act.put]; try simp only [List.setIfInBounds_toArray]; try simp only [List.set_cons_zero, List.set_cons_succ])
    refine wpAnyL_pass (i := 26) (d := some 39) rfl rfl (by kernel_rfl) (by kernel_rfl) (by kernel_rfl) (fun _ _ _ h => h) (by rfl) ?_
    try (simp only [Act.put]; try simp only [List.setIfInBounds_toArray]; try simp only [List.set_cons_zero, List.set_cons_succ])
    refine wpAnyL_pass (i := 28) (d := some 41) rfl rfl (by kernel_rfl) (by kernel_rfl) (by kernel_rfl) (fun _ _ _ h => h) (by rfl) ?_
    try (simp only [Act.put]; try simp only [List.setIfInBounds_toArray]; try simp only [List.set_cons_zero, List.set_cons_succ])
    refine wpAnyL_pass (i := 30) (d := some 43) rfl rfl (by kernel_rfl) (by kernel_rfl) (by kernel_rfl) (fun _ _ _ h => h) (by rfl) ?_
    try (simp only [Act.put]; try simp only [List.setIfInBounds_toArray]; try simp only [List.set_cons_zero, List.set_cons_succ])
    refine wpAnyL_pass (i := 31) (d := some 44) rfl rfl (by kernel_rfl) (by kernel_rfl) (by kernel_rfl) (fun _ _ _ h => h) (by rfl) ?_
    try (simp only [Act.put]; try simp only [List.setIfInBounds_toArray]; try simp only [List.set_cons_zero, List.set_cons_succ])
    refine wpAnyL_pass (i := 32) (d := some 45) rfl rfl (by kernel_rfl) (by kernel_rfl) (by kernel_rfl) (fun _ _ _ h => h) (by rfl) ?_
    try (simp only [Act.put]; try simp only [List.setIfInBounds_toArray]; try simp only [List.set_cons_zero, List.set_cons_succ])
    refine wpAnyL_pass (i := 33) (d := some 46) rfl rfl (by kernel_rfl) (by kernel_rfl) (by kernel_rfl) (fun _ _ _ h => h) (by rfl) ?_
    try (simp only [Act.put]; try simp only [List.setIfInBounds_toArray]; try simp only [List.set_cons_zero, List.set_cons_succ])
    refine wpAnyL_pass (i := 34) (d := some 47) rfl rfl (by kernel_rfl) (by kernel_rfl) (by kernel_rfl) (fun _ _ _ h => h) (by rfl) ?_
    try (simp only [Act.put]; try simp only [List.setIfInBounds_toArray]; try simp only [List.set_cons_zero, List.set_cons_succ])
    refine wpAnyL_pass (i := 35) (d := some 48) rfl rfl (by kernel_rfl) (by kernel_rfl) (by kernel_rfl) (fun _ _ _ h => h) (by rfl) ?_
    try (simp only [Act.put]; try simp only [List.setIfInBounds_toArray]; try simp only [List.set_cons_zero, List.set_cons_succ])
    refine wpAnyL_pass (i := 36) (d := some 49) rfl rfl (by kernel_rfl) (by kernel_rfl) (by kernel_rfl) (fun _ _ _ h => h) (by rfl) ?_
    try (simp only [Act.put]; try simp only [List.setIfInBounds_toArray]; try simp only [List.set_cons_zero, List.set_cons_succ])
    refine wpAnyL_pass (i := 27) (d := some 40) rfl rfl (by kernel_rfl) (by kernel_rfl) (by kernel_rfl) (fun _ _ _ h => h) (by rfl) ?_
    try (simp only [Act.put]; try simp only [List.setIfInBounds_toArray]; try simp only [List.set_cons_zero, List.set_cons_succ])
    refine wpAnyL_pass (i := 29) (d := some 42) rfl rfl (by kernel_rfl) (by kernel_rfl) (by kernel_rfl) (fun _ _ _ h => h) (by rfl) ?_
    try (simp only [Act.put]; try simp only [List.setIfInBounds_toArray]; try simp only [List.set_cons_zero, List.set_cons_succ])
    refine wpAnyL_pass (i := 37) (d := some 50) rfl rfl (by kernel_rfl) (by kernel_rfl) (by kernel_rfl) (fun _ _ _ h => h) (by rfl) ?_
    try (simp only [Act.put]; try simp only [List.setIfInBounds_toArray]; try simp only [List.set_cons_zero, List.set_cons_succ])
    refine wpAnyL_take (i := 38) (d := some 51) (v := ?vac38) rfl rfl (by kernel_rfl) (by kernel_rfl) (by kernel_rfl) (fun _ _ _ h => h) (by rfl) ?yac38 ?_
    case yac38 => (intro w' hw'; go_simp; try (with_reducible rfl))
    simp only [Act.put]; try simp only [List.setIfInBounds_toArray]; try simp only [List.set_cons_zero, List.set_cons_succ]
    refine wpAnyL_done (by kernel_rfl) ?_ _
    go_wp2
    go_ret
    exact ⟨rfl, (Below.refl _ _).drew⟩
  · have h4 : (m : Int) < n := by omega
    clear hn
    go_enter Tryz.func181, Tryz.ntmps181
    go_wp2_with (fail)
    refine C.out.mono ?_
    rintro e w1 ⟨rfl, rfl⟩
    go_wp2
    refine wp_region_L (by kernel_rfl) ?_
    refine wpAnyL_take (i := 0) (d := some 13) (v := ?vad0) rfl rfl (by kernel_rfl) (by kernel_rfl) (by kernel_rfl) (fun _ _ _ h => h) (by rfl) ?yad0 ?_
    case yad0 => (intro w' hw'; go_simp; try (with_reducible rfl))
    simp only [Act.put]; try simp only [List.setIfInBounds_toArray]; try simp only [List.set_cons_zero, List.set_cons_succ]
    refine wpAnyL_take (i := 1) (d := some 14) (v := ?vad1) rfl rfl (by kernel_rfl) (by kernel_rfl) (by kernel_rfl) (fun _ _ _ h => h) (by rfl) ?yad1 ?_
    case yad1 => (intro w' hw'; go_simp; try (with_reducible rfl))
    simp only [Act.put]; try simp only [List.setIfInBounds_toArray]; try simp only [List.set_cons_zero, List.set_cons_succ]
    refine wpAnyL_take (i := 2) (d := some 15) (v := ?vad2) rfl rfl (by kernel_rfl) (by kernel_rfl) (by kernel_rfl) (fun _ _ _ h => h) (by rfl) ?yad2 ?_
    case yad2 => (intro w' hw'; go_simp; try (with_reducible rfl))
    simp only [Act.put]; try simp only [List.setIfInBounds_toArray]; try simp only [List.set_cons_zero, List.set_cons_succ]
    refine wpAnyL_take (i := 3) (d := some 16) (v := ?vad3) rfl rfl (by kernel_rfl) (by kernel_rfl) (by kernel_rfl) (fun _ _ _ h => h) (by rfl) ?yad3 ?_
    case yad3 => (intro w' hw'; go_simp; try (with_reducible rfl))
    simp only [Act.put]; try simp only [List.setIfInBounds_toArray]; try simp only [List.set_cons_zero, List.set_cons_succ]
    refine wpAnyL_take (i := 4) (d := some 17) (v := ?vad4) rfl rfl (by kernel_rfl) (by kernel_rfl) (by kernel_rfl) (fun _ _ _ h => h) (by rfl) ?yad4 ?_
    case yad4 => (intro w' hw'; have hc0 := cell_of_row w' l 0 _ _ _ ((Below.block hw' l (lt_of_block X1.out)).trans X1.out); simp only [List.getElem?_toArray, List.getElem?_cons_zero] at hc0; go_simp; try (with_reducible rfl))
    simp only [Act.put]; try simp only [List.setIfInBounds_toArray]; try simp only [List.set_cons_zero, List.set_cons_succ]
    refine wpAnyL_take (i := 5) (d := some 18) (v := ?vad5) rfl rfl (by kernel_rfl) (by kernel_rfl) (by kernel_rfl) (fun _ _ _ h => h) (by rfl) ?yad5 ?_
    case yad5 => (intro w' hw'; go_simp; try (with_reducible rfl))
    simp only [Act.put]; try simp only [List.setIfInBounds_toArray]; try simp only [List.set_cons_zero, List.set_cons_succ]
    refine wpAnyL_take (i := 6) (d := some 19) (v := ?vad6) rfl rfl (by kernel_rfl) (by kernel_rfl) (by kernel_rfl) (fun _ _ _ h => h) (by rfl) ?yad6 ?_
    case yad6 => (intro w' hw'; go_simp; try (with_reducible rfl))
    simp only [Act.put]; try simp only [List.setIfInBounds_toArray]; try simp only [List.set_cons_zero, List.set_cons_succ]
    refine wpAnyL_take (i := 7) (d := some 20) (v := ?vad7) rfl rfl (by kernel_rfl) (by kernel_rfl) (by kernel_rfl) (fun _ _ _ h => h) (by rfl) ?yad7 ?_
    case yad7 => (intro w' hw'; have hc1 := cell_of_row w' k 1 _ _ _ ((Below.block hw' k (lt_of_block X2.out)).trans X2.out); simp only [List.getElem?_toArray, List.getElem?_cons_zero, List.getElem?_cons_succ] at hc1; go_simp; try (with_reducible rfl))
    simp only [Act.put]; try simp only [List.setIfInBounds_toArray]; try simp only [List.set_cons_zero, List.set_cons_succ]
    refine wpAnyL_take (i := 8) (d := some 21) (v := .bool false) rfl rfl (by kernel_rfl) (by kernel_rfl) (by kernel_rfl) (fun _ _ _ h => h) (by rfl) ?yad8 ?_
    case yad8 => (intro w' hw'; (first | (go_simp; done) | (go_simp; omega) | (go_simp; simp; omega)))
    simp only [Act.put]; try simp only [List.setIfInBounds_toArray]; try simp only [List.set_cons_zero, List.set_cons_succ]
    refine wpAnyL_take (i := 9) (d := some 22) (v := ?vad9) rfl rfl (by kernel_rfl) (by kernel_rfl) (by kernel_rfl) (fun _ _ _ h => h) (by rfl) ?yad9 ?_
    case yad9 => (intro w' hw'; go_simp; try (with_reducible rfl))
    simp only [Act.put]; try simp only [List.setIfInBounds_toArray]; try simp only [List.set_cons_zero, List.set_cons_succ]
    refine wpAnyL_take (i := 10) (d := some 23) (v := ?vad10) rfl rfl (by kernel_rfl) (by kernel_rfl) (by kernel_rfl) (fun _ _ _ h => h) (by rfl) ?yad10 ?_
    case yad10 => (intro w' hw'; go_simp; try (with_reducible rfl))
    simp only [Act.put]; try simp only [List.setIfInBounds_toArray]; try simp only [List.set_cons_zero, List.set_cons_succ]
    refine wpAnyL_take (i := 11) (d := some 24) (v := ?vad11) rfl rfl (by kernel_rfl) (by kernel_rfl) (by kernel_rfl) (fun _ _ _ h => h) (by rfl) ?yad11 ?_
    case yad11 => (intro w' hw'; go_simp; try (with_reducible rfl))
    simp only [Act.put]; try simp only [List.setIfInBounds_toArray]; try simp only [List.set_cons_zero, List.set_cons_succ]
    refine wpAnyL_take (i := 12) (d := some 25) (v := ?vad12) rfl rfl (by kernel_rfl) (by kernel_rfl) (by kernel_rfl) (fun _ _ _ h => h) (by rfl) ?yad12 ?_
    case yad12 => (intro w' hw'; go_simp; try (with_reducible rfl))
    simp only [Act.put]; try simp only [List.setIfInBounds_toArray]; try simp only [List.set_cons_zero, List.set_cons_succ]
    refine wpAnyL_take (i := 13) (d := some 26) (v := .bool true) rfl rfl (by kernel_rfl) (by kernel_rfl) (by kernel_rfl) (fun _ _ _ h => h) (by rfl) ?yad13 ?_
    case yad13 => (intro w' hw'; (first | (go_simp; done) | (go_simp; omega) | (go_simp; simp; omega)))
    simp only [Act.put]; try simp only [List.setIfInBounds_toArray]; try simp only [List.set_cons_zero, List.set_cons_succ]
    refine wpAnyL_take (i := 14) (d := some 27) (v := ?vad14) rfl rfl (by kernel_rfl) (by kernel_rfl) (by kernel_rfl) (fun _ _ _ h => h) (by rfl) ?yad14 ?_
    case yad14 => (intro w' hw'; go_simp; try (with_reducible rfl))
    simp only [Act.put]; try simp only [List.setIfInBounds_toArray]; try simp only [List.set_cons_zero, List.set_cons_succ]
    refine wpAnyL_take (i := 15) (d := some 28) (v := ?vad15) rfl rfl (by kernel_rfl) (by kernel_rfl) (by kernel_rfl) (fun _ _ _ h => h) (by rfl) ?yad15 ?_
    case yad15 => (intro w' hw'; go_simp; try (with_reducible rfl))
    simp only [Act.put]; try simp only [List.setIfInBounds_toArray]; try simp only [List.set_cons_zero, List.set_cons_succ]
    refine wpAnyL_pass (i := 16) (d := some 29) rfl rfl (by kernel_rfl) (by kernel_rfl) (by kernel_rfl) (fun _ _ _ h => h) (by rfl) ?_
    try (simp only [Act.put]; try simp only [List.setIfInBounds_toArray]; try simp only [List.set_cons_zero, List.set_cons_succ])
    refine wpAnyL_pass (i := 17) (d := some 30) rfl rfl (by kernel_rfl) (by kernel_rfl) (by kernel_rfl) (fun _ _ _ h => h) (by rfl) ?_
    try (simp only [Act.put]; try simp only [List.setIfInBounds_toArray]; try simp only [List.set_cons_zero, List.set_cons_succ])
    refine wpAnyL_pass (i := 18) (d := some 31) rfl rfl (by kernel_rfl) (by kernel_rfl) (by kernel_rfl) (fun _ _ _ h => h) (by rfl) ?_
    try (simp only [Act.put]; try simp only [List.setIfInBounds_toArray]; try simp only [List.set_cons_zero, List.set_cons_succ])
    refine wpAnyL_pass (i := 19) (d := some 32) rfl rfl (by kernel_rfl) (by kernel_rfl) (by kernel_rfl) (fun _ _ _ h => h) (by rfl) ?_
    try (simp only [Act.put]; try simp only [List.setIfInBounds_toArray]; try simp only [List.set_cons_zero, List.set_cons_succ])
    refine wpAnyL_pass (i := 20) (d := some 33) rfl rfl (by kernel_rfl) (by kernel_rfl) (by kernel_rfl) (fun _ _ _ h => h) (by rfl) ?_
    try (simp only [Act.put]; try simp only [List.setIfInBounds_toArray]; try simp only [List.set_cons_zero, List.set_cons_succ])
    refine wpAnyL_pass (i := 21) (d := some 34) rfl rfl (by kernel_rfl) (by kernel_rfl) (by kernel_rfl) (fun _ _ _ h => h) (by rfl) ?_
    try (simp only [Act.put]; try simp only [List.setIfInBounds_toArray]; try simp only [List.set_cons_zero, List.set_cons_succ])
    refine wpAnyL_pass (i := 22) (d := some 35) rfl rfl (by kernel_rfl) (by kernel_rfl) (by kernel_rfl) (fun _ _ _ h => h) (by rfl) ?_
    try (simp only [Act.put]; try simp only [List.setIfInBounds_toArray]; try simp only [List.set_cons_zero, List.set_cons_succ])
    refine wpAnyL_pass (i := 23) (d := some 36) rfl rfl (by kernel_rfl) (by kernel_rfl) (by kernel_rfl) (fun _ _ _ h => h) (by rfl) ?_
    try (simp only [Act.put]; try simp only [List.setIfInBounds_toArray]; try simp only [List.set_cons_zero, List.set_cons_succ])
    refine wpAnyL_pass (i := 24) (d := some 37) rfl rfl (by kernel_rfl) (by kernel_rfl) (by kernel_rfl) (fun _ _ _ h => h) (by rfl) ?_
    try (simp only [Act.put]; try simp only [List.setIfInBounds_toArray]; try simp only [List.set_cons_zero, List.set_cons_succ])
    refine wpAnyL_pass (i := 25) (d := some 38) rfl rfl (by kernel_rfl) (by kernel_rfl) (by kernel_rfl) (fun _ _ _ h => h) (by rfl) ?_
    try (simp only [Act.put]; try simp only [List.setIfInBounds_toArray]; try simp only [List.set_cons_zero, List.set_cons_succ])
    refine wpAnyL_pass (i := 26) (d := some 39) rfl rfl (by kernel_rfl) (by kernel_rfl) (by kernel_rfl) (fun _ _ _ h => h) (by rfl) ?_
    try (simp only [Act.put]; try simp only [List.setIfInBounds_toArray]; try simp only [List.set_cons_zero, List.set_cons_succ])
    refine wpAnyL_pass (i := 28) (d := some 41) rfl rfl (by kernel_rfl) (by kernel_rfl) (by kernel_rfl) (fun _ _ _ h => h) (by rfl) ?_
    try (simp only [Act.put]; try simp only [List.setIfInBounds_toArray]; try simp only [List.set_cons_zero, List.set_cons_succ])
    refine wpAnyL_pass (i := 30) (d := some 43) rfl rfl (by kernel_rfl) (by kernel_rfl) (by kernel_rfl) (fun _ _ _ h => h) (by rfl) ?_
    try (simp only [Act.put]; try simp only [List.setIfInBounds_toArray]; try simp only [List.set_cons_zero, List.set_cons_succ])
    refine wpAnyL_pass (i := 31) (d := some 44) rfl rfl (by kernel_rfl) (by kernel_rfl) (by kernel_rfl) (fun _ _ _ h => h) (by rfl) ?_
    try (simp only [Act.put]; try simp only [List.setIfInBounds_toArray]; try simp only [List.set_cons_zero, List.set_cons_succ])
    refine wpAnyL_pass (i := 32) (d := some 45) rfl rfl (by kernel_rfl) (by kernel_rfl) (by kernel_rfl) (fun _ _ _ h => h) (by rfl) ?_
    try (simp only [Act.put]; try simp only [List.setIfInBounds_toArray]; try simp only [List.set_cons_zero, List.set_cons_succ])
    refine wpAnyL_pass (i := 33) (d := some 46) rfl rfl (by kernel_rfl) (by kernel_rfl) (by kernel_rfl) (fun _ _ _ h => h) (by rfl) ?_
    try (simp only [Act.put]; try simp only [List.setIfInBounds_toArray]; try simp only [List.set_cons_zero, List.set_cons_succ])
    refine wpAnyL_pass (i := 34) (d := some 47) rfl rfl (by kernel_rfl) (by kernel_rfl) (by kernel_rfl) (fun _ _ _ h => h) (by rfl) ?_
    try (simp only [Act.put]; try simp only [List.setIfInBounds_toArray]; try simp only [List.set_cons_zero, List.set_cons_succ])
    refine wpAnyL_pass (i := 35) (d := some 48) rfl rfl (by kernel_rfl) (by kernel_rfl) (by kernel_rfl) (fun _ _ _ h => h) (by rfl) ?_
    try (simp only [Act.put]; try simp only [List.setIfInBounds_toArray]; try simp only [List.set_cons_zero, List.set_cons_succ])
    refine wpAnyL_pass (i := 36) (d := some 49) rfl rfl (by kernel_rfl) (by kernel_rfl) (by kernel_rfl) (fun _ _ _ h => h) (by rfl) ?_
    try (simp only [Act.put]; try simp only [List.setIfInBounds_toArray]; try simp only [List.set_cons_zero, List.set_cons_succ])
    refine wpAnyL_pass (i := 27) (d := some 40) rfl rfl (by kernel_rfl) (by kernel_rfl) (by kernel_rfl) (fun _ _ _ h => h) (by rfl) ?_
    try (simp only [Act.put]; try simp only [List.setIfInBounds_toArray]; try simp only [List.set_cons_zero, List.set_cons_succ])
    refine wpAnyL_pass (i := 29) (d := some 42) rfl rfl (by kernel_rfl) (by kernel_rfl) (by kernel_rfl) (fun _ _ _ h => h) (by rfl) ?_
    try (simp only [Act.put]; try simp only [List.setIfInBounds_toArray]; try simp only [List.set_cons_zero, List.set_cons_succ])
    refine wpAnyL_pass (i := 37) (d := some 50) rfl rfl (by kernel_rfl) (by kernel_rfl) (by kernel_rfl) (fun _ _ _ h => h) (by rfl) ?_
    try (simp only [Act.put]; try simp only [List.setIfInBounds_toArray]; try simp only [List.set_cons_zero, List.set_cons_succ])
    refine wpAnyL_take (i := 38) (d := some 51) (v := ?vad38) rfl rfl (by kernel_rfl) (by kernel_rfl) (by kernel_rfl) (fun _ _ _ h => h) (by rfl) ?yad38 ?_
    case yad38 => (intro w' hw'; go_simp; try (with_reducible rfl))
    simp only [Act.put]; try simp only [List.setIfInBounds_toArray]; try simp only [List.set_cons_zero, List.set_cons_succ]
    refine wpAnyL_done (by kernel_rfl) ?_ _
    go_wp2
    go_ret
    exact ⟨rfl, (Below.refl _ _).drew⟩
end
end Go.Proofs.YtaiegmhlgjogmaaGreat.Ol
/- Replace of package oplog, where the beginning is another one. -/
namespace Go.Proofs.YtaiegmhlgjogmaaGreat.Ol
open Go.RowKit

section
variable {S F : Nat → Prop} {l k base c : Nat} {v : Value} {ps : List (OpD × Value)}
/-- What stands ahead of the comparison. -/
theorem replace_facts {v2 : Value} {qs : List (OpD × Value)} {w : World} (h : LogAt S w l k base v ps c) (hq : OpsIn F w v2 qs) :
    (∀ w', Later w w' → Calls Tryz.prog 96 #[.pointer (some ⟨k, 0, none⟩), .int .i64 0, .int .i64 (c : Int)] w' fun e w'' => ∃ v', e = .returned v' ∧ OpsIn S w' v' (ps.take c) ∧ w' = w'') ∧
    (∀ v1 w', Later w w' → OpsIn S w' v1 (ps.take c) → Calls Tryz.prog 198 #[v1, v2] w' fun e w'' => e = .returned (.int .i64 ((pre ((ps.map (·.1)).take c) (qs.map (·.1)) : Nat) : Int)) ∧ Below w'.heap.size w' w'') :=
  ⟨fun w' hb => by
    have := part_any 0 c w' (h.later hb).parts (Nat.zero_le _) h.parts.com
    rw [List.drop_zero] at this
    exact this,
   fun v1 w' hb ho => prefix_any S F v1 v2 _ _ w' ⟨_, by rw [List.map_take], ho⟩ ⟨qs, rfl, hq.kept (Kept.of_below hb F)⟩⟩

set_option maxHeartbeats 2000000 in
set_option maxRecDepth 100000 in
theorem replace_other (n : Int) (v2 : Value) (qs : List (OpD × Value)) (w : World) (h : LogAt S w l k base v ps c) (hq : OpsIn F w v2 qs) (hm : qs.length ≤ 2000) (hn1 : c ≤ n) (hn2 : n ≤ qs.length) (hp : (qs.map (·.1)).take c ≠ (ps.map (·.1)).take c) :
    Calls Tryz.prog 181 #[.pointer (some ⟨l, 0, none⟩), v2, .int .i64 n] w fun e w' => e = .returned (.int .i64 2) ∧ Below w.heap.size w w' := by
  have C := hide (made_yes w h)
  obtain ⟨f1, f2⟩ := replace_facts h hq
  have C1 := hide f1
  have C2 := hide f2
  obtain ⟨A2, c2, rfl, _, _, _⟩ := hq.1.shape
  have X1 := hide h.cell
  have X2 := hide h.parts.kept
  have hlt : pre ((ps.map (·.1)).take c) (qs.map (·.1)) < c := by
    rcases Nat.lt_or_ge (pre ((ps.map (·.1)).take c) (qs.map (·.1))) c with h1 | h1
    · exact h1
    · exfalso
      have hlen : ((ps.map (·.1)).take c).length = c := by have := h.parts.com; simp; omega
      have := pre_whole.1 (by rw [hlen]; exact h1 : ((ps.map (·.1)).take c).length ≤ pre ((ps.map (·.1)).take c) (qs.map (·.1)))
      rw [hlen] at this
      exact hp this
  generalize ps.take c = pq at C1 C2
  generalize pre ((ps.map (·.1)).take c) (qs.map (·.1)) = q at C2 hlt
  have hlk : l ≠ k := h.ne
  have t1 : ¬ n < (c : Int) := by omega
  have t2 : ¬ (qs.length : Int) < n := by omega
  clear h hq hp f1 f2
  go_enter Tryz.func181, Tryz.ntmps181
  go_wp2_with (fail)
  refine C.out.mono ?_
  rintro e w1 ⟨rfl, rfl⟩
  go_wp2
  refine wp_region_L (by kernel_rfl) ?_
  refine wpAnyL_take (i := 0) (d := some 13) (v := ?vax0) rfl rfl (by kernel_rfl) (by kernel_rfl) (by kernel_rfl) (fun _ _ _ h => h) (by rfl) ?yax0 ?_
  case yax0 => (intro w' hw'; go_simp; try (with_reducible rfl))
  simp only [Act.put]; try simp only [List.setIfInBounds_toArray]; try simp only [List.set_cons_zero, List.set_cons_succ]
  refine wpAnyL_take (i := 1) (d := some 14) (v := ?vax1) rfl rfl (by kernel_rfl) (by kernel_rfl) (by kernel_rfl) (fun _ _ _ h => h) (by rfl) ?yax1 ?_
  case yax1 => (intro w' hw'; go_simp; try (with_reducible rfl))
  simp only [Act.put]; try simp only [List.setIfInBounds_toArray]; try simp only [List.set_cons_zero, List.set_cons_succ]
  refine wpAnyL_take (i := 2) (d := some 15) (v := ?vax2) rfl rfl (by kernel_rfl) (by kernel_rfl) (by kernel_rfl) (fun _ _ _ h => h) (by rfl) ?yax2 ?_
  case yax2 => (intro w' hw'; go_simp; try (with_reducible rfl))
  simp only [Act.put]; try simp only [List.setIfInBounds_toArray]; try simp only [List.set_cons_zero, List.set_cons_succ]
  refine wpAnyL_take (i := 3) (d := some 16) (v := ?vax3) rfl rfl (by kernel_rfl) (by kernel_rfl) (by kernel_rfl) (fun _ _ _ h => h) (by rfl) ?yax3 ?_
  case yax3 => (intro w' hw'; go_simp; try (with_reducible rfl))
  simp only [Act.put]; try simp only [List.setIfInBounds_toArray]; try simp only [List.set_cons_zero, List.set_cons_succ]
  refine wpAnyL_take (i := 4) (d := some 17) (v := ?vax4) rfl rfl (by kernel_rfl) (by kernel_rfl) (by kernel_rfl) (fun _ _ _ h => h) (by rfl) ?yax4 ?_
  case yax4 => (intro w' hw'; have hc0 := cell_of_row w' l 0 _ _ _ ((Below.block hw' l (lt_of_block X1.out)).trans X1.out); simp only [List.getElem?_toArray, List.getElem?_cons_zero] at hc0; go_simp; try (with_reducible rfl))
  simp only [Act.put]; try simp only [List.setIfInBounds_toArray]; try simp only [List.set_cons_zero, List.set_cons_succ]
  refine wpAnyL_take (i := 5) (d := some 18) (v := ?vax5) rfl rfl (by kernel_rfl) (by kernel_rfl) (by kernel_rfl) (fun _ _ _ h => h) (by rfl) ?yax5 ?_
  case yax5 => (intro w' hw'; go_simp; try (with_reducible rfl))
  simp only [Act.put]; try simp only [List.setIfInBounds_toArray]; try simp only [List.set_cons_zero, List.set_cons_succ]
  refine wpAnyL_take (i := 6) (d := some 19) (v := ?vax6) rfl rfl (by kernel_rfl) (by kernel_rfl) (by kernel_rfl) (fun _ _ _ h => h) (by rfl) ?yax6 ?_
  case yax6 => (intro w' hw'; go_simp; try (with_reducible rfl))
  simp only [Act.put]; try simp only [List.setIfInBounds_toArray]; try simp only [List.set_cons_zero, List.set_cons_succ]
  refine wpAnyL_take (i := 7) (d := some 20) (v := ?vax7) rfl rfl (by kernel_rfl) (by kernel_rfl) (by kernel_rfl) (fun _ _ _ h => h) (by rfl) ?yax7 ?_
  case yax7 => (intro w' hw'; have hc1 := cell_of_row w' k 1 _ _ _ ((Below.block hw' k (lt_of_block X2.out)).trans X2.out); simp only [List.getElem?_toArray, List.getElem?_cons_zero, List.getElem?_cons_succ] at hc1; go_simp; try (with_reducible rfl))
  simp only [Act.put]; try simp only [List.setIfInBounds_toArray]; try simp only [List.set_cons_zero, List.set_cons_succ]
  refine wpAnyL_take (i := 8) (d := some 21) (v := .bool false) rfl rfl (by kernel_rfl) (by kernel_rfl) (by kernel_rfl) (fun _ _ _ h => h) (by rfl) ?yax8 ?_
  case yax8 => (intro w' hw'; (first | (go_simp; done) | (go_simp; omega) | (go_simp; simp; omega)))
  simp only [Act.put]; try simp only [List.setIfInBounds_toArray]; try simp only [List.set_cons_zero, List.set_cons_succ]
  refine wpAnyL_take (i := 9) (d := some 22) (v := ?vax9) rfl rfl (by kernel_rfl) (by kernel_rfl) (by kernel_rfl) (fun _ _ _ h => h) (by rfl) ?yax9 ?_
  case yax9 => (intro w' hw'; go_simp; try (with_reducible rfl))
  simp only [Act.put]; try simp only [List.setIfInBounds_toArray]; try simp only [List.set_cons_zero, List.set_cons_succ]
  refine wpAnyL_take (i := 10) (d := some 23) (v := ?vax10) rfl rfl (by kernel_rfl) (by kernel_rfl) (by kernel_rfl) (fun _ _ _ h => h) (by rfl) ?yax10 ?_
  case yax10 => (intro w' hw'; go_simp; try (with_reducible rfl))
  simp only [Act.put]; try simp only [List.setIfInBounds_toArray]; try simp only [List.set_cons_zero, List.set_cons_succ]
  refine wpAnyL_take (i := 11) (d := some 24) (v := ?vax11) rfl rfl (by kernel_rfl) (by kernel_rfl) (by kernel_rfl) (fun _ _ _ h => h) (by rfl) ?yax11 ?_
  case yax11 => (intro w' hw'; go_simp; try (with_reducible rfl))
  simp only [Act.put]; try simp only [List.setIfInBounds_toArray]; try simp only [List.set_cons_zero, List.set_cons_succ]
  refine wpAnyL_take (i := 12) (d := some 25) (v := ?vax12) rfl rfl (by kernel_rfl) (by kernel_rfl) (by kernel_rfl) (fun _ _ _ h => h) (by rfl) ?yax12 ?_
  case yax12 => (intro w' hw'; go_simp; try (with_reducible rfl))
  simp only [Act.put]; try simp only [List.setIfInBounds_toArray]; try simp only [List.set_cons_zero, List.set_cons_succ]
  refine wpAnyL_take (i := 13) (d := some 26) (v := .bool false) rfl rfl (by kernel_rfl) (by kernel_rfl) (by kernel_rfl) (fun _ _ _ h => h) (by rfl) ?yax13 ?_
  case yax13 => (intro w' hw'; (first | (go_simp; done) | (go_simp; omega) | (go_simp; simp; omega)))
  simp only [Act.put]; try simp only [List.setIfInBounds_toArray]; try simp only [List.set_cons_zero, List.set_cons_succ]
  refine wpAnyL_take (i := 14) (d := some 27) (v := ?vax14) rfl rfl (by kernel_rfl) (by kernel_rfl) (by kernel_rfl) (fun _ _ _ h => h) (by rfl) ?yax14 ?_
  case yax14 => (intro w' hw'; go_simp; try (with_reducible rfl))
  simp only [Act.put]; try simp only [List.setIfInBounds_toArray]; try simp only [List.set_cons_zero, List.set_cons_succ]
  refine wpAnyL_take (i := 15) (d := some 28) (v := ?vax15) rfl rfl (by kernel_rfl) (by kernel_rfl) (by kernel_rfl) (fun _ _ _ h => h) (by rfl) ?yax15 ?_
  case yax15 => (intro w' hw'; go_simp; try (with_reducible rfl))
  simp only [Act.put]; try simp only [List.setIfInBounds_toArray]; try simp only [List.set_cons_zero, List.set_cons_succ]
  refine wpAnyL_take (i := 16) (d := some 29) (v := ?vax16) rfl rfl (by kernel_rfl) (by kernel_rfl) (by kernel_rfl) (fun _ _ _ h => h) (by rfl) ?yax16 ?_
  case yax16 => (intro w' hw'; go_simp; try (with_reducible rfl))
  simp only [Act.put]; try simp only [List.setIfInBounds_toArray]; try simp only [List.set_cons_zero, List.set_cons_succ]
  refine wpAnyL_take (i := 17) (d := some 30) (v := ?vax17) rfl rfl (by kernel_rfl) (by kernel_rfl) (by kernel_rfl) (fun _ _ _ h => h) (by rfl) ?yax17 ?_
  case yax17 => (intro w' hw'; go_simp; try (with_reducible rfl))
  simp only [Act.put]; try simp only [List.setIfInBounds_toArray]; try simp only [List.set_cons_zero, List.set_cons_succ]
  refine wpAnyL_take (i := 18) (d := some 31) (v := ?vax18) rfl rfl (by kernel_rfl) (by kernel_rfl) (by kernel_rfl) (fun _ _ _ h => h) (by rfl) ?yax18 ?_
  case yax18 => (intro w' hw'; go_simp; try (with_reducible rfl))
  simp only [Act.put]; try simp only [List.setIfInBounds_toArray]; try simp only [List.set_cons_zero, List.set_cons_succ]
  refine wpAnyL_take (i := 19) (d := some 32) (v := ?vax19) rfl rfl (by kernel_rfl) (by kernel_rfl) (by kernel_rfl) (fun _ _ _ h => h) (by rfl) ?yax19 ?_
  case yax19 => (intro w' hw'; have hc0 := cell_of_row w' l 0 _ _ _ ((Below.block hw' l (lt_of_block X1.out)).trans X1.out); simp only [List.getElem?_toArray, List.getElem?_cons_zero] at hc0; go_simp; try (with_reducible rfl))
  simp only [Act.put]; try simp only [List.setIfInBounds_toArray]; try simp only [List.set_cons_zero, List.set_cons_succ]
  refine wpAnyL_take (i := 20) (d := some 33) (v := ?vax20) rfl rfl (by kernel_rfl) (by kernel_rfl) (by kernel_rfl) (fun _ _ _ h => h) (by rfl) ?yax20 ?_
  case yax20 => (intro w' hw'; go_simp; try (with_reducible rfl))
  simp only [Act.put]; try simp only [List.setIfInBounds_toArray]; try simp only [List.set_cons_zero, List.set_cons_succ]
  refine wpAnyL_take (i := 21) (d := some 34) (v := ?vax21) rfl rfl (by kernel_rfl) (by kernel_rfl) (by kernel_rfl) (fun _ _ _ h => h) (by rfl) ?yax21 ?_
  case yax21 => (intro w' hw'; go_simp; try (with_reducible rfl))
  simp only [Act.put]; try simp only [List.setIfInBounds_toArray]; try simp only [List.set_cons_zero, List.set_cons_succ]
  refine wpAnyL_take (i := 22) (d := some 35) (v := ?vax22) rfl rfl (by kernel_rfl) (by kernel_rfl) (by kernel_rfl) (fun _ _ _ h => h) (by rfl) ?yax22 ?_
  case yax22 => (intro w' hw'; go_simp; try (with_reducible rfl))
  simp only [Act.put]; try simp only [List.setIfInBounds_toArray]; try simp only [List.set_cons_zero, List.set_cons_succ]
  refine wpAnyL_take (i := 23) (d := some 36) (v := ?vax23) rfl rfl (by kernel_rfl) (by kernel_rfl) (by kernel_rfl) (fun _ _ _ h => h) (by rfl) ?yax23 ?_
  case yax23 => (intro w' hw'; have hc0 := cell_of_row w' l 0 _ _ _ ((Below.block hw' l (lt_of_block X1.out)).trans X1.out); simp only [List.getElem?_toArray, List.getElem?_cons_zero] at hc0; go_simp; try (with_reducible rfl))
  simp only [Act.put]; try simp only [List.setIfInBounds_toArray]; try simp only [List.set_cons_zero, List.set_cons_succ]
  refine wpAnyL_take (i := 24) (d := some 37) (v := ?vax24) rfl rfl (by kernel_rfl) (by kernel_rfl) (by kernel_rfl) (fun _ _ _ h => h) (by rfl) ?yax24 ?_
  case yax24 => (intro w' hw'; go_simp; try (with_reducible rfl))
  simp only [Act.put]; try simp only [List.setIfInBounds_toArray]; try simp only [List.set_cons_zero, List.set_cons_succ]
  refine wpAnyL_take (i := 25) (d := some 38) (v := ?vax25) rfl rfl (by kernel_rfl) (by kernel_rfl) (by kernel_rfl) (fun _ _ _ h => h) (by rfl) ?yax25 ?_
  case yax25 => (intro w' hw'; go_simp; try (with_reducible rfl))
  simp only [Act.put]; try simp only [List.setIfInBounds_toArray]; try simp only [List.set_cons_zero, List.set_cons_succ]
  refine wpAnyL_take (i := 26) (d := some 39) (v := ?vax26) rfl rfl (by kernel_rfl) (by kernel_rfl) (by kernel_rfl) (fun _ _ _ h => h) (by rfl) ?yax26 ?_
  case yax26 => (intro w' hw'; have hc1 := cell_of_row w' k 1 _ _ _ ((Below.block hw' k (lt_of_block X2.out)).trans X2.out); simp only [List.getElem?_toArray, List.getElem?_cons_zero, List.getElem?_cons_succ] at hc1; go_simp; try (with_reducible rfl))
  simp only [Act.put]; try simp only [List.setIfInBounds_toArray]; try simp only [List.set_cons_zero, List.set_cons_succ]
  refine wpAnyL_take (i := 28) (d := some 41) (v := ?vax28) rfl rfl (by kernel_rfl) (by kernel_rfl) (by kernel_rfl) (fun _ _ _ h => h) (by rfl) ?yax28 ?_
  case yax28 => (intro w' hw'; go_simp; try (with_reducible rfl))
  simp only [Act.put]; try simp only [List.setIfInBounds_toArray]; try simp only [List.set_cons_zero, List.set_cons_succ]
  refine wpAnyL_take (i := 30) (d := some 43) (v := ?vax30) rfl rfl (by kernel_rfl) (by kernel_rfl) (by kernel_rfl) (fun _ _ _ h => h) (by rfl) ?yax30 ?_
  case yax30 => (intro w' hw'; go_simp; try (with_reducible rfl))
  simp only [Act.put]; try simp only [List.setIfInBounds_toArray]; try simp only [List.set_cons_zero, List.set_cons_succ]
  refine wpAnyL_take (i := 31) (d := some 44) (v := ?vax31) rfl rfl (by kernel_rfl) (by kernel_rfl) (by kernel_rfl) (fun _ _ _ h => h) (by rfl) ?yax31 ?_
  case yax31 => (intro w' hw'; go_simp; try (with_reducible rfl))
  simp only [Act.put]; try simp only [List.setIfInBounds_toArray]; try simp only [List.set_cons_zero, List.set_cons_succ]
  refine wpAnyL_take (i := 32) (d := some 45) (v := ?vax32) rfl rfl (by kernel_rfl) (by kernel_rfl) (by kernel_rfl) (fun _ _ _ h => h) (by rfl) ?yax32 ?_
  case yax32 => (intro w' hw'; go_simp; try (with_reducible rfl))
  simp only [Act.put]; try simp only [List.setIfInBounds_toArray]; try simp only [List.set_cons_zero, List.set_cons_succ]
  refine wpAnyL_take (i := 33) (d := some 46) (v := ?vax33) rfl rfl (by kernel_rfl) (by kernel_rfl) (by kernel_rfl) (fun _ _ _ h => h) (by rfl) ?yax33 ?_
  case yax33 => (intro w' hw'; have hc0 := cell_of_row w' l 0 _ _ _ ((Below.block hw' l (lt_of_block X1.out)).trans X1.out); simp only [List.getElem?_toArray, List.getElem?_cons_zero] at hc0; go_simp; try (with_reducible rfl))
  simp only [Act.put]; try simp only [List.setIfInBounds_toArray]; try simp only [List.set_cons_zero, List.set_cons_succ]
  refine wpAnyL_take (i := 34) (d := some 47) (v := ?vax34) rfl rfl (by kernel_rfl) (by kernel_rfl) (by kernel_rfl) (fun _ _ _ h => h) (by rfl) ?yax34 ?_
  case yax34 => (intro w' hw'; go_simp; try (with_reducible rfl))
  simp only [Act.put]; try simp only [List.setIfInBounds_toArray]; try simp only [List.set_cons_zero, List.set_cons_succ]
  refine wpAnyL_take (i := 35) (d := some 48) (v := ?vax35) rfl rfl (by kernel_rfl) (by kernel_rfl) (by kernel_rfl) (fun _ _ _ h => h) (by rfl) ?yax35 ?_
  case yax35 => (intro w' hw'; go_simp; try (with_reducible rfl))
  simp only [Act.put]; try simp only [List.setIfInBounds_toArray]; try simp only [List.set_cons_zero, List.set_cons_succ]
  refine wpAnyL_take (i := 36) (d := some 49) (v := ?vax36) rfl rfl (by kernel_rfl) (by kernel_rfl) (by kernel_rfl) (fun _ _ _ h => h) (by rfl) ?yax36 ?_
  case yax36 => (intro w' hw'; have hc1 := cell_of_row w' k 1 _ _ _ ((Below.block hw' k (lt_of_block X2.out)).trans X2.out); simp only [List.getElem?_toArray, List.getElem?_cons_zero, List.getElem?_cons_succ] at hc1; go_simp; try (with_reducible rfl))
  simp only [Act.put]; try simp only [List.setIfInBounds_toArray]; try simp only [List.set_cons_zero, List.set_cons_succ]
  refine wpAnyL_only (i := 27) rfl (by kernel_rfl) (by rfl) fun K hK => ?_
  go_simp
  refine (C1.out w.drew (Later.drew _)).mono ?_
  rintro e w0 ⟨v1, rfl, ho1, rfl⟩
  have HO1 := hide ho1
  obtain ⟨A1, p1, rfl, _, _, _⟩ := ho1.1.shape
  clear ho1
  refine hK.out _ _ (Later.refl _) ?_
  clear hK K
  try (simp only [Act.put]; try simp only [List.setIfInBounds_toArray]; try simp only [List.set_cons_zero, List.set_cons_succ])
  refine wpAnyL_only (i := 29) rfl (by kernel_rfl) (by rfl) fun K hK => ?_
  go_simp
  refine (C2.out _ w.drew (Later.drew _) HO1.out).mono ?_
  rintro e w1 ⟨rfl, hb1⟩
  have L1 : Hid (Later w w1) := (Later.drew w).trans hb1
  have HB1 := hide hb1
  clear hb1
  refine hK.out _ _ HB1.out ?_
  clear hK K
  try (simp only [Act.put]; try simp only [List.setIfInBounds_toArray]; try simp only [List.set_cons_zero, List.set_cons_succ])
  refine wpAnyL_take (i := 37) (d := some 50) (v := .bool true) rfl rfl (by kernel_rfl) (by kernel_rfl) (by kernel_rfl) (fun _ _ _ h => h) (by rfl) ?yax37 ?_
  case yax37 => (intro w' hw'; (first | (go_simp; done) | (go_simp; omega) | (go_simp; simp; omega)))
  simp only [Act.put]; try simp only [List.setIfInBounds_toArray]; try simp only [List.set_cons_zero, List.set_cons_succ]
  refine wpAnyL_take (i := 38) (d := some 51) (v := ?vax38) rfl rfl (by kernel_rfl) (by kernel_rfl) (by kernel_rfl) (fun _ _ _ h => h) (by rfl) ?yax38 ?_
  case yax38 => (intro w' hw'; go_simp; try (with_reducible rfl))
  simp only [Act.put]; try simp only [List.setIfInBounds_toArray]; try simp only [List.set_cons_zero, List.set_cons_succ]
  refine wpAnyL_done (by kernel_rfl) ?_ _
  go_wp2
  go_ret
  exact ⟨rfl, L1.out⟩

end
end Go.Proofs.YtaiegmhlgjogmaaGreat.Ol
/- Replace of package oplog, where it changes the log. -/
namespace Go.Proofs.YtaiegmhlgjogmaaGreat.Ol
open Go.RowKit

section
variable {S F : Nat → Prop} {l k base c : Nat} {v : Value} {ps : List (OpD × Value)}
set_option maxHeartbeats 2000000 in
set_option maxRecDepth 100000 in
theorem replace_yes (n : Nat) (v2 : Value) (qs : List (OpD × Value)) (w : World) (h : LogAt S w l k base v ps c) (hq : OpsIn F w v2 qs) (hsm : ∀ q ∈ qs, q.1.steps.length ≤ 1000000) (hm : qs.length ≤ 2000) (hn1 : c ≤ n) (hn2 : n ≤ qs.length) (hp : (qs.map (·.1)).take c = (ps.map (·.1)).take c) :
    Calls Tryz.prog 181 #[.pointer (some ⟨l, 0, none⟩), v2, .int .i64 (n : Int)] w (Changed S w l (qs.map (·.1)) n) := by
  have C := hide (made_yes w h)
  obtain ⟨f1, f2⟩ := replace_facts h hq
  have C1 := hide f1
  have C2 := hide f2
  obtain ⟨A2, c2, rfl, g1, g2, _⟩ := hq.1.shape
  have X1 := hide h.cell
  have X2 := hide h.parts.kept
  have hcom := h.parts.com
  have hge : c ≤ pre ((ps.map (·.1)).take c) (qs.map (·.1)) := by
    have hlen : ((ps.map (·.1)).take c).length = c := by simp; omega
    have := pre_whole (l := (ps.map (·.1)).take c) (m := qs.map (·.1))
    rw [hlen] at this
    exact this.2 hp
  have hpl := (pre_le ((ps.map (·.1)).take c) (qs.map (·.1))).1
  have hpl2 : pre ((ps.map (·.1)).take c) (qs.map (·.1)) ≤ 2000 := by
    have := h.parts.len
    simp at hpl
    omega
  generalize ps.take c = pq at C1 C2
  generalize pre ((ps.map (·.1)).take c) (qs.map (·.1)) = q at C2 hge hpl2
  have hlk : l ≠ k := h.ne
  have t1 : ¬ n < c := by omega
  have t2 : ¬ qs.length < n := by omega
  have t3 : ¬ q < c := by omega
  have hTail := hq.tail (lo := c) (by omega)
  unfold sliced at hTail
  have HTL := hide hTail
  have H := hide h
  have HSM := hide hsm
  have HPP := hide hp
  unfold maxLen at g2
  clear h hq hp f1 f2 hpl hTail hsm
  go_enter Tryz.func181, Tryz.ntmps181
  go_wp2_with (fail)
  refine C.out.mono ?_
  rintro e w1 ⟨rfl, rfl⟩
  go_wp2
  refine wp_region_L (by kernel_rfl) ?_
  refine wpAnyL_take (i := 0) (d := some 13) (v := ?vay0) rfl rfl (by kernel_rfl) (by kernel_rfl) (by kernel_rfl) (fun _ _ _ h => h) (by rfl) ?yay0 ?_
  case yay0 => (intro w' hw'; go_simp; try (with_reducible rfl))
  simp only [Act.put]; try simp only [List.setIfInBounds_toArray]; try simp only [List.set_cons_zero, List.set_cons_succ]
  refine wpAnyL_take (i := 1) (d := some 14) (v := ?vay1) rfl rfl (by kernel_rfl) (by kernel_rfl) (by kernel_rfl) (fun _ _ _ h => h) (by rfl) ?yay1 ?_
  case yay1 => (intro w' hw'; go_simp; try (with_reducible rfl))
  simp only [Act.put]; try simp only [List.setIfInBounds_toArray]; try simp only [List.set_cons_zero, List.set_cons_succ]
  refine wpAnyL_take (i := 2) (d := some 15) (v := ?vay2) rfl rfl (by kernel_rfl) (by kernel_rfl) (by kernel_rfl) (fun _ _ _ h => h) (by rfl) ?yay2 ?_
  case yay2 => (intro w' hw'; go_simp; try (with_reducible rfl))
  simp only [Act.put]; try simp only [List.setIfInBounds_toArray]; try simp only [List.set_cons_zero, List.set_cons_succ]
  refine wpAnyL_take (i := 3) (d := some 16) (v := ?vay3) rfl rfl (by kernel_rfl) (by kernel_rfl) (by kernel_rfl) (fun _ _ _ h => h) (by rfl) ?yay3 ?_
  case yay3 => (intro w' hw'; go_simp; try (with_reducible rfl))
  simp only [Act.put]; try simp only [List.setIfInBounds_toArray]; try simp only [List.set_cons_zero, List.set_cons_succ]
  refine wpAnyL_take (i := 4) (d := some 17) (v := ?vay4) rfl rfl (by kernel_rfl) (by kernel_rfl) (by kernel_rfl) (fun _ _ _ h => h) (by rfl) ?yay4 ?_
  case yay4 => (intro w' hw'; have hc0 := cell_of_row w' l 0 _ _ _ ((Below.block hw' l (lt_of_block X1.out)).trans X1.out); simp only [List.getElem?_toArray, List.getElem?_cons_zero] at hc0; go_simp; try (with_reducible rfl))
  simp only [Act.put]; try simp only [List.setIfInBounds_toArray]; try simp only [List.set_cons_zero, List.set_cons_succ]
  refine wpAnyL_take (i := 5) (d := some 18) (v := ?vay5) rfl rfl (by kernel_rfl) (by kernel_rfl) (by kernel_rfl) (fun _ _ _ h => h) (by rfl) ?yay5 ?_
  case yay5 => (intro w' hw'; go_simp; try (with_reducible rfl))
  simp only [Act.put]; try simp only [List.setIfInBounds_toArray]; try simp only [List.set_cons_zero, List.set_cons_succ]
  refine wpAnyL_take (i := 6) (d := some 19) (v := ?vay6) rfl rfl (by kernel_rfl) (by kernel_rfl) (by kernel_rfl) (fun _ _ _ h => h) (by rfl) ?yay6 ?_
  case yay6 => (intro w' hw'; go_simp; try (with_reducible rfl))
  simp only [Act.put]; try simp only [List.setIfInBounds_toArray]; try simp only [List.set_cons_zero, List.set_cons_succ]
  refine wpAnyL_take (i := 7) (d := some 20) (v := ?vay7) rfl rfl (by kernel_rfl) (by kernel_rfl) (by kernel_rfl) (fun _ _ _ h => h) (by rfl) ?yay7 ?_
  case yay7 => (intro w' hw'; have hc1 := cell_of_row w' k 1 _ _ _ ((Below.block hw' k (lt_of_block X2.out)).trans X2.out); simp only [List.getElem?_toArray, List.getElem?_cons_zero, List.getElem?_cons_succ] at hc1; go_simp; try (with_reducible rfl))
  simp only [Act.put]; try simp only [List.setIfInBounds_toArray]; try simp only [List.set_cons_zero, List.set_cons_succ]
  refine wpAnyL_take (i := 8) (d := some 21) (v := .bool false) rfl rfl (by kernel_rfl) (by kernel_rfl) (by kernel_rfl) (fun _ _ _ h => h) (by rfl) ?yay8 ?_
  case yay8 => (intro w' hw'; (first | (go_simp; done) | (go_simp; omega) | (go_simp; simp; omega)))
  simp only [Act.put]; try simp only [List.setIfInBounds_toArray]; try simp only [List.set_cons_zero, List.set_cons_succ]
  refine wpAnyL_take (i := 9) (d := some 22) (v := ?vay9) rfl rfl (by kernel_rfl) (by kernel_rfl) (by kernel_rfl) (fun _ _ _ h => h) (by rfl) ?yay9 ?_
  case yay9 => (intro w' hw'; go_simp; try (with_reducible rfl))
  simp only [Act.put]; try simp only [List.setIfInBounds_toArray]; try simp only [List.set_cons_zero, List.set_cons_succ]
  refine wpAnyL_take (i := 10) (d := some 23) (v := ?vay10) rfl rfl (by kernel_rfl) (by kernel_rfl) (by kernel_rfl) (fun _ _ _ h => h) (by rfl) ?yay10 ?_
  case yay10 => (intro w' hw'; go_simp; try (with_reducible rfl))
  simp only [Act.put]; try simp only [List.setIfInBounds_toArray]; try simp only [List.set_cons_zero, List.set_cons_succ]
  refine wpAnyL_take (i := 11) (d := some 24) (v := ?vay11) rfl rfl (by kernel_rfl) (by kernel_rfl) (by kernel_rfl) (fun _ _ _ h => h) (by rfl) ?yay11 ?_
  case yay11 => (intro w' hw'; go_simp; try (with_reducible rfl))
  simp only [Act.put]; try simp only [List.setIfInBounds_toArray]; try simp only [List.set_cons_zero, List.set_cons_succ]
  refine wpAnyL_take (i := 12) (d := some 25) (v := ?vay12) rfl rfl (by kernel_rfl) (by kernel_rfl) (by kernel_rfl) (fun _ _ _ h => h) (by rfl) ?yay12 ?_
  case yay12 => (intro w' hw'; go_simp; try (with_reducible rfl))
  simp only [Act.put]; try simp only [List.setIfInBounds_toArray]; try simp only [List.set_cons_zero, List.set_cons_succ]
  refine wpAnyL_take (i := 13) (d := some 26) (v := .bool false) rfl rfl (by kernel_rfl) (by kernel_rfl) (by kernel_rfl) (fun _ _ _ h => h) (by rfl) ?yay13 ?_
  case yay13 => (intro w' hw'; (first | (go_simp; done) | (go_simp; omega) | (go_simp; simp; omega)))
  simp only [Act.put]; try simp only [List.setIfInBounds_toArray]; try simp only [List.set_cons_zero, List.set_cons_succ]
  refine wpAnyL_take (i := 14) (d := some 27) (v := ?vay14) rfl rfl (by kernel_rfl) (by kernel_rfl) (by kernel_rfl) (fun _ _ _ h => h) (by rfl) ?yay14 ?_
  case yay14 => (intro w' hw'; go_simp; try (with_reducible rfl))
  simp only [Act.put]; try simp only [List.setIfInBounds_toArray]; try simp only [List.set_cons_zero, List.set_cons_succ]
  refine wpAnyL_take (i := 15) (d := some 28) (v := ?vay15) rfl rfl (by kernel_rfl) (by kernel_rfl) (by kernel_rfl) (fun _ _ _ h => h) (by rfl) ?yay15 ?_
  case yay15 => (intro w' hw'; go_simp; try (with_reducible rfl))
  simp only [Act.put]; try simp only [List.setIfInBounds_toArray]; try simp only [List.set_cons_zero, List.set_cons_succ]
  refine wpAnyL_take (i := 16) (d := some 29) (v := ?vay16) rfl rfl (by kernel_rfl) (by kernel_rfl) (by kernel_rfl) (fun _ _ _ h => h) (by rfl) ?yay16 ?_
  case yay16 => (intro w' hw'; go_simp; try (with_reducible rfl))
  simp only [Act.put]; try simp only [List.setIfInBounds_toArray]; try simp only [List.set_cons_zero, List.set_cons_succ]
  refine wpAnyL_take (i := 17) (d := some 30) (v := ?vay17) rfl rfl (by kernel_rfl) (by kernel_rfl) (by kernel_rfl) (fun _ _ _ h => h) (by rfl) ?yay17 ?_
  case yay17 => (intro w' hw'; go_simp; try (with_reducible rfl))
  simp only [Act.put]; try simp only [List.setIfInBounds_toArray]; try simp only [List.set_cons_zero, List.set_cons_succ]
  refine wpAnyL_take (i := 18) (d := some 31) (v := ?vay18) rfl rfl (by kernel_rfl) (by kernel_rfl) (by kernel_rfl) (fun _ _ _ h => h) (by rfl) ?yay18 ?_
  case yay18 => (intro w' hw'; go_simp; try (with_reducible rfl))
  simp only [Act.put]; try simp only [List.setIfInBounds_toArray]; try simp only [List.set_cons_zero, List.set_cons_succ]
  refine wpAnyL_take (i := 19) (d := some 32) (v := ?vay19) rfl rfl (by kernel_rfl) (by kernel_rfl) (by kernel_rfl) (fun _ _ _ h => h) (by rfl) ?yay19 ?_
  case yay19 => (intro w' hw'; have hc0 := cell_of_row w' l 0 _ _ _ ((Below.block hw' l (lt_of_block X1.out)).trans X1.out); simp only [List.getElem?_toArray, List.getElem?_cons_zero] at hc0; go_simp; try (with_reducible rfl))
  simp only [Act.put]; try simp only [List.setIfInBounds_toArray]; try simp only [List.set_cons_zero, List.set_cons_succ]
  refine wpAnyL_take (i := 20) (d := some 33) (v := ?vay20) rfl rfl (by kernel_rfl) (by kernel_rfl) (by kernel_rfl) (fun _ _ _ h => h) (by rfl) ?yay20 ?_
  case yay20 => (intro w' hw'; go_simp; try (with_reducible rfl))
  simp only [Act.put]; try simp only [List.setIfInBounds_toArray]; try simp only [List.set_cons_zero, List.set_cons_succ]
  refine wpAnyL_take (i := 21) (d := some 34) (v := ?vay21) rfl rfl (by kernel_rfl) (by kernel_rfl) (by kernel_rfl) (fun _ _ _ h => h) (by rfl) ?yay21 ?_
  case yay21 => (intro w' hw'; go_simp; try (with_reducible rfl))
  simp only [Act.put]; try simp only [List.setIfInBounds_toArray]; try simp only [List.set_cons_zero, List.set_cons_succ]
  refine wpAnyL_take (i := 22) (d := some 35) (v := ?vay22) rfl rfl (by kernel_rfl) (by kernel_rfl) (by kernel_rfl) (fun _ _ _ h => h) (by rfl) ?yay22 ?_
  case yay22 => (intro w' hw'; go_simp; try (with_reducible rfl))
  simp only [Act.put]; try simp only [List.setIfInBounds_toArray]; try simp only [List.set_cons_zero, List.set_cons_succ]
  refine wpAnyL_take (i := 23) (d := some 36) (v := ?vay23) rfl rfl (by kernel_rfl) (by kernel_rfl) (by kernel_rfl) (fun _ _ _ h => h) (by rfl) ?yay23 ?_
  case yay23 => (intro w' hw'; have hc0 := cell_of_row w' l 0 _ _ _ ((Below.block hw' l (lt_of_block X1.out)).trans X1.out); simp only [List.getElem?_toArray, List.getElem?_cons_zero] at hc0; go_simp; try (with_reducible rfl))
  simp only [Act.put]; try simp only [List.setIfInBounds_toArray]; try simp only [List.set_cons_zero, List.set_cons_succ]
  refine wpAnyL_take (i := 24) (d := some 37) (v := ?vay24) rfl rfl (by kernel_rfl) (by kernel_rfl) (by kernel_rfl) (fun _ _ _ h => h) (by rfl) ?yay24 ?_
  case yay24 => (intro w' hw'; go_simp; try (with_reducible rfl))
  simp only [Act.put]; try simp only [List.setIfInBounds_toArray]; try simp only [List.set_cons_zero, List.set_cons_succ]
  refine wpAnyL_take (i := 25) (d := some 38) (v := ?vay25) rfl rfl (by kernel_rfl) (by kernel_rfl) (by kernel_rfl) (fun _ _ _ h => h) (by rfl) ?yay25 ?_
  case yay25 => (intro w' hw'; go_simp; try (with_reducible rfl))
  simp only [Act.put]; try simp only [List.setIfInBounds_toArray]; try simp only [List.set_cons_zero, List.set_cons_succ]
  refine wpAnyL_take (i := 26) (d := some 39) (v := ?vay26) rfl rfl (by kernel_rfl) (by kernel_rfl) (by kernel_rfl) (fun _ _ _ h => h) (by rfl) ?yay26 ?_
  case yay26 => (intro w' hw'; have hc1 := cell_of_row w' k 1 _ _ _ ((Below.block hw' k (lt_of_block X2.out)).trans X2.out); simp only [List.getElem?_toArray, List.getElem?_cons_zero, List.getElem?_cons_succ] at hc1; go_simp; try (with_reducible rfl))
  simp only [Act.put]; try simp only [List.setIfInBounds_toArray]; try simp only [List.set_cons_zero, List.set_cons_succ]
  refine wpAnyL_take (i := 28) (d := some 41) (v := ?vay28) rfl rfl (by kernel_rfl) (by kernel_rfl) (by kernel_rfl) (fun _ _ _ h => h) (by rfl) ?yay28 ?_
  case yay28 => (intro w' hw'; go_simp; try (with_reducible rfl))
  simp only [Act.put]; try simp only [List.setIfInBounds_toArray]; try simp only [List.set_cons_zero, List.set_cons_succ]
  refine wpAnyL_take (i := 30) (d := some 43) (v := ?vay30) rfl rfl (by kernel_rfl) (by kernel_rfl) (by kernel_rfl) (fun _ _ _ h => h) (by rfl) ?yay30 ?_
  case yay30 => (intro w' hw'; go_simp; try (with_reducible rfl))
  simp only [Act.put]; try simp only [List.setIfInBounds_toArray]; try simp only [List.set_cons_zero, List.set_cons_succ]
  refine wpAnyL_take (i := 31) (d := some 44) (v := ?vay31) rfl rfl (by kernel_rfl) (by kernel_rfl) (by kernel_rfl) (fun _ _ _ h => h) (by rfl) ?yay31 ?_
  case yay31 => (intro w' hw'; go_simp; try (with_reducible rfl))
  simp only [Act.put]; try simp only [List.setIfInBounds_toArray]; try simp only [List.set_cons_zero, List.set_cons_succ]
  refine wpAnyL_take (i := 32) (d := some 45) (v := ?vay32) rfl rfl (by kernel_rfl) (by kernel_rfl) (by kernel_rfl) (fun _ _ _ h => h) (by rfl) ?yay32 ?_
  case yay32 => (intro w' hw'; go_simp; try (with_reducible rfl))
  simp only [Act.put]; try simp only [List.setIfInBounds_toArray]; try simp only [List.set_cons_zero, List.set_cons_succ]
  refine wpAnyL_take (i := 33) (d := some 46) (v := ?vay33) rfl rfl (by kernel_rfl) (by kernel_rfl) (by kernel_rfl) (fun _ _ _ h => h) (by rfl) ?yay33 ?_
  case yay33 => (intro w' hw'; have hc0 := cell_of_row w' l 0 _ _ _ ((Below.block hw' l (lt_of_block X1.out)).trans X1.out); simp only [List.getElem?_toArray, List.getElem?_cons_zero] at hc0; go_simp; try (with_reducible rfl))
  simp only [Act.put]; try simp only [List.setIfInBounds_toArray]; try simp only [List.set_cons_zero, List.set_cons_succ]
  refine wpAnyL_take (i := 34) (d := some 47) (v := ?vay34) rfl rfl (by kernel_rfl) (by kernel_rfl) (by kernel_rfl) (fun _ _ _ h => h) (by rfl) ?yay34 ?_
  case yay34 => (intro w' hw'; go_simp; try (with_reducible rfl))
  simp only [Act.put]; try simp only [List.setIfInBounds_toArray]; try simp only [List.set_cons_zero, List.set_cons_succ]
  refine wpAnyL_take (i := 35) (d := some 48) (v := ?vay35) rfl rfl (by kernel_rfl) (by kernel_rfl) (by kernel_rfl) (fun _ _ _ h => h) (by rfl) ?yay35 ?_
  case yay35 => (intro w' hw'; go_simp; try (with_reducible rfl))
  simp only [Act.put]; try simp only [List.setIfInBounds_toArray]; try simp only [List.set_cons_zero, List.set_cons_succ]
  refine wpAnyL_take (i := 36) (d := some 49) (v := ?vay36) rfl rfl (by kernel_rfl) (by kernel_rfl) (by kernel_rfl) (fun _ _ _ h => h) (by rfl) ?yay36 ?_
  case yay36 => (intro w' hw'; have hc1 := cell_of_row w' k 1 _ _ _ ((Below.block hw' k (lt_of_block X2.out)).trans X2.out); simp only [List.getElem?_toArray, List.getElem?_cons_zero, List.getElem?_cons_succ] at hc1; go_simp; try (with_reducible rfl))
  simp only [Act.put]; try simp only [List.setIfInBounds_toArray]; try simp only [List.set_cons_zero, List.set_cons_succ]
  refine wpAnyL_only (i := 27) rfl (by kernel_rfl) (by rfl) fun K hK => ?_
  go_simp
  refine (C1.out w.drew (Later.drew _)).mono ?_
  rintro e w0 ⟨v1, rfl, ho1, rfl⟩
  have HO1 := hide ho1
  obtain ⟨A1, p1, rfl, _, _, _⟩ := ho1.1.shape
  clear ho1
  refine hK.out _ _ (Later.refl _) ?_
  clear hK K
  try (simp only [Act.put]; try simp only [List.setIfInBounds_toArray]; try simp only [List.set_cons_zero, List.set_cons_succ])
  refine wpAnyL_only (i := 29) rfl (by kernel_rfl) (by rfl) fun K hK => ?_
  go_simp
  refine (C2.out _ w.drew (Later.drew _) HO1.out).mono ?_
  rintro e w1 ⟨rfl, hb1⟩
  have L1 : Hid (Later w w1) := (Later.drew w).trans hb1
  have HB1 := hide hb1
  clear hb1
  refine hK.out _ _ HB1.out ?_
  clear hK K
  try (simp only [Act.put]; try simp only [List.setIfInBounds_toArray]; try simp only [List.set_cons_zero, List.set_cons_succ])
  refine wpAnyL_take (i := 37) (d := some 50) (v := .bool false) rfl rfl (by kernel_rfl) (by kernel_rfl) (by kernel_rfl) (fun _ _ _ h => h) (by rfl) ?yay37 ?_
  case yay37 => (intro w' hw'; (first | (go_simp; done) | (go_simp; omega) | (go_simp; simp; omega)))
  simp only [Act.put]; try simp only [List.setIfInBounds_toArray]; try simp only [List.set_cons_zero, List.set_cons_succ]
  refine wpAnyL_take (i := 38) (d := some 51) (v := ?vay38) rfl rfl (by kernel_rfl) (by kernel_rfl) (by kernel_rfl) (fun _ _ _ h => h) (by rfl) ?yay38 ?_
  case yay38 => (intro w' hw'; go_simp; try (with_reducible rfl))
  simp only [Act.put]; try simp only [List.setIfInBounds_toArray]; try simp only [List.set_cons_zero, List.set_cons_succ]
  refine wpAnyL_done (by kernel_rfl) ?_ _
  have H1 := hide (H.out.later L1.out)
  have Y1 := hide H1.out.cell
  have Y2 := hide H1.out.parts.kept
  have C3 := hide (goon_any (F := F) c _ (qs.drop c) w1.drew (H1.out.keep (Kept.drew _ _)).parts hcom ((HTL.out.kept (Kept.of_below L1.out F)).kept (Kept.drew _ _)) (fun q hq => HSM.out q (List.mem_of_mem_drop hq)) (by rw [List.length_drop]; omega) (by rw [List.length_drop]; omega))
  have hcq : c ≤ qs.length := by omega
  go_wp2
  refine wp_region_S (fun j => j == 20) (by kernel_rfl) ?_
  refine wpAnyS_take (i := 0) (d := some 52) (v := ?vaz0) rfl rfl (by kernel_rfl) (by kernel_rfl) (by kernel_rfl) (by kernel_rfl) (by kernel_rfl) (fun _ _ _ h => h) (by rfl) ?yaz0 ?_
  case yaz0 => (intro w' hw'; go_simp; try (with_reducible rfl))
  simp only [Act.put]; try simp only [List.setIfInBounds_toArray]; try simp only [List.set_cons_zero, List.set_cons_succ]
  refine wpAnyS_take (i := 1) (d := some 53) (v := ?vaz1) rfl rfl (by kernel_rfl) (by kernel_rfl) (by kernel_rfl) (by kernel_rfl) (by kernel_rfl) (fun _ _ _ h => h) (by rfl) ?yaz1 ?_
  case yaz1 => (intro w' hw'; go_simp; try (with_reducible rfl))
  simp only [Act.put]; try simp only [List.setIfInBounds_toArray]; try simp only [List.set_cons_zero, List.set_cons_succ]
  refine wpAnyS_take (i := 2) (d := some 54) (v := ?vaz2) rfl rfl (by kernel_rfl) (by kernel_rfl) (by kernel_rfl) (by kernel_rfl) (by kernel_rfl) (fun _ _ _ h => h) (by rfl) ?yaz2 ?_
  case yaz2 => (intro w' hw'; go_simp; try (with_reducible rfl))
  simp only [Act.put]; try simp only [List.setIfInBounds_toArray]; try simp only [List.set_cons_zero, List.set_cons_succ]
  refine wpAnyS_take (i := 3) (d := some 55) (v := ?vaz3) rfl rfl (by kernel_rfl) (by kernel_rfl) (by kernel_rfl) (by kernel_rfl) (by kernel_rfl) (fun _ _ _ h => h) (by rfl) ?yaz3 ?_
  case yaz3 => (intro w' hw'; have hc0 := cell_of_row w' l 0 _ _ _ ((Below.block hw' l (lt_of_block Y1.out)).trans Y1.out); simp only [List.getElem?_toArray, List.getElem?_cons_zero] at hc0; go_simp; try (with_reducible rfl))
  simp only [Act.put]; try simp only [List.setIfInBounds_toArray]; try simp only [List.set_cons_zero, List.set_cons_succ]
  refine wpAnyS_take (i := 4) (d := some 56) (v := ?vaz4) rfl rfl (by kernel_rfl) (by kernel_rfl) (by kernel_rfl) (by kernel_rfl) (by kernel_rfl) (fun _ _ _ h => h) (by rfl) ?yaz4 ?_
  case yaz4 => (intro w' hw'; go_simp; try (with_reducible rfl))
  simp only [Act.put]; try simp only [List.setIfInBounds_toArray]; try simp only [List.set_cons_zero, List.set_cons_succ]
  refine wpAnyS_take (i := 5) (d := some 57) (v := ?vaz5) rfl rfl (by kernel_rfl) (by kernel_rfl) (by kernel_rfl) (by kernel_rfl) (by kernel_rfl) (fun _ _ _ h => h) (by rfl) ?yaz5 ?_
  case yaz5 => (intro w' hw'; go_simp; try (with_reducible rfl))
  simp only [Act.put]; try simp only [List.setIfInBounds_toArray]; try simp only [List.set_cons_zero, List.set_cons_succ]
  refine wpAnyS_take (i := 6) (d := some 58) (v := ?vaz6) rfl rfl (by kernel_rfl) (by kernel_rfl) (by kernel_rfl) (by kernel_rfl) (by kernel_rfl) (fun _ _ _ h => h) (by rfl) ?yaz6 ?_
  case yaz6 => (intro w' hw'; go_simp; try (with_reducible rfl))
  simp only [Act.put]; try simp only [List.setIfInBounds_toArray]; try simp only [List.set_cons_zero, List.set_cons_succ]
  refine wpAnyS_take (i := 7) (d := some 59) (v := ?vaz7) rfl rfl (by kernel_rfl) (by kernel_rfl) (by kernel_rfl) (by kernel_rfl) (by kernel_rfl) (fun _ _ _ h => h) (by rfl) ?yaz7 ?_
  case yaz7 => (intro w' hw'; have hc0 := cell_of_row w' l 0 _ _ _ ((Below.block hw' l (lt_of_block Y1.out)).trans Y1.out); simp only [List.getElem?_toArray, List.getElem?_cons_zero] at hc0; go_simp; try (with_reducible rfl))
  simp only [Act.put]; try simp only [List.setIfInBounds_toArray]; try simp only [List.set_cons_zero, List.set_cons_succ]
  refine wpAnyS_take (i := 8) (d := some 60) (v := ?vaz8) rfl rfl (by kernel_rfl) (by kernel_rfl) (by kernel_rfl) (by kernel_rfl) (by kernel_rfl) (fun _ _ _ h => h) (by rfl) ?yaz8 ?_
  case yaz8 => (intro w' hw'; go_simp; try (with_reducible rfl))
  simp only [Act.put]; try simp only [List.setIfInBounds_toArray]; try simp only [List.set_cons_zero, List.set_cons_succ]
  refine wpAnyS_take (i := 9) (d := some 61) (v := ?vaz9) rfl rfl (by kernel_rfl) (by kernel_rfl) (by kernel_rfl) (by kernel_rfl) (by kernel_rfl) (fun _ _ _ h => h) (by rfl) ?yaz9 ?_
  case yaz9 => (intro w' hw'; go_simp; try (with_reducible rfl))
  simp only [Act.put]; try simp only [List.setIfInBounds_toArray]; try simp only [List.set_cons_zero, List.set_cons_succ]
  refine wpAnyS_take (i := 10) (d := some 62) (v := ?vaz10) rfl rfl (by kernel_rfl) (by kernel_rfl) (by kernel_rfl) (by kernel_rfl) (by kernel_rfl) (fun _ _ _ h => h) (by rfl) ?yaz10 ?_
  case yaz10 => (intro w' hw'; have hc1 := cell_of_row w' k 1 _ _ _ ((Below.block hw' k (lt_of_block Y2.out)).trans Y2.out); simp only [List.getElem?_toArray, List.getElem?_cons_zero, List.getElem?_cons_succ] at hc1; go_simp; try (with_reducible rfl))
  simp only [Act.put]; try simp only [List.setIfInBounds_toArray]; try simp only [List.set_cons_zero, List.set_cons_succ]
  refine wpAnyS_take (i := 11) (d := some 63) (v := ?vaz11) rfl rfl (by kernel_rfl) (by kernel_rfl) (by kernel_rfl) (by kernel_rfl) (by kernel_rfl) (fun _ _ _ h => h) (by rfl) ?yaz11 ?_
  case yaz11 => (intro w' hw'; go_simp; try (with_reducible rfl))
  simp only [Act.put]; try simp only [List.setIfInBounds_toArray]; try simp only [List.set_cons_zero, List.set_cons_succ]
  refine wpAnyS_take (i := 12) (d := some 64) (v := ?vaz12) rfl rfl (by kernel_rfl) (by kernel_rfl) (by kernel_rfl) (by kernel_rfl) (by kernel_rfl) (fun _ _ _ h => h) (by rfl) ?yaz12 ?_
  case yaz12 => (intro w' hw'; go_simp; try (with_reducible rfl))
  simp only [Act.put]; try simp only [List.setIfInBounds_toArray]; try simp only [List.set_cons_zero, List.set_cons_succ]
  refine wpAnyS_take (i := 13) (d := some 65) (v := ?vaz13) rfl rfl (by kernel_rfl) (by kernel_rfl) (by kernel_rfl) (by kernel_rfl) (by kernel_rfl) (fun _ _ _ h => h) (by rfl) ?yaz13 ?_
  case yaz13 => (intro w' hw'; go_simp; try (with_reducible rfl))
  simp only [Act.put]; try simp only [List.setIfInBounds_toArray]; try simp only [List.set_cons_zero, List.set_cons_succ]
  refine wpAnyS_take (i := 14) (d := some 66) (v := ?vaz14) rfl rfl (by kernel_rfl) (by kernel_rfl) (by kernel_rfl) (by kernel_rfl) (by kernel_rfl) (fun _ _ _ h => h) (by rfl) ?yaz14 ?_
  case yaz14 => (intro w' hw'; go_simp; try (with_reducible rfl))
  simp only [Act.put]; try simp only [List.setIfInBounds_toArray]; try simp only [List.set_cons_zero, List.set_cons_succ]
  refine wpAnyS_take (i := 15) (d := some 67) (v := ?vaz15) rfl rfl (by kernel_rfl) (by kernel_rfl) (by kernel_rfl) (by kernel_rfl) (by kernel_rfl) (fun _ _ _ h => h) (by rfl) ?yaz15 ?_
  case yaz15 => (intro w' hw'; have hc0 := cell_of_row w' l 0 _ _ _ ((Below.block hw' l (lt_of_block Y1.out)).trans Y1.out); simp only [List.getElem?_toArray, List.getElem?_cons_zero] at hc0; go_simp; try (with_reducible rfl))
  simp only [Act.put]; try simp only [List.setIfInBounds_toArray]; try simp only [List.set_cons_zero, List.set_cons_succ]
  refine wpAnyS_take (i := 16) (d := some 68) (v := ?vaz16) rfl rfl (by kernel_rfl) (by kernel_rfl) (by kernel_rfl) (by kernel_rfl) (by kernel_rfl) (fun _ _ _ h => h) (by rfl) ?yaz16 ?_
  case yaz16 => (intro w' hw'; go_simp; try (with_reducible rfl))
  simp only [Act.put]; try simp only [List.setIfInBounds_toArray]; try simp only [List.set_cons_zero, List.set_cons_succ]
  refine wpAnyS_take (i := 17) (d := some 69) (v := ?vaz17) rfl rfl (by kernel_rfl) (by kernel_rfl) (by kernel_rfl) (by kernel_rfl) (by kernel_rfl) (fun _ _ _ h => h) (by rfl) ?yaz17 ?_
  case yaz17 => (intro w' hw'; go_simp; try (with_reducible rfl))
  simp only [Act.put]; try simp only [List.setIfInBounds_toArray]; try simp only [List.set_cons_zero, List.set_cons_succ]
  refine wpAnyS_take (i := 18) (d := some 70) (v := ?vaz18) rfl rfl (by kernel_rfl) (by kernel_rfl) (by kernel_rfl) (by kernel_rfl) (by kernel_rfl) (fun _ _ _ h => h) (by rfl) ?yaz18 ?_
  case yaz18 => (intro w' hw'; have hc1 := cell_of_row w' k 1 _ _ _ ((Below.block hw' k (lt_of_block Y2.out)).trans Y2.out); simp only [List.getElem?_toArray, List.getElem?_cons_zero, List.getElem?_cons_succ] at hc1; go_simp; try (with_reducible rfl))
  simp only [Act.put]; try simp only [List.setIfInBounds_toArray]; try simp only [List.set_cons_zero, List.set_cons_succ]
  refine wpAnyS_take (i := 19) (d := some 71) (v := ?vaz19) rfl rfl (by kernel_rfl) (by kernel_rfl) (by kernel_rfl) (by kernel_rfl) (by kernel_rfl) (fun _ _ _ h => h) (by rfl) ?yaz19 ?_
  case yaz19 => (intro w' hw'; go_simp; try (with_reducible rfl))
  simp only [Act.put]; try simp only [List.setIfInBounds_toArray]; try simp only [List.set_cons_zero, List.set_cons_succ]
  refine wpAnyS_write (i := 20) rfl rfl (by kernel_rfl) (by rfl) fun K hK => ?_
  go_simp
  refine (C3.out).mono ?_
  rintro e w2 ⟨base', v', rs, rfl, hrs, hp, ht⟩
  have HP := hide hp
  have HT := hide ht
  have HRS := hide hrs
  clear hp ht hrs
  refine hK.out _ _ ?_
  clear hK K
  try (simp only [Act.put]; try simp only [List.setIfInBounds_toArray]; try simp only [List.set_cons_zero, List.set_cons_succ])
  refine wpAnyS_done (by kernel_rfl) ?_ _
  have hk2 := HP.out.cells
  obtain ⟨j0, j1, g0, g1⟩ := hk2
  have hcl2 : w2.cell? ⟨l, 0, none⟩ = some (.pointer (some ⟨k, 0, none⟩)) := by
    have := (HT.out.block l (lt_of_block Y1.out) hlk).trans Y1.out
    exact cell_of_row w2 l 0 _ _ _ this
  have FIN : Hid (Changed S w l (qs.map (·.1)) n (.returned (.int .i64 0)) (w2.setCell ⟨k, 1, none⟩ (.int .i64 (n : Int)))) := by
    have hL2 : LogAt (Grows S w1.drew w2) w2 l k base' v' (ps.take c ++ rs) c := (H1.out.keep (Kept.drew _ _)).put (HT.out.block l (lt_of_block Y1.out) hlk) HP.out
    have hlen : (ps.take c ++ rs).length = qs.length := by
      have h1 : rs.length = (qs.drop c).length := by have := congrArg List.length HRS.out; simpa using this
      rw [List.length_append, h1]
      simp
      omega
    have hL3 := hL2.commits (c' := n) (by omega)
    have hsz : w.heap.size ≤ w1.heap.size := L1.out.size
    have hsz2 : w1.heap.size ≤ w2.heap.size := HT.out.size
    have e1 : (w2.setCell ⟨k, 1, none⟩ (.int .i64 (n : Int))).heap.size = w2.heap.size := by simp [World.setCell]
    refine ⟨k, base', v', _, rfl, ?_, hL3.mono fun i hi => ?_, ?_⟩
    · rw [List.map_append, HRS.out, List.map_take, ← HPP.out, List.map_drop, List.take_append_drop]
    · rcases hi with hi | ⟨h1, h2⟩
      · exact .inl hi
      · have h1' : w1.heap.size ≤ i := h1
        exact .inr ⟨by omega, by omega⟩
    · have hT1 : Turned (fun i => i = k) w w2 := (Turned.of_below L1.out _).trans ((Turned.drewN _ _ 1).trans HT.out)
      exact (hT1.trans (Turned.of_grown (grown_set w2 k 1 _) fun g e => (Option.some.inj e).symm)).mono fun i e => by rw [e]; exact H.out.parts.inn.1
  clear HP HT HRS H1 HTL HSM HPP C3
  go_wp2
  all_goals (go_ret; exact FIN.out)
end
end Go.Proofs.YtaiegmhlgjogmaaGreat.Ol
/- tell of package oplog, with its closures: Commit, At, Since. -/
namespace Go.Proofs.YtaiegmhlgjogmaaGreat.Ol
open Go.RowKit

/-- How many are committed behind Commit(n). -/
def comTo (c len : Nat) (n : Int) : Nat := max c (min n.toNat len)
theorem comTo_int (c len : Nat) (n : Int) : ((comTo c len n : Nat) : Int) = max (c : Int) (min n (len : Int)) := by unfold comTo; omega
theorem comTo_le (c len : Nat) (n : Int) (h : c ≤ len) : comTo c len n ≤ len ∧ c ≤ comTo c len n := by unfold comTo; omega
/-- Behind which one Since(n) begins. -/
def fromOf (len : Nat) (n : Int) : Nat := min n.toNat len
theorem fromOf_int (len : Nat) (n : Int) : ((fromOf len n : Nat) : Int) = min (max n 0) (len : Int) := by unfold fromOf; omega
theorem fromOf_le (len : Nat) (n : Int) : fromOf len n ≤ len := by unfold fromOf; omega

section
variable {S F : Nat → Prop} {l k base c : Nat} {v : Value} {ps : List (OpD × Value)}
theorem own_low {w : World} {base base' e n : Nat} {v : Value} {xs : List Value} (h : w.ownsRow base e 10 v n xs) (hb : base' ≤ base) : w.ownsRow base' e 10 v n xs := by
  refine ⟨h.1, ?_⟩
  rcases h.2 with h0 | ⟨g, cap, cur, hv, h1, h2⟩
  · exact .inl h0
  · exact .inr ⟨g, cap, cur, hv, Nat.le_trans hb h1, h2⟩
/-- What a closure hands back: operations of the log; what is committed may have risen. -/
def Asked (Z S : Nat → Prop) (w : World) (l k base : Nat) (v : Value) (ps : List (OpD × Value)) (c' : Nat) (qs : List (OpD × Value)) (e : Ending) (w' : World) : Prop :=
  ∃ v', e = .returned v' ∧ OpsIn S w' v' qs ∧ LogAt S w' l k base v ps c' ∧ Turned Z w w'
/-- What tell hands back. -/
def Told (Z S : Nat → Prop) (w : World) (l k base : Nat) (v : Value) (ps : List (OpD × Value)) (c' : Nat) (qs : List (OpD × Value)) (e : Ending) (w' : World) : Prop :=
  ∃ v' rs, e = .returned v' ∧ rs.map (·.1) = qs.map (·.1) ∧ OpsFree (w.heap.size ≤ ·) w' v' rs ∧ w'.ownsRow w.heap.size 33 10 v' rs.length (opcells rs) ∧ LogAt S w' l k base v ps c' ∧ Turned Z w w'

set_option maxHeartbeats 1000000 in
theorem commit_closure (n : Int) (b : Nat) (w : World) (h : LogAt S w l k base v ps c) (hb : w.heap[b]? = some (.cells #[.int .i64 n] 3 (0, 0))) :
    Calls Tryz.prog 174 #[.pointer (some ⟨k, 0, none⟩), .pointer (some ⟨b, 0, none⟩)] w (Asked (fun i => i = k) S w l k base v ps (comTo c ps.length n) ((ps.take (comTo c ps.length n)).drop c)) := by
  obtain ⟨A, cp, rfl, h1, h2⟩ := h.parts.shape
  obtain ⟨k0, k1, _, kf⟩ := h.parts.cells
  have b0 : w.cell? ⟨b, 0, none⟩ = some (.int .i64 n) := cell_of_row w b 0 _ _ _ hb
  obtain ⟨hc1, hc2⟩ := comTo_le c ps.length n h.parts.com
  have hcv := comTo_int c ps.length n
  generalize comTo c ps.length n = c' at hc1 hc2 hcv ⊢
  have HC := hide hcv.symm
  have H2 : Hid (LogAt S (w.setCell ⟨k, 1, none⟩ (.int .i64 (c' : Int))).drew l k base (.slice A ps.length cp) ps c') := (h.commits hc1).keep (Kept.drew _ _)
  have HT : Hid (Turned (fun i => i = k) w (w.setCell ⟨k, 1, none⟩ (.int .i64 (c' : Int))).drew) := (Turned.of_grown (grown_set w k 1 _) fun g e => (Option.some.inj e).symm).trans (Turned.drewN _ _ 1)
  have C := hide (part_any c c' _ H2.out.parts hc2 hc1)
  generalize (ps.take c').drop c = qs at C ⊢
  clear h hcv hc1 hc2
  go_enter Tryz.func174, Tryz.ntmps174
  go_wp2
  go_region
  rw [HC.out]
  go_wp2_with (fail)
  refine C.out.mono ?_
  rintro e w1 ⟨v1, rfl, ho, rfl⟩
  obtain ⟨A1, c1, rfl, _, _, _⟩ := ho.1.shape
  have HO := hide ho
  clear ho C
  go_wp2
  go_ret
  exact ⟨_, rfl, HO.out, H2.out, HT.out⟩

set_option maxHeartbeats 1000000 in
theorem since_closure (n : Int) (b : Nat) (w : World) (h : LogAt S w l k base v ps c) (hb : w.heap[b]? = some (.cells #[.int .i64 n] 3 (0, 0))) :
    Calls Tryz.prog 95 #[.pointer (some ⟨k, 0, none⟩), .pointer (some ⟨b, 0, none⟩)] w (Asked (fun _ => False) S w l k base v ps c (ps.drop (fromOf ps.length n))) := by
  obtain ⟨A, cp, rfl, h1, h2⟩ := h.parts.shape
  obtain ⟨k0, k1, _, kf⟩ := h.parts.cells
  have b0 : w.cell? ⟨b, 0, none⟩ = some (.int .i64 n) := cell_of_row w b 0 _ _ _ hb
  have hF := fromOf_le ps.length n
  have hfv := fromOf_int ps.length n
  generalize fromOf ps.length n = m at hF hfv ⊢
  have HC := hide hfv.symm
  have H := hide h
  have C := hide (part_any m ps.length w h.parts hF (Nat.le_refl _))
  rw [List.take_length] at C
  generalize ps.drop m = qs at C ⊢
  clear h hfv hF
  go_enter Tryz.func95, Tryz.ntmps95
  go_wp2_with (fail)
  rw [HC.out]
  refine C.out.mono ?_
  rintro e w1 ⟨v1, rfl, ho, rfl⟩
  obtain ⟨A1, c1, rfl, _, _, _⟩ := ho.1.shape
  have HO := hide ho
  clear ho C
  go_wp2
  go_ret
  exact ⟨_, rfl, HO.out, H.out, Turned.refl _ _⟩

set_option maxHeartbeats 1000000 in
theorem at_closure_no (n : Int) (b : Nat) (w : World) (h : LogAt S w l k base v ps c) (hb : w.heap[b]? = some (.cells #[.int .i64 n] 3 (0, 0))) (hn : n < 1 ∨ (ps.length : Int) < n) :
    Calls Tryz.prog 99 #[.pointer (some ⟨k, 0, none⟩), .pointer (some ⟨b, 0, none⟩)] w (Asked (fun _ => False) S w l k base v ps c []) := by
  obtain ⟨A, cp, rfl, h1, h2⟩ := h.parts.shape
  obtain ⟨k0, k1, _, kf⟩ := h.parts.cells
  have b0 : w.cell? ⟨b, 0, none⟩ = some (.int .i64 n) := cell_of_row w b 0 _ _ _ hb
  have H := hide h
  clear h
  by_cases e1 : n < 1
  · clear hn
    go_enter Tryz.func99, Tryz.ntmps99
    go_wp2
    go_quiet (fail)
    go_wp2
    go_ret
    exact ⟨_, rfl, ⟨FlatAt.nil_ _ _ 10, by simp⟩, H.out.keep (Kept.drewN _ _ _), Turned.drewN _ _ _⟩
  · have e2 : (ps.length : Int) < n := by omega
    clear hn
    go_enter Tryz.func99, Tryz.ntmps99
    go_wp2
    go_quiet (fail)
    go_wp2
    go_ret
    exact ⟨_, rfl, ⟨FlatAt.nil_ _ _ 10, by simp⟩, H.out.keep (Kept.drewN _ _ _), Turned.drewN _ _ _⟩
set_option maxHeartbeats 1000000 in
theorem at_closure_yes (n : Nat) (x : Int) (b : Nat) (w : World) (h : LogAt S w l k base v ps c) (hb : w.heap[b]? = some (.cells #[.int .i64 x] 3 (0, 0))) (hx : x = (n : Int) + 1) (hn : n < ps.length) :
    Calls Tryz.prog 99 #[.pointer (some ⟨k, 0, none⟩), .pointer (some ⟨b, 0, none⟩)] w (Asked (fun _ => False) S w l k base v ps c ((ps.take (n + 1)).drop n)) := by
  obtain ⟨A, cp, rfl, h1, h2⟩ := h.parts.shape
  obtain ⟨k0, k1, _, kf⟩ := h.parts.cells
  have b0 : w.cell? ⟨b, 0, none⟩ = some (.int .i64 x) := cell_of_row w b 0 _ _ _ hb
  have hl := h.parts.len
  have H := hide h
  have C : Hid (∀ q, Calls Tryz.prog 96 #[.pointer (some ⟨k, 0, none⟩), .int .i64 (x - 1), .int .i64 x] (w.drewN q) fun e w' => ∃ v', e = .returned v' ∧ OpsIn S (w.drewN q) v' ((ps.take (n + 1)).drop n) ∧ w.drewN q = w') := fun q => by
    have := part_any n (n + 1) (w.drewN q) (h.keep (Kept.drewN _ _ _)).parts (by omega) (by omega)
    rw [show ((n + 1 : Nat) : Int) = x from by omega, show (n : Int) = x - 1 from by omega] at this
    exact this
  generalize (ps.take (n + 1)).drop n = qs at C ⊢
  have t1 : ¬ x < 1 := by omega
  have t2 : ¬ (ps.length : Int) < x := by omega
  have t3 : x ≤ 2000 := by omega
  clear h hx hn
  go_enter Tryz.func99, Tryz.ntmps99
  go_wp2
  go_quiet (fail)
  go_wp2_with (fail)
  refine (C.out _).mono ?_
  rintro e w1 ⟨v1, rfl, ho, rfl⟩
  obtain ⟨A1, c1, rfl, _, _, _⟩ := ho.1.shape
  have HO := hide ho
  clear ho C
  go_wp2
  go_ret
  exact ⟨_, rfl, HO.out, H.out.keep (Kept.drewN _ _ _), Turned.drewN _ _ _⟩
end
end Go.Proofs.YtaiegmhlgjogmaaGreat.Ol
/- tell of package oplog, at its three closures. -/
namespace Go.Proofs.YtaiegmhlgjogmaaGreat.Ol
open Go.RowKit

section
variable {S F : Nat → Prop} {l k base c : Nat} {v : Value} {ps : List (OpD × Value)}
set_option maxHeartbeats 1000000 in
theorem tell_commit (n : Int) (b : Nat) (w : World) (h : LogAt S w l k base v ps c) (hb : w.heap[b]? = some (.cells #[.int .i64 n] 3 (0, 0))) :
    Calls Tryz.prog 94 #[.pointer (some ⟨l, 0, none⟩), .func (.func 174) #[] #[.pointer (some ⟨b, 0, none⟩)]] w (Told (fun i => i = k) S w l k base v ps (comTo c ps.length n) ((ps.take (comTo c ps.length n)).drop c)) := by
  have C0 := hide (made_yes w h)
  have c0 := h.lcell
  have C := hide (commit_closure n b w h hb)
  have hsm : ∀ q ∈ ((ps.take (comTo c ps.length n)).drop c), q.1.steps.length ≤ 1000000 := fun q hq => h.parts.small q (List.mem_of_mem_take (List.mem_of_mem_drop hq))
  have hln : (((ps.take (comTo c ps.length n)).drop c)).length ≤ 1000000 := by have := h.parts.len; simp; try omega
  generalize ((ps.take (comTo c ps.length n)).drop c) = qs at C hsm hln ⊢
  have HS := hide hsm
  have HL := hide hln
  have HW := hide h
  clear h hsm hln hb
  go_enter Tryz.func94, Tryz.ntmps94
  go_wp2_with (fail)
  refine C0.out.mono ?_
  rintro e w1 ⟨rfl, rfl⟩
  go_wp2_with (fail)
  refine C.out.mono ?_
  rintro e w1 ⟨v1, rfl, ho, hl1, ht⟩
  have C2 := hide (copies_own S _ v1 w1 ho HL.out HS.out)
  obtain ⟨A1, c1, rfl, _, _, _⟩ := ho.1.shape
  have H1 := hide hl1
  have HT := hide ht
  clear ho C hl1 ht
  go_wp2_with (fail)
  refine C2.out.mono ?_
  rintro e w2 ⟨v2, rs, rfl, hsame, hfree, hown, hb2⟩
  obtain ⟨A2, c2, rfl, _, _, _⟩ := hfree.ops.1.shape
  have HF := hide hfree
  have HB := hide hb2
  have HSA := hide hsame
  have HOW := hide hown
  clear hfree hb2 hsame hown C2
  go_wp2
  go_ret
  exact ⟨_, rs, rfl, HSA.out, HF.out.mono fun i _ hf => Nat.le_trans HT.out.size hf, own_low HOW.out HT.out.size, H1.out.later HB.out, HT.out.trans (Turned.of_below HB.out _)⟩

set_option maxHeartbeats 1000000 in
theorem tell_since (n : Int) (b : Nat) (w : World) (h : LogAt S w l k base v ps c) (hb : w.heap[b]? = some (.cells #[.int .i64 n] 3 (0, 0))) :
    Calls Tryz.prog 94 #[.pointer (some ⟨l, 0, none⟩), .func (.func 95) #[] #[.pointer (some ⟨b, 0, none⟩)]] w (Told (fun _ => False) S w l k base v ps c (ps.drop (fromOf ps.length n))) := by
  have C0 := hide (made_yes w h)
  have c0 := h.lcell
  have C := hide (since_closure n b w h hb)
  have hsm : ∀ q ∈ (ps.drop (fromOf ps.length n)), q.1.steps.length ≤ 1000000 := fun q hq => h.parts.small q (List.mem_of_mem_drop hq)
  have hln : ((ps.drop (fromOf ps.length n))).length ≤ 1000000 := by have := h.parts.len; simp; try omega
  generalize (ps.drop (fromOf ps.length n)) = qs at C hsm hln ⊢
  have HS := hide hsm
  have HL := hide hln
  have HW := hide h
  clear h hsm hln hb
  go_enter Tryz.func94, Tryz.ntmps94
  go_wp2_with (fail)
  refine C0.out.mono ?_
  rintro e w1 ⟨rfl, rfl⟩
  go_wp2_with (fail)
  refine C.out.mono ?_
  rintro e w1 ⟨v1, rfl, ho, hl1, ht⟩
  have C2 := hide (copies_own S _ v1 w1 ho HL.out HS.out)
  obtain ⟨A1, c1, rfl, _, _, _⟩ := ho.1.shape
  have H1 := hide hl1
  have HT := hide ht
  clear ho C hl1 ht
  go_wp2_with (fail)
  refine C2.out.mono ?_
  rintro e w2 ⟨v2, rs, rfl, hsame, hfree, hown, hb2⟩
  obtain ⟨A2, c2, rfl, _, _, _⟩ := hfree.ops.1.shape
  have HF := hide hfree
  have HB := hide hb2
  have HSA := hide hsame
  have HOW := hide hown
  clear hfree hb2 hsame hown C2
  go_wp2
  go_ret
  exact ⟨_, rs, rfl, HSA.out, HF.out.mono fun i _ hf => Nat.le_trans HT.out.size hf, own_low HOW.out HT.out.size, H1.out.later HB.out, HT.out.trans (Turned.of_below HB.out _)⟩

set_option maxHeartbeats 1000000 in
theorem tell_at_yes (n : Nat) (x : Int) (b : Nat) (w : World) (h : LogAt S w l k base v ps c) (hb : w.heap[b]? = some (.cells #[.int .i64 x] 3 (0, 0))) (hx : x = (n : Int) + 1) (hn : n < ps.length) :
    Calls Tryz.prog 94 #[.pointer (some ⟨l, 0, none⟩), .func (.func 99) #[] #[.pointer (some ⟨b, 0, none⟩)]] w (Told (fun _ => False) S w l k base v ps c ((ps.take (n + 1)).drop n)) := by
  have C0 := hide (made_yes w h)
  have c0 := h.lcell
  have C := hide (at_closure_yes n x b w h hb hx hn)
  have hsm : ∀ q ∈ ((ps.take (n + 1)).drop n), q.1.steps.length ≤ 1000000 := fun q hq => h.parts.small q (List.mem_of_mem_take (List.mem_of_mem_drop hq))
  have hln : (((ps.take (n + 1)).drop n)).length ≤ 1000000 := by have := h.parts.len; simp; try omega
  generalize ((ps.take (n + 1)).drop n) = qs at C hsm hln ⊢
  have HS := hide hsm
  have HL := hide hln
  have HW := hide h
  clear h hsm hln hb
  go_enter Tryz.func94, Tryz.ntmps94
  go_wp2_with (fail)
  refine C0.out.mono ?_
  rintro e w1 ⟨rfl, rfl⟩
  go_wp2_with (fail)
  refine C.out.mono ?_
  rintro e w1 ⟨v1, rfl, ho, hl1, ht⟩
  have C2 := hide (copies_own S _ v1 w1 ho HL.out HS.out)
  obtain ⟨A1, c1, rfl, _, _, _⟩ := ho.1.shape
  have H1 := hide hl1
  have HT := hide ht
  clear ho C hl1 ht
  go_wp2_with (fail)
  refine C2.out.mono ?_
  rintro e w2 ⟨v2, rs, rfl, hsame, hfree, hown, hb2⟩
  obtain ⟨A2, c2, rfl, _, _, _⟩ := hfree.ops.1.shape
  have HF := hide hfree
  have HB := hide hb2
  have HSA := hide hsame
  have HOW := hide hown
  clear hfree hb2 hsame hown C2
  go_wp2
  go_ret
  exact ⟨_, rs, rfl, HSA.out, HF.out.mono fun i _ hf => Nat.le_trans HT.out.size hf, own_low HOW.out HT.out.size, H1.out.later HB.out, HT.out.trans (Turned.of_below HB.out _)⟩

set_option maxHeartbeats 1000000 in
theorem tell_at_no (n : Int) (b : Nat) (w : World) (h : LogAt S w l k base v ps c) (hb : w.heap[b]? = some (.cells #[.int .i64 n] 3 (0, 0))) (hn : n < 1 ∨ (ps.length : Int) < n) :
    Calls Tryz.prog 94 #[.pointer (some ⟨l, 0, none⟩), .func (.func 99) #[] #[.pointer (some ⟨b, 0, none⟩)]] w (Told (fun _ => False) S w l k base v ps c ([] : List (OpD × Value))) := by
  have C0 := hide (made_yes w h)
  have c0 := h.lcell
  have C := hide (at_closure_no n b w h hb hn)
  have hsm : ∀ q ∈ ([] : List (OpD × Value)), q.1.steps.length ≤ 1000000 := fun q hq => h.parts.small q (by cases hq)
  have hln : (([] : List (OpD × Value))).length ≤ 1000000 := by have := h.parts.len; simp; try omega
  generalize ([] : List (OpD × Value)) = qs at C hsm hln ⊢
  have HS := hide hsm
  have HL := hide hln
  have HW := hide h
  clear h hsm hln hb
  go_enter Tryz.func94, Tryz.ntmps94
  go_wp2_with (fail)
  refine C0.out.mono ?_
  rintro e w1 ⟨rfl, rfl⟩
  go_wp2_with (fail)
  refine C.out.mono ?_
  rintro e w1 ⟨v1, rfl, ho, hl1, ht⟩
  have C2 := hide (copies_own S _ v1 w1 ho HL.out HS.out)
  obtain ⟨A1, c1, rfl, _, _, _⟩ := ho.1.shape
  have H1 := hide hl1
  have HT := hide ht
  clear ho C hl1 ht
  go_wp2_with (fail)
  refine C2.out.mono ?_
  rintro e w2 ⟨v2, rs, rfl, hsame, hfree, hown, hb2⟩
  obtain ⟨A2, c2, rfl, _, _, _⟩ := hfree.ops.1.shape
  have HF := hide hfree
  have HB := hide hb2
  have HSA := hide hsame
  have HOW := hide hown
  clear hfree hb2 hsame hown C2
  go_wp2
  go_ret
  exact ⟨_, rs, rfl, HSA.out, HF.out.mono fun i _ hf => Nat.le_trans HT.out.size hf, own_low HOW.out HT.out.size, H1.out.later HB.out, HT.out.trans (Turned.of_below HB.out _)⟩

theorem tell_no (p : Value) (f : Value) (w : World) (h : NoLog w p) : Calls Tryz.prog 94 #[p, f] w fun e w' => e = .returned (.slice none 0 0) ∧ w = w' := by
  have C := hide (made_no p w h)
  have hp : ∃ a, p = .pointer a := by rcases h with rfl | ⟨g, rfl, _⟩ <;> exact ⟨_, rfl⟩
  obtain ⟨a, rfl⟩ := hp
  clear h
  go_enter Tryz.func94, Tryz.ntmps94
  go_wp2_with (fail)
  refine C.out.mono ?_
  rintro e w1 ⟨rfl, rfl⟩
  go_wp2
  go_ret
  exact ⟨rfl, rfl⟩
end
end Go.Proofs.YtaiegmhlgjogmaaGreat.Ol
/- Commit, Since and At of package oplog. -/
namespace Go.Proofs.YtaiegmhlgjogmaaGreat.Ol
open Go.RowKit

section
variable {S F : Nat → Prop} {l k base c : Nat} {v : Value} {ps : List (OpD × Value)}
theorem boxed (n : Int) (w : World) : Below w.heap.size w (w.alloc (.cells #[.int .i64 n] 3 (0, 0))) ∧ (w.alloc (.cells #[.int .i64 n] 3 (0, 0))).heap[w.heap.size]? = some (.cells #[.int .i64 n] 3 (0, 0)) :=
  ⟨(Below.refl _ _).alloc (Nat.le_refl _) _, heap_alloc_new _ _⟩
set_option maxHeartbeats 1000000 in
theorem commit_yes (n : Int) (w : World) (h : LogAt S w l k base v ps c) :
    Calls Tryz.prog 145 #[.pointer (some ⟨l, 0, none⟩), .int .i64 n] w (Told (fun i => i = k) S w l k base v ps (comTo c ps.length n) ((ps.take (comTo c ps.length n)).drop c)) := by
  obtain ⟨hb, hx⟩ := boxed n w
  have hmf : ∀ (fn : Fn) (first cap : Array Value) (w : World), (Instr.makeFunc fn first cap).run Tryz.prog w = .ok (.func fn first cap) w := fun _ _ _ _ => rfl
  have C := hide (tell_commit n w.heap.size _ (h.later hb) hx)
  generalize (ps.take (comTo c ps.length n)).drop c = qs at C ⊢
  generalize comTo c ps.length n = c' at C ⊢
  have HB := hide hb
  clear h hb hx
  go_enter Tryz.func145, Tryz.ntmps145
  go_wp2_with (fail)
  refine C.out.mono ?_
  rintro e w2 ⟨v2, rs, rfl, hsame, hfree, hown, hl, ht⟩
  obtain ⟨A2, c2, rfl, _, _, _⟩ := hfree.ops.1.shape
  have HF := hide hfree
  have HL := hide hl
  have HT := hide ht
  have HSA := hide hsame
  have HOW := hide hown
  clear hfree hl ht hsame hown C
  go_wp2
  go_ret
  exact ⟨_, rs, rfl, HSA.out, HF.out.mono fun i _ hf => Nat.le_trans HB.out.size hf, own_low HOW.out HB.out.size, HL.out, (Turned.of_below HB.out _).trans HT.out⟩
set_option maxHeartbeats 1000000 in
theorem since_yes (n : Int) (w : World) (h : LogAt S w l k base v ps c) :
    Calls Tryz.prog 48 #[.pointer (some ⟨l, 0, none⟩), .int .i64 n] w (Told (fun _ => False) S w l k base v ps c (ps.drop (fromOf ps.length n))) := by
  obtain ⟨hb, hx⟩ := boxed n w
  have hmf : ∀ (fn : Fn) (first cap : Array Value) (w : World), (Instr.makeFunc fn first cap).run Tryz.prog w = .ok (.func fn first cap) w := fun _ _ _ _ => rfl
  have C := hide (tell_since n w.heap.size _ (h.later hb) hx)
  generalize ps.drop (fromOf ps.length n) = qs at C ⊢
  have HB := hide hb
  clear h hb hx
  go_enter Tryz.func48, Tryz.ntmps48
  go_wp2_with (fail)
  refine C.out.mono ?_
  rintro e w2 ⟨v2, rs, rfl, hsame, hfree, hown, hl, ht⟩
  obtain ⟨A2, c2, rfl, _, _, _⟩ := hfree.ops.1.shape
  have HF := hide hfree
  have HL := hide hl
  have HT := hide ht
  have HSA := hide hsame
  have HOW := hide hown
  clear hfree hl ht hsame hown C
  go_wp2
  go_ret
  exact ⟨_, rs, rfl, HSA.out, HF.out.mono fun i _ hf => Nat.le_trans HB.out.size hf, own_low HOW.out HB.out.size, HL.out, (Turned.of_below HB.out _).trans HT.out⟩
theorem commit_no (p : Value) (n : Int) (w : World) (h : NoLog w p) : Calls Tryz.prog 145 #[p, .int .i64 n] w fun e w' => e = .returned (.slice none 0 0) ∧ Below w.heap.size w w' := by
  obtain ⟨hb, hx⟩ := boxed n w
  have hmf : ∀ (fn : Fn) (first cap : Array Value) (w : World), (Instr.makeFunc fn first cap).run Tryz.prog w = .ok (.func fn first cap) w := fun _ _ _ _ => rfl
  have C := hide (fun f => tell_no p f _ (h.later hb))
  have hp : ∃ a, p = .pointer a := by rcases h with rfl | ⟨g, rfl, _⟩ <;> exact ⟨_, rfl⟩
  obtain ⟨a, rfl⟩ := hp
  have HB := hide hb
  clear h hb hx
  go_enter Tryz.func145, Tryz.ntmps145
  go_wp2_with (fail)
  refine (C.out _).mono ?_
  rintro e w2 ⟨rfl, rfl⟩
  go_wp2
  go_ret
  exact ⟨rfl, HB.out⟩
theorem since_no (p : Value) (n : Int) (w : World) (h : NoLog w p) : Calls Tryz.prog 48 #[p, .int .i64 n] w fun e w' => e = .returned (.slice none 0 0) ∧ Below w.heap.size w w' := by
  obtain ⟨hb, hx⟩ := boxed n w
  have hmf : ∀ (fn : Fn) (first cap : Array Value) (w : World), (Instr.makeFunc fn first cap).run Tryz.prog w = .ok (.func fn first cap) w := fun _ _ _ _ => rfl
  have C := hide (fun f => tell_no p f _ (h.later hb))
  have hp : ∃ a, p = .pointer a := by rcases h with rfl | ⟨g, rfl, _⟩ <;> exact ⟨_, rfl⟩
  obtain ⟨a, rfl⟩ := hp
  have HB := hide hb
  clear h hb hx
  go_enter Tryz.func48, Tryz.ntmps48
  go_wp2_with (fail)
  refine (C.out _).mono ?_
  rintro e w2 ⟨rfl, rfl⟩
  go_wp2
  go_ret
  exact ⟨rfl, HB.out⟩

/-- An operation that is none, and one. -/
def zOp : Array Value := (OpD.zero.cells (.slice none 0 0)).toArray
theorem zOp_one : ∀ u ∈ zOp.toList, u.oneCell' = true := by
  intro u hu
  exact OpD.zero.one rfl u (by simpa [zOp] using hu)
/-- What At hands back: no operation. -/
def NoOp (e : Ending) : Prop := e = .returned (.tuple #[.agg zOp, .bool false])

/-- The two worlds that At begins with. -/
theorem boxed2 (n : Int) (w : World) : ∃ W, W = (w.alloc (.cells #[.int .i64 n] 3 (0, 0))).alloc (.cells zOp 33 (0, 0)) ∧ Below w.heap.size w W ∧ W.heap[w.heap.size]? = some (.cells #[.int .i64 n] 3 (0, 0)) ∧ W.heap[w.heap.size + 1]? = some (.cells zOp 33 (0, 0)) :=
  ⟨_, rfl, ((Below.refl _ _).alloc (Nat.le_refl _) _).alloc (by simp) _, (heap_alloc_old _ _ (by simp)).trans (heap_alloc_new _ _), heap_at _ (by simp)⟩

set_option maxHeartbeats 1000000 in
set_option maxRecDepth 100000 in
theorem at_none (p : Value) (hp : ∃ a, p = .pointer a) (n : Int) (w : World) (R : World → Prop) (B : Nat → Prop)
    (C : ∀ W, Below w.heap.size w W → W.heap[w.heap.size]? = some (.cells #[.int .i64 n] 3 (0, 0)) → Calls Tryz.prog 94 #[p, .func (.func 99) #[] #[.pointer (some ⟨w.heap.size, 0, none⟩)]] W fun e w' => (∃ A c, e = .returned (.slice A 0 c)) ∧ R w' ∧ Turned B W w')
    (hR : ∀ a b, R a → a.grownBy b (some (w.heap.size + 1)) → R b) (hB : ∀ i, B i → i < w.heap.size) :
    Calls Tryz.prog 51 #[p, .int .i64 n] w fun e w' => NoOp e ∧ R w' ∧ Turned B w w' := by
  obtain ⟨W, hW, hb, hx, hz⟩ := boxed2 n w
  have hmf : ∀ (fn : Fn) (first cap : Array Value) (w : World), (Instr.makeFunc fn first cap).run Tryz.prog w = .ok (.func fn first cap) w := fun _ _ _ _ => rfl
  have C1 := hide (C W hb hx)
  have HB := hide hb
  have HZ := hide hz
  have HR := hide hR
  have HBB := hide hB
  obtain ⟨a, rfl⟩ := hp
  clear hb hx hz C hR hB
  unfold zOp OpD.cells at hW
  simp only [OpD.zero] at hW
  go_enter Tryz.func51, Tryz.ntmps51
  go_wp2_with (fail)
  rw [← hW]
  clear hW
  refine C1.out.mono ?_
  rintro e w2 ⟨⟨A2, c2, rfl⟩, hr, ht⟩
  have hz2 : Hid (w2.heap[w.heap.size + 1]? = some (.cells zOp 33 (0, 0))) := (ht.block _ (lt_of_block HZ.out) (fun e => by have := HBB.out _ e; omega)).trans HZ.out
  have HT := hide ht
  have HRR := hide hr
  clear ht hr C1
  go_wp2_with (refine wpList_store_box (by rfl) 33 _ _ (by rfl) (w.heap.size + 1) 0 zOp (by rfl) (by rfl) 33 zOp hz2.out (by kernel_rfl) (by exact Nat.le_refl 10) (by exact zOp_one) ?_; intro w3 hb3 hg3)
  have hb4 : w3.heap[w.heap.size + 1]? = some (.cells zOp 33 (0, 0)) := by simpa [putAt, zOp, OpD.cells] using hb3
  refine bodyPost_ret (results_box2 Tryz.results51 _ _ (w.heap.size + 1) 33 _ _ (by rfl) hb4 Tryz.underlying33 (by rfl) (by kernel_rfl) _ (by rfl)) (by rfl) ⟨rfl, HR.out _ _ HRR.out hg3, ?_⟩
  have h1 := (Turned.of_below HB.out B).trans HT.out
  refine ⟨hg3.os.trans h1.os, hg3.tape.trans h1.tape, hg3.output.trans h1.output, Nat.le_trans h1.size hg3.size, fun i hi hn => (hg3.block i (Nat.lt_of_lt_of_le hi h1.size) (fun e => by have := Option.some.inj e; omega)).trans (h1.block i hi hn)⟩
end
end Go.Proofs.YtaiegmhlgjogmaaGreat.Ol
/- At of package oplog. -/
namespace Go.Proofs.YtaiegmhlgjogmaaGreat.Ol
open Go.RowKit

section
variable {S F : Nat → Prop} {l k base c : Nat} {v : Value} {ps : List (OpD × Value)}
theorem at_no (p : Value) (n : Int) (w : World) (h : NoLog w p) : Calls Tryz.prog 51 #[p, .int .i64 n] w fun e w' => NoOp e ∧ Below w.heap.size w w' := by
  have hp : ∃ a, p = .pointer a := by rcases h with rfl | ⟨g, rfl, _⟩ <;> exact ⟨_, rfl⟩
  refine (at_none p hp n w (fun _ => True) (fun _ => False) (fun W hb hx => (tell_no p _ W (h.later hb)).mono fun e w' ⟨he, hw⟩ => ⟨⟨none, 0, he⟩, trivial, by rw [← hw]; exact Turned.refl _ _⟩) (fun _ _ _ _ => trivial) (fun i hi => hi.elim)).mono fun e w' ⟨h1, _, h2⟩ => ⟨h1, h2.below (fun i hi => hi.elim) (Nat.le_refl _)⟩
theorem at_out (n : Int) (w : World) (h : LogAt S w l k base v ps c) (hn : n < 1 ∨ (ps.length : Int) < n) :
    Calls Tryz.prog 51 #[.pointer (some ⟨l, 0, none⟩), .int .i64 n] w fun e w' => NoOp e ∧ LogAt S w' l k base v ps c ∧ Turned (fun _ => False) w w' := by
  refine (at_none _ ⟨_, rfl⟩ n w (fun w' => LogAt (fun i => S i ∧ i < w.heap.size) w' l k base v ps c) (fun _ => False) (fun W hb hx => ?_) (fun a b hr hg => hr.keep (Kept.of_grown hg fun g e hf => by have := Option.some.inj e; omega)) (fun i hi => hi.elim)).mono fun e w' ⟨h1, h2, h3⟩ => ⟨h1, h2.mono fun i hi => hi.1, h3⟩
  have h0 : LogAt (fun i => S i ∧ i < w.heap.size) w l k base v ps c :=
    ⟨h.cell, ⟨h.parts.kept, h.parts.own, fun p hp => (h.parts.steps p hp).mono fun i hi hf => ⟨⟨hf.1, hi⟩, hf.2⟩, ⟨⟨h.parts.inn.1, lt_of_block h.parts.kept⟩, fun q e => ⟨h.parts.inn.2 q e, own_in h.parts.own q e⟩⟩, h.parts.com, h.parts.len, h.parts.small, h.parts.base⟩, ⟨h.inn, lt_of_block h.cell⟩⟩
  refine (tell_at_no n w.heap.size W (h0.later hb) hx hn).mono fun e w' ⟨v', rs, he, hs, hf, _, hl, ht⟩ => ?_
  have hrs : rs = [] := by simpa using hs
  subst hrs
  obtain ⟨A2, c2, rfl, _, _, _⟩ := hf.ops.1.shape
  exact ⟨⟨A2, c2, he⟩, hl, ht⟩

/-- What At hands back: an operation, its steps in new memory. -/
def OneOp (w : World) (o : OpD) (e : Ending) (w' : World) : Prop := ∃ s, e = .returned (.tuple #[.agg (o.cells s).toArray, .bool true]) ∧ StepsAt (w.heap.size ≤ ·) w' s o.steps

set_option maxHeartbeats 1000000 in
set_option maxRecDepth 100000 in
theorem at_yes (n : Nat) (x : Int) (o : OpD) (w : World) (h : LogAt S w l k base v ps c) (hx : x = (n : Int) + 1) (ho : (ps.map (·.1))[n]? = some o) :
    Calls Tryz.prog 51 #[.pointer (some ⟨l, 0, none⟩), .int .i64 x] w fun e w' => OneOp w o e w' ∧ LogAt S w' l k base v ps c ∧ Turned (fun _ => False) w w' := by
  have hn : n < ps.length := by simpa using (List.getElem?_eq_some_iff.1 ho).1
  obtain ⟨W, hW, hb, hx1, hz⟩ := boxed2 x w
  have hmf : ∀ (fn : Fn) (first cap : Array Value) (w : World), (Instr.makeFunc fn first cap).run Tryz.prog w = .ok (.func fn first cap) w := fun _ _ _ _ => rfl
  have h0 : LogAt (fun i => S i ∧ i < w.heap.size) w l k base v ps c :=
    ⟨h.cell, ⟨h.parts.kept, h.parts.own, fun p hp => (h.parts.steps p hp).mono fun i hi hf => ⟨⟨hf.1, hi⟩, hf.2⟩, ⟨⟨h.parts.inn.1, lt_of_block h.parts.kept⟩, fun q e => ⟨h.parts.inn.2 q e, own_in h.parts.own q e⟩⟩, h.parts.com, h.parts.len, h.parts.small, h.parts.base⟩, ⟨h.inn, lt_of_block h.cell⟩⟩
  have C1 := hide (tell_at_yes n x w.heap.size W (h0.later hb) hx1 hx hn)
  have hq : ((ps.take (n + 1)).drop n).map (·.1) = [o] := by
    have h1 : (ps.take (n + 1)).drop n = [ps[n]] := by
      rw [List.take_succ_eq_append_getElem hn, List.drop_left' (List.length_take_of_le (by omega))]
    rw [h1]
    rw [List.getElem?_map, List.getElem?_eq_getElem hn] at ho
    simpa using ho
  generalize (ps.take (n + 1)).drop n = qs at C1 hq
  have hkw := lt_of_block h.parts.kept
  have HB := hide hb
  have HZ := hide hz
  have HQ := hide hq
  clear hb hx1 hz h h0 hx ho hn hq
  unfold zOp OpD.cells at hW
  simp only [OpD.zero] at hW
  go_enter Tryz.func51, Tryz.ntmps51
  go_wp2_with (fail)
  rw [← hW]
  clear hW
  refine C1.out.mono ?_
  rintro e w2 ⟨v2, rs, rfl, hsame, hfree, _, hl, ht⟩
  obtain ⟨s, rfl⟩ : ∃ s, rs = [(o, s)] := by
    rw [HQ.out] at hsame
    rcases rs with _ | ⟨⟨o1, s1⟩, _ | ⟨r2, rest⟩⟩
    · simp at hsame
    · simp at hsame
      exact ⟨s1, by rw [hsame]⟩
    · simp at hsame
  obtain ⟨o', s', b, off, c2, hr0, rfl, _, hbF, hbl, hr, hst⟩ := hfree.ops.at_ (i := 0) (by simp)
  obtain ⟨rfl, rfl⟩ : o = o' ∧ s = s' := by simpa using hr0
  have hz2 : Hid (w2.heap[w.heap.size + 1]? = some (.cells zOp 33 (0, 0))) := (ht.block _ (lt_of_block HZ.out) id).trans HZ.out
  have HT := hide ht
  have HL := hide hl
  have HST := hide hst
  have HR := hide hr
  have hbW : W.heap.size ≤ b := hbF
  clear hfree hl ht hsame hr hst hr0 C1
  simp only [List.length_singleton]
  go_wp2_with (first
    | (refine wpList_load_mid (by rfl) 33 _ (by rfl) b (off + 0 * 10) (by first | rfl | simp) _ _ HR.out Tryz.underlying33 (by rfl) (by kernel_rfl) ?_)
    | (refine wpList_store_box (by rfl) 33 _ _ (by rfl) (w.heap.size + 1) 0 (o.cells s).toArray (by rfl) (by rfl) 33 zOp hz2.out (by kernel_rfl) (by exact Nat.le_refl 10) (by exact o.one (FlatAt.oneCell HST.out)) ?_; intro w3 hb3 hg3))
  have hb4 : w3.heap[w.heap.size + 1]? = some (.cells (o.cells s).toArray 33 (0, 0)) := by simpa [putAt, zOp, OpD.cells] using hb3
  have hzW : w.heap.size + 1 < W.heap.size := lt_of_block HZ.out
  refine bodyPost_ret (results_box2 Tryz.results51 _ _ (w.heap.size + 1) 33 _ _ (by rfl) hb4 Tryz.underlying33 (by rfl) (by kernel_rfl) _ (by rfl)) (by rfl) ⟨⟨s, rfl, ?_⟩, ?_, ?_⟩
  · exact (HST.out.kept (Kept.of_grown hg3 fun g e hf => by have := Option.some.inj e; have hf' : W.heap.size ≤ g := hf; omega)).mono fun i _ hf => Nat.le_trans HB.out.size hf
  · exact (HL.out.keep (Kept.of_grown hg3 fun g e hf => by have := Option.some.inj e; have := hf.2; omega)).mono fun i hi => hi.1
  · have h1 := (Turned.of_below HB.out (fun _ => False)).trans HT.out
    exact ⟨hg3.os.trans h1.os, hg3.tape.trans h1.tape, hg3.output.trans h1.output, Nat.le_trans h1.size hg3.size, fun i hi hn => (hg3.block i (Nat.lt_of_lt_of_le hi h1.size) (fun e => by have := Option.some.inj e; omega)).trans (h1.block i hi hn)⟩
end
end Go.Proofs.YtaiegmhlgjogmaaGreat.Ol
/- As text OrderS, over whatever relation of worlds that goes on: operations that are no writers leave a world of that relation. -/
namespace Go.Proofs.YtaiegmhlgjogmaaGreat
open Go.RowKit

section
variable {P : Program} {ops : Array Oper} {Q : Exit → Act → World → Prop} {md : Region.Mode} {S : Nat → Bool} {R : World → World → Prop}

/-- Whatever order is picked from here on; behind each operation that is no writer the world is a later one. -/
def wpAnyV (R : World → World → Prop) (S : Nat → Bool) (P : Program) (md : Region.Mode) (ops : Array Oper) (Q : Exit → Act → World → Prop) : Nat → Array Bool → Act → World → Prop
  | 0, listed, a, w => Region.ready md ops listed = [] ∧ Q .normal a w
  | fuel + 1, listed, a, w =>
    (Region.ready md ops listed = [] → Q .normal a w) ∧
    ∀ i ∈ Region.ready md ops listed, wpOp P ops Q i (fun a' w' => (S i = false → R w w') ∧ wpAnyV R S P md ops Q fuel (listed.setIfInBounds i true) a' w') a w

theorem wpAny_of_V : ∀ (fuel : Nat) (listed : Array Bool) (a : Act) (w : World), wpAnyV R S P md ops Q fuel listed a w → wpAny P md ops Q fuel listed a w
  | 0, _, _, _, h => h
  | fuel + 1, _, _, _, h => ⟨h.1, fun i hi => wpOp_mono (fun a' w' h' => wpAny_of_V fuel _ a' w' h'.2) (h.2 i hi)⟩

/-- Such an operation, if it may come up, may come up at once. -/
theorem wpAnyV_first (hR : Pre R) (T : World → World → Prop) (hT : Pre T) {i : Nat} {oi : Oper} {v : Value} (hi : ops[i]? = some oi) (hsel : ∀ (j : Nat) (o : Oper) cs b, ops[j]? = some o → o.op ≠ .select cs b)
    (hQ : ∀ c a w, Q (.panic c) (a.put oi.dst v) w → Q (.panic c) a w)
    (hst : ∀ (listed : Array Bool) (j : Nat), Closed md ops listed → i ∈ Region.ready md ops listed → j ∈ Region.ready md ops listed → ∀ w w' : World, (S j = false → R w w') → T w w') :
    ∀ (fuel : Nat) (listed : Array Bool) (a : Act) (w : World), Closed md ops listed →
      (∀ j oj, ops[j]? = some oj → j ≠ i → listed.getD j true = false → (∀ e ∈ oj.after, Region.binds md e = true → e.on ≠ i) → oi.apart ops oj = true) →
      i ∈ Region.ready md ops listed → YieldsIf P ops (T w) oi v a →
      wpAnyV R S P md ops Q fuel (listed.setIfInBounds i true) (a.put oi.dst v) w → wpAnyV R S P md ops Q (fuel + 1) listed a w := by
  intro fuel
  induction fuel with
  | zero =>
    intro listed a w _ _ hr hy H
    refine ⟨fun h => (by rw [h] at hr; cases hr), fun j hj => ?_⟩
    by_cases hji : j = i
    · subst hji
      exact hy.wpOp hi (hT.1 w) ⟨fun _ => hR.1 w, H⟩
    · have := ready_mono hj hji
      rw [H.1] at this
      cases this
  | succ fuel ih =>
    intro listed a w hcl hfree hr hy H
    refine ⟨fun h => (by rw [h] at hr; cases hr), fun j hj => ?_⟩
    by_cases hji : j = i
    · subst hji
      exact hy.wpOp hi (hT.1 w) ⟨fun _ => hR.1 w, H⟩
    · have h1 := H.2 j (ready_mono hj hji)
      obtain ⟨hjun, oj, hoj, hall⟩ := mem_ready.1 hj
      have hnot : ∀ e ∈ oj.after, Region.binds md e = true → e.on ≠ i := fun e he hb heq => by
        have q1 := hall e he hb
        have q0 := (mem_ready.1 hr).1
        rw [heq] at q1
        rcases Nat.lt_or_ge i listed.size with h' | h'
        · simp [h'] at q0 q1
          rw [q0] at q1
          cases q1
        · simp [Array.getElem?_eq_none h'] at q1
      have h2 := wpOp_putIf hoj (hfree j oj hoj hji hjun hnot) (fun cs b => hsel i oi cs b hi) (fun cs b => hsel j oj cs b hoj) hQ hy h1
      have hfree' : ∀ k ok, ops[k]? = some ok → k ≠ i → (listed.setIfInBounds j true).getD k true = false →
          (∀ e ∈ ok.after, Region.binds md e = true → e.on ≠ i) → oi.apart ops ok = true := fun k ok hk hki hun hno => by
        refine hfree k ok hk hki ?_ hno
        by_cases hjk : j = k
        · subst hjk; exact hjun
        · rw [getD_set_ne true hjk] at hun; exact hun
      refine wpOp_mono (fun a' w' h3 => ⟨h3.2.1, ih (listed.setIfInBounds j true) a' w' (hcl.next hj) hfree' (ready_mono hr (Ne.symm hji)) (yields_rel h3.1 hT (hst listed j hcl hr hj w w' h3.2.1)) ?_⟩) h2
      rw [Array.setIfInBounds_comm _ _ hji]
      exact h3.2.2

/-- The moves: an operation that all writers wait for; one that reads no memory; one that is not wanted; the one that must; a writer; the end; the beginning. -/
theorem wpAnyV_take (hR : Pre R) {i : Nat} {oi : Oper} {d : Option Tmp} {v : Value} {fuel : Nat} {listed : Array Bool} {a : Act} {w : World} (hi : ops[i]? = some oi) (hd : oi.dst = d)
    (hs : Region.noSelect ops = true) (hcl : closedB md ops listed = true) (hwt : waited S md ops i = true) (hf : Region.free md ops listed i = true) (hr : (Region.ready md ops listed).contains i = true)
    (hQ : ∀ c a w, Q (.panic c) (a.put d v) w → Q (.panic c) a w) (hw : Region.wanted oi (yielded ops a.tmps) = true) (hy : ∀ w', R w w' → (execOp a.eval oi).run P w' = .ok (.value v) w')
    (h : wpAnyV R S P md ops Q fuel (listed.setIfInBounds i true) (a.put d v) w) : wpAnyV R S P md ops Q (fuel + 1) listed a w := by
  subst hd
  exact wpAnyV_first hR R hR hi (Region.noSelect_spec hs) hQ (fun _ _ hc h1 h2 _ _ hl => hl (waited_spec hwt hc h1 h2)) fuel listed a w (closed_spec hcl) (Region.free_spec hi hf) (by simpa using hr) (.inl ⟨hw, hy⟩) h
theorem wpAnyV_pure (hR : Pre R) {i : Nat} {oi : Oper} {d : Option Tmp} {v : Value} {fuel : Nat} {listed : Array Bool} {a : Act} {w : World} (hi : ops[i]? = some oi) (hd : oi.dst = d)
    (hs : Region.noSelect ops = true) (hcl : closedB md ops listed = true) (hf : Region.free md ops listed i = true) (hr : (Region.ready md ops listed).contains i = true)
    (hQ : ∀ c a w, Q (.panic c) (a.put d v) w → Q (.panic c) a w) (hw : Region.wanted oi (yielded ops a.tmps) = true) (hy : ∀ w', (execOp a.eval oi).run P w' = .ok (.value v) w')
    (h : wpAnyV R S P md ops Q fuel (listed.setIfInBounds i true) (a.put d v) w) : wpAnyV R S P md ops Q (fuel + 1) listed a w := by
  subst hd
  exact wpAnyV_first hR (fun _ _ => True) pre_all hi (Region.noSelect_spec hs) hQ (fun _ _ _ _ _ _ _ _ => trivial) fuel listed a w (closed_spec hcl) (Region.free_spec hi hf) (by simpa using hr) (.inl ⟨hw, fun w' _ => hy w'⟩) h
theorem wpAnyV_pass (hR : Pre R) {i : Nat} {oi : Oper} {d : Option Tmp} {fuel : Nat} {listed : Array Bool} {a : Act} {w : World} (hi : ops[i]? = some oi) (hd : oi.dst = d)
    (hs : Region.noSelect ops = true) (hcl : closedB md ops listed = true) (hf : Region.free md ops listed i = true) (hr : (Region.ready md ops listed).contains i = true)
    (hQ : ∀ c a w, Q (.panic c) (a.put d undef) w → Q (.panic c) a w) (hw : Region.wanted oi (yielded ops a.tmps) = false)
    (h : wpAnyV R S P md ops Q fuel (listed.setIfInBounds i true) (a.put d undef) w) : wpAnyV R S P md ops Q (fuel + 1) listed a w := by
  subst hd
  exact wpAnyV_first hR (fun _ _ => True) pre_all hi (Region.noSelect_spec hs) hQ (fun _ _ _ _ _ _ _ _ => trivial) fuel listed a w (closed_spec hcl) (Region.free_spec hi hf) (by simpa using hr) (.inr ⟨hw, rfl⟩) h
theorem wpAnyV_only (_ : Pre R) {i : Nat} {o : Oper} {fuel : Nat} {listed : Array Bool} {a : Act} {w : World} (ho : ops[i]? = some o) (hr : Region.ready md ops listed = [i]) (hw : Region.wanted o (yielded ops a.tmps) = true)
    (h : ∀ K' : Act → World → Prop, Hid (∀ a' w', R w w' → wpAnyV R S P md ops Q fuel (listed.setIfInBounds i true) a' w' → K' a' w') → Oper.wp P o a w K' Q) : wpAnyV R S P md ops Q (fuel + 1) listed a w := by
  refine ⟨fun h0 => absurd (hr ▸ h0) (by simp), fun j hj => ?_⟩
  rw [hr] at hj
  obtain rfl : j = i := by simpa using hj
  refine wpOp_step ho fun K' hK => ?_
  rw [if_pos hw]
  exact h K' fun a' w' hl hn => hK a' w' ⟨fun _ => hl, hn⟩
theorem wpAnyV_write {i : Nat} {o : Oper} {fuel : Nat} {listed : Array Bool} {a : Act} {w : World} (ho : ops[i]? = some o) (hS : S i = true) (hr : Region.ready md ops listed = [i]) (hw : Region.wanted o (yielded ops a.tmps) = true)
    (h : ∀ K' : Act → World → Prop, Hid (∀ a' w', wpAnyV R S P md ops Q fuel (listed.setIfInBounds i true) a' w' → K' a' w') → Oper.wp P o a w K' Q) : wpAnyV R S P md ops Q (fuel + 1) listed a w := by
  refine ⟨fun h0 => absurd (hr ▸ h0) (by simp), fun j hj => ?_⟩
  rw [hr] at hj
  obtain rfl : j = i := by simpa using hj
  refine wpOp_step ho fun K' hK => ?_
  rw [if_pos hw]
  exact h K' fun a' w' hn => hK a' w' ⟨(fun h0 => by rw [hS] at h0; cases h0), hn⟩
theorem wpAnyV_done {listed : Array Bool} {a : Act} {w : World} (hr : Region.ready md ops listed = []) (h : Q .normal a w) : ∀ fuel, wpAnyV R S P md ops Q fuel listed a w
  | 0 => ⟨hr, h⟩
  | _ + 1 => ⟨fun _ => h, by rw [hr]; simp⟩
theorem wp_region_V (R : World → World → Prop) (S : Nat → Bool) {id : Nat} {a : Act} {w : World} (hm : P.follows .mixedOrders = true)
    (h : wpAnyV R S P .any ops Q ops.size (Array.replicate ops.size false) a w.drew) : (Code.region id ops true).wp P Q a w :=
  wp_region_any hm (wpAny_of_V _ _ _ _ h)
end

end Go.Proofs.YtaiegmhlgjogmaaGreat
/- Add of package oplog. -/
namespace Go.Proofs.YtaiegmhlgjogmaaGreat.Ol
open Go.RowKit

theorem add_no (p : Value) (o : OpD) (s : Value) (w : World) (h : NoLog w p) : Calls Tryz.prog 53 #[p, .agg (o.cells s).toArray] w fun e w' => e = .returned (.tuple #[.int .i64 0, .int .i64 1]) ∧ Below w.heap.size w w' := by
  obtain ⟨W, hW⟩ : ∃ W, W = w.alloc (.cells (o.cells s).toArray 33 (0, 0)) := ⟨_, rfl⟩
  have BW : Hid (Below w.heap.size w W) := by rw [hW]; exact (Below.refl _ _).alloc (Nat.le_refl _) _
  have C := hide (made_no p W (h.later BW.out))
  have hp : ∃ a, p = .pointer a := by rcases h with rfl | ⟨g, rfl, _⟩ <;> exact ⟨_, rfl⟩
  obtain ⟨a, rfl⟩ := hp
  clear h
  unfold OpD.cells at hW ⊢
  go_enter Tryz.func53, Tryz.ntmps53
  go_wp2_with (fail)
  rw [← hW]
  clear hW
  refine C.out.mono ?_
  rintro e w1 ⟨rfl, rfl⟩
  go_wp2
  go_ret2
  exact ⟨rfl, BW.out⟩

section
variable {S F : Nat → Prop} {l k base c : Nat} {v : Value} {ps : List (OpD × Value)}
theorem add_full (o : OpD) (s : Value) (w : World) (h : LogAt S w l k base v ps c) (hl : ps.length = 2000) : Calls Tryz.prog 53 #[.pointer (some ⟨l, 0, none⟩), .agg (o.cells s).toArray] w fun e w' => e = .returned (.tuple #[.int .i64 0, .int .i64 7]) ∧ Below w.heap.size w w' := by
  obtain ⟨W, hW⟩ : ∃ W, W = w.alloc (.cells (o.cells s).toArray 33 (0, 0)) := ⟨_, rfl⟩
  have BW : Hid (Below w.heap.size w W) := by rw [hW]; exact (Below.refl _ _).alloc (Nat.le_refl _) _
  obtain ⟨A, cp, rfl, h1, h2⟩ := h.parts.shape
  have C := hide (made_yes W (h.later BW.out))
  have c0 := (h.later BW.out).lcell
  obtain ⟨k0, k1, _, _⟩ := (h.later BW.out).parts.cells
  rw [hl] at k0
  clear h hl
  unfold OpD.cells at hW ⊢
  go_enter Tryz.func53, Tryz.ntmps53
  go_wp2_with (fail)
  rw [← hW]
  clear hW
  refine C.out.mono ?_
  rintro e w1 ⟨rfl, rfl⟩
  go_wp2
  go_ret2
  exact ⟨rfl, BW.out⟩

/-- What Add leaves. -/
def Added (S : Nat → Prop) (w : World) (l k base : Nat) (ps : List (OpD × Value)) (c : Nat) (o : OpD) (e : Ending) (w' : World) : Prop :=
  ∃ v' s', e = .returned (.tuple #[.int .i64 ((ps.length + 1 : Nat) : Int), .int .i64 0]) ∧ LogAt (Grows S w w') w' l k base v' (ps ++ [(o, s')]) c ∧ Turned S w w'

set_option maxHeartbeats 2000000 in
set_option maxRecDepth 100000 in
theorem add_yes (o : OpD) (s : Value) (w : World) (h : LogAt S w l k base v ps c) (hs : StepsAt F w s o.steps) (ho : o.steps.length ≤ 1000000) (hlt : ps.length < 2000) :
    Calls Tryz.prog 53 #[.pointer (some ⟨l, 0, none⟩), .agg (o.cells s).toArray] w (Added S w l k base ps c o) := by
  obtain ⟨i0, hi, hz0, hz1, hz2⟩ := info_parts Tryz.infoOp
  obtain ⟨A, cp, rfl, h1, h2⟩ := h.parts.shape
  obtain ⟨sA, sc, rfl, _, _, _⟩ := FlatAt.shape hs
  obtain ⟨W, hW⟩ : ∃ W, W = w.alloc (.cells (o.cells (.slice sA o.steps.length sc)).toArray 33 (0, 0)) := ⟨_, rfl⟩
  have BW : Hid (Below w.heap.size w W) := by rw [hW]; exact (Below.refl _ _).alloc (Nat.le_refl _) _
  have szW : W.heap.size = w.heap.size + 1 := by rw [hW]; simp
  have XB : Hid (W.heap[w.heap.size]? = some (.cells (o.cells (.slice sA o.steps.length sc)).toArray 33 (0, 0))) := by rw [hW]; exact heap_alloc_new _ _
  have HL := hide h
  have HW := hide (h.later BW.out)
  have C0 := hide (made_yes W HW.out)
  have C1 := hide (fun w' (hb : Below W.heap.size W w') => copyop_own F o _ w' ((hs.kept (Kept.of_below BW.out F)).kept (Kept.of_below hb F)) ho)
  have c0 := HW.out.lcell
  obtain ⟨k0, k1, _, _⟩ := HW.out.parts.cells
  have X1 := hide HW.out.cell
  have X2 := hide HW.out.parts.kept
  have hlk : l ≠ k := h.ne
  have HWN : Hid (some w.heap.size ≠ (Value.slice A ps.length cp).ownBlock) := fun e => by have := own_in h.parts.own w.heap.size e.symm; omega
  have hlw : l < w.heap.size := lt_of_block h.cell
  have hkw : k < w.heap.size := lt_of_block h.parts.kept
  have hbw : base ≤ w.heap.size := h.parts.base
  have HO := hide ho
  clear h hs ho
  unfold maxLen at h2
  unfold OpD.cells at hW ⊢
  go_enter Tryz.func53, Tryz.ntmps53
  go_wp2_with (fail)
  rw [← hW]
  clear hW
  refine C0.out.mono ?_
  rintro e w1 ⟨rfl, rfl⟩
  go_wp2
  refine wp_region_V (fun a b => a.grownBy b (Value.slice A ps.length cp).ownBlock) (fun j => j == 17) (by kernel_rfl) ?_
  refine wpAnyV_take (pre_grown _) (i := 0) (d := some 18) (v := ?vaa0) rfl rfl (by kernel_rfl) (by kernel_rfl) (by kernel_rfl) (by kernel_rfl) (by kernel_rfl) (fun _ _ _ h => h) (by rfl) ?yaa0 ?_
  case yaa0 => (intro w' hw'; go_simp; try (with_reducible rfl))
  simp only [Act.put]; try simp only [List.setIfInBounds_toArray]; try simp only [List.set_cons_zero, List.set_cons_succ]
  refine wpAnyV_take (pre_grown _) (i := 1) (d := some 19) (v := ?vaa1) rfl rfl (by kernel_rfl) (by kernel_rfl) (by kernel_rfl) (by kernel_rfl) (by kernel_rfl) (fun _ _ _ h => h) (by rfl) ?yaa1 ?_
  case yaa1 => (intro w' hw'; go_simp; try (with_reducible rfl))
  simp only [Act.put]; try simp only [List.setIfInBounds_toArray]; try simp only [List.set_cons_zero, List.set_cons_succ]
  refine wpAnyV_take (pre_grown _) (i := 2) (d := some 20) (v := ?vaa2) rfl rfl (by kernel_rfl) (by kernel_rfl) (by kernel_rfl) (by kernel_rfl) (by kernel_rfl) (fun _ _ _ h => h) (by rfl) ?yaa2 ?_
  case yaa2 => (intro w' hw'; go_simp; try (with_reducible rfl))
  simp only [Act.put]; try simp only [List.setIfInBounds_toArray]; try simp only [List.set_cons_zero, List.set_cons_succ]
  refine wpAnyV_take (pre_grown _) (i := 3) (d := some 21) (v := .pointer (some ⟨k, 0, none⟩)) rfl rfl (by kernel_rfl) (by kernel_rfl) (by kernel_rfl) (by kernel_rfl) (by kernel_rfl) (fun _ _ _ h => h) (by rfl) ?yaa3 ?_
  case yaa3 => (intro w' hw'; have hc0 := cell_of_row w' l 0 _ _ _ ((World.grownBy.block hw' l (lt_of_block X1.out) HW.out.l_ne).trans X1.out); simp only [List.getElem?_toArray, List.getElem?_cons_zero] at hc0; go_simp; try (with_reducible rfl))
  simp only [Act.put]; try simp only [List.setIfInBounds_toArray]; try simp only [List.set_cons_zero, List.set_cons_succ]
  refine wpAnyV_take (pre_grown _) (i := 4) (d := some 22) (v := ?vaa4) rfl rfl (by kernel_rfl) (by kernel_rfl) (by kernel_rfl) (by kernel_rfl) (by kernel_rfl) (fun _ _ _ h => h) (by rfl) ?yaa4 ?_
  case yaa4 => (intro w' hw'; go_simp; try (with_reducible rfl))
  simp only [Act.put]; try simp only [List.setIfInBounds_toArray]; try simp only [List.set_cons_zero, List.set_cons_succ]
  refine wpAnyV_take (pre_grown _) (i := 5) (d := some 23) (v := ?vaa5) rfl rfl (by kernel_rfl) (by kernel_rfl) (by kernel_rfl) (by kernel_rfl) (by kernel_rfl) (fun _ _ _ h => h) (by rfl) ?yaa5 ?_
  case yaa5 => (intro w' hw'; go_simp; try (with_reducible rfl))
  simp only [Act.put]; try simp only [List.setIfInBounds_toArray]; try simp only [List.set_cons_zero, List.set_cons_succ]
  refine wpAnyV_take (pre_grown _) (i := 6) (d := some 24) (v := ?vaa6) rfl rfl (by kernel_rfl) (by kernel_rfl) (by kernel_rfl) (by kernel_rfl) (by kernel_rfl) (fun _ _ _ h => h) (by rfl) ?yaa6 ?_
  case yaa6 => (intro w' hw'; go_simp; try (with_reducible rfl))
  simp only [Act.put]; try simp only [List.setIfInBounds_toArray]; try simp only [List.set_cons_zero, List.set_cons_succ]
  refine wpAnyV_take (pre_grown _) (i := 7) (d := some 25) (v := .pointer (some ⟨k, 0, none⟩)) rfl rfl (by kernel_rfl) (by kernel_rfl) (by kernel_rfl) (by kernel_rfl) (by kernel_rfl) (fun _ _ _ h => h) (by rfl) ?yaa7 ?_
  case yaa7 => (intro w' hw'; have hc0 := cell_of_row w' l 0 _ _ _ ((World.grownBy.block hw' l (lt_of_block X1.out) HW.out.l_ne).trans X1.out); simp only [List.getElem?_toArray, List.getElem?_cons_zero] at hc0; go_simp; try (with_reducible rfl))
  simp only [Act.put]; try simp only [List.setIfInBounds_toArray]; try simp only [List.set_cons_zero, List.set_cons_succ]
  refine wpAnyV_take (pre_grown _) (i := 8) (d := some 26) (v := ?vaa8) rfl rfl (by kernel_rfl) (by kernel_rfl) (by kernel_rfl) (by kernel_rfl) (by kernel_rfl) (fun _ _ _ h => h) (by rfl) ?yaa8 ?_
  case yaa8 => (intro w' hw'; go_simp; try (with_reducible rfl))
  simp only [Act.put]; try simp only [List.setIfInBounds_toArray]; try simp only [List.set_cons_zero, List.set_cons_succ]
  refine wpAnyV_take (pre_grown _) (i := 9) (d := some 27) (v := ?vaa9) rfl rfl (by kernel_rfl) (by kernel_rfl) (by kernel_rfl) (by kernel_rfl) (by kernel_rfl) (fun _ _ _ h => h) (by rfl) ?yaa9 ?_
  case yaa9 => (intro w' hw'; go_simp; try (with_reducible rfl))
  simp only [Act.put]; try simp only [List.setIfInBounds_toArray]; try simp only [List.set_cons_zero, List.set_cons_succ]
  refine wpAnyV_take (pre_grown _) (i := 10) (d := some 28) (v := .slice A ps.length cp) rfl rfl (by kernel_rfl) (by kernel_rfl) (by kernel_rfl) (by kernel_rfl) (by kernel_rfl) (fun _ _ _ h => h) (by rfl) ?yaa10 ?_
  case yaa10 => (intro w' hw'; have hc1 := cell_of_row w' k 0 _ _ _ ((World.grownBy.block hw' k (lt_of_block X2.out) HW.out.parts.k_ne).trans X2.out); simp only [List.getElem?_toArray, List.getElem?_cons_zero] at hc1; go_simp; try (with_reducible rfl))
  simp only [Act.put]; try simp only [List.setIfInBounds_toArray]; try simp only [List.set_cons_zero, List.set_cons_succ]
  refine wpAnyV_take (pre_grown _) (i := 11) (d := some 29) (v := .agg (o.cells (.slice sA o.steps.length sc)).toArray) rfl rfl (by kernel_rfl) (by kernel_rfl) (by kernel_rfl) (by kernel_rfl) (by kernel_rfl) (fun _ _ _ h => h) (by rfl) ?yaa11 ?_
  case yaa11 => (intro w' hw'; exact exec_load_box 33 _ (by rfl) w.heap.size 0 (by rfl) 33 _ ((World.grownBy.block hw' w.heap.size (lt_of_block XB.out) HWN.out).trans XB.out) 10 _ Tryz.underlying33 (by rfl) (by kernel_rfl) (o.cells (.slice sA o.steps.length sc)) (by rfl) (by rfl))
  simp only [Act.put]; try simp only [List.setIfInBounds_toArray]; try simp only [List.set_cons_zero, List.set_cons_succ]
  refine wpAnyV_only (pre_grown _) (i := 12) rfl (by kernel_rfl) (by rfl) fun K hK => ?_
  go_simp
  refine (C1.out W.drew ((Below.refl _ _).drew)).mono ?_
  rintro e w5 ⟨s5, rfl, hs5, hb5⟩
  have HS5 := hide hs5
  have HB5 := hide hb5
  have hsz5 : W.heap.size ≤ w5.heap.size := hb5.size
  clear hs5 hb5
  refine hK.out _ _ (grown_later HB5.out _) ?_
  clear hK K
  try (simp only [Act.put]; try simp only [List.setIfInBounds_toArray]; try simp only [List.set_cons_zero, List.set_cons_succ])
  refine wpAnyV_only (pre_grown _) (i := 13) rfl (by kernel_rfl) (by rfl) fun K hK => ?_
  refine wp_buildSlice_one 39 33 _ (by rfl) i0 _ 10 Tryz.underlying39 hi hz0 hz1 (by decide) (by decide) (o.cells s5).toArray (by rfl) (by rfl) ?_
  refine hK.out _ _ (grown_later ((Below.refl _ _).alloc (Nat.le_refl _) _) _) ?_
  clear hK K
  try (simp only [Act.put]; try simp only [List.setIfInBounds_toArray]; try simp only [List.set_cons_zero, List.set_cons_succ])
  refine wpAnyV_only (pre_grown _) (i := 14) rfl (by kernel_rfl) (by rfl) fun K hK => ?_
  refine wp_append_flat _ _ 39 (by rfl) base 33 i0 _ 10 96 Tryz.underlying39 hi hz0 hz1 hz2 rfl (by decide) (.slice A ps.length cp) ps.length (opcells ps) (by rfl) (own_kept HW.out.parts.own fun q hq => (heap_alloc_old _ _ (by have := own_in HL.out.parts.own q hq; omega)).trans (HB5.out.block q (by have := own_in HL.out.parts.own q hq; show q < W.heap.size; omega))) w5.heap.size 1 1 (o.cells s5).toArray.toList (by rfl) (fun _ => True) (flat_one w5 33 10 _ rfl (o.one (FlatAt.oneCell HS5.out.1)) _ trivial) (by decide) (by unfold maxLen; omega) (by omega) (by simp; omega) ?_
  intro v7 w7 ho7 hg7 hv7
  obtain ⟨A7, c7, rfl, hc7⟩ := own_slice ho7
  have HO7 := hide ho7
  have HG7 := hide hg7
  have HV7 := hide hv7
  clear ho7 hg7 hv7
  have X7 : Hid (w7.heap[k]? = some (.cells #[.slice A ps.length cp, .int .i64 (c : Int)] 138 (0, 0))) := (HG7.out.block k (by simp; omega) HW.out.parts.k_ne).trans ((heap_alloc_old _ _ (by omega)).trans ((HB5.out.block k (by show k < W.heap.size; omega)).trans X2.out))
  refine hK.out _ _ HG7.out ?_
  clear hK K
  try (simp only [Act.put]; try simp only [List.setIfInBounds_toArray]; try simp only [List.set_cons_zero, List.set_cons_succ])
  refine wpAnyV_take (pre_grown _) (i := 15) (d := some 33) (v := ?vaa15) rfl rfl (by kernel_rfl) (by kernel_rfl) (by kernel_rfl) (by kernel_rfl) (by kernel_rfl) (fun _ _ _ h => h) (by rfl) ?yaa15 ?_
  case yaa15 => (intro w' hw'; go_simp; try (with_reducible rfl))
  simp only [Act.put]; try simp only [List.setIfInBounds_toArray]; try simp only [List.set_cons_zero, List.set_cons_succ]
  refine wpAnyV_take (pre_grown _) (i := 16) (d := some 34) (v := ?vaa16) rfl rfl (by kernel_rfl) (by kernel_rfl) (by kernel_rfl) (by kernel_rfl) (by kernel_rfl) (fun _ _ _ h => h) (by rfl) ?yaa16 ?_
  case yaa16 => (intro w' hw'; go_simp; try (with_reducible rfl))
  simp only [Act.put]; try simp only [List.setIfInBounds_toArray]; try simp only [List.set_cons_zero, List.set_cons_succ]
  refine wpAnyV_write (i := 17) rfl rfl (by kernel_rfl) (by rfl) fun K hK => ?_
  have k7 := cell_of_row w7 k 0 _ _ _ X7.out
  have f7 := frozen_of_row w7 k 0 _ _ X7.out
  simp only [List.getElem?_toArray, List.getElem?_cons_zero] at k7
  go_simp
  refine hK.out _ _ ?_
  clear hK K
  try simp only [Act.put]
  refine wpAnyV_done (by kernel_rfl) ?_ _
  have HT8 : Hid (∀ i, i < w.heap.size → i ≠ k → some i ≠ (Value.slice A ps.length cp).ownBlock → (w7.setCell ⟨k, 0, none⟩ (.slice A7 (ps.length + 1) c7)).heap[i]? = w.heap[i]?) := fun i hi e1 e2 =>
    (heap_setCell_other _ _ _ _ e1).trans ((HG7.out.block i (by simp; omega) e2).trans ((heap_alloc_old _ _ (by omega)).trans ((HB5.out.block i (by show i < W.heap.size; omega)).trans (BW.out.block i hi))))
  have hsz7 := HG7.out.size
  have hsz6 : (w5.alloc (.cells (o.cells s5).toArray 33 (0, 0))).heap.size = w5.heap.size + 1 := by simp
  have hcl7 : w7.cell? ⟨l, 0, none⟩ = some (.pointer (some ⟨k, 0, none⟩)) := by
    have hb : w7.heap[l]? = _ := (HG7.out.block l (by simp; omega) HW.out.l_ne).trans ((heap_alloc_old _ _ (by omega)).trans ((HB5.out.block l (by show l < W.heap.size; omega)).trans X1.out))
    exact cell_of_row w7 l 0 _ _ _ hb
  go_wp2
  go_ret2
  refine ⟨.slice A7 (ps.length + 1) c7, s5, rfl, ?_, ?_⟩
  · have hown8 : (w7.setCell ⟨k, 0, none⟩ (.slice A7 (ps.length + 1) c7)).ownsRow base 33 10 (.slice A7 (ps.length + 1) c7) (ps ++ [(o, s5)]).length (opcells (ps ++ [(o, s5)])) := by
      rw [List.length_append, opcells_append, opcells_one]
      refine own_kept HO7.out fun q hq => heap_setCell_other _ _ _ _ fun e => ?_
      subst e
      rcases HV7.out with e2 | e2
      · rw [hq] at e2
        exact HW.out.parts.k_ne e2
      · rw [hq] at e2
        have := Option.some.inj e2
        omega
    have hv7 : ∀ q, (Value.slice A7 (ps.length + 1) c7).ownBlock = some q → (Value.slice A ps.length cp).ownBlock = some q ∨ w.heap.size ≤ q := fun q hq => by
      rcases HV7.out with e2 | e2
      · exact .inl (e2.symm.trans hq)
      · rw [hq] at e2
        have := Option.some.inj e2
        exact .inr (by omega)
    have hS5 := HS5.out.1
    have hsz8 : (w7.setCell ⟨k, 0, none⟩ (.slice A7 (ps.length + 1) c7)).heap.size = w7.heap.size := by simp [World.setCell]
    refine HL.out.put (HT8.out l hlw hlk HL.out.l_ne) (HL.out.parts.put (heap_setCell_same w7 k 0 _ _ _ X7.out) hown8 ?_ hv7 (by have := HL.out.parts.com; simp; omega) (by simp; omega) ?_ (by omega))
    · intro q hq
      rcases List.mem_append.1 hq with hq | hq
      · exact HL.out.parts.old_steps HT8.out (by omega) hv7 q hq
      · obtain rfl : q = (o, s5) := by simpa using hq
        have h1 : StepsAt (fun i => (w.heap.size ≤ i ∧ i < w7.heap.size) ∧ i ≠ k ∧ some i ≠ (Value.slice A7 (ps.length + 1) c7).ownBlock ∧ some i ≠ (Value.slice A ps.length cp).ownBlock) w5 s5 o.steps := hS5.mono fun i hi hf => by
          have hf' : W.heap.size ≤ i := hf
          refine ⟨⟨by omega, by omega⟩, by omega, fun e => ?_, fun e => ?_⟩
          · rcases HV7.out with e2 | e2
            · rw [← e] at e2
              have := own_in HL.out.parts.own i e2.symm
              omega
            · rw [← e] at e2
              have := Option.some.inj e2
              omega
          · have := own_in HL.out.parts.own i e.symm
            omega
        refine (h1.kept ⟨by omega, fun i hi hf => (heap_setCell_other _ _ _ _ hf.2.1).trans ((HG7.out.block i (by simp; omega) hf.2.2.2).trans (heap_alloc_old _ _ hi))⟩).mono fun i _ hf => ⟨.inr ⟨hf.1.1, by rw [hsz8]; exact hf.1.2⟩, hf.2.1, hf.2.2.1⟩
    · intro p hp
      rcases List.mem_append.1 hp with hp | hp
      · exact HL.out.parts.small p hp
      · obtain rfl : p = (o, s5) := by simpa using hp
        exact HO.out
  · have o1 := HB5.out
    have o2 := HG7.out
    refine ⟨?_, ?_, ?_, ?_, fun i hi hn => HT8.out i hi (fun e => hn (by rw [e]; exact HL.out.parts.inn.1)) fun e => hn (HL.out.parts.inn.2 i e.symm)⟩
    · exact (o2.os.trans (o1.os)).trans BW.out.os
    · exact (o2.tape.trans (o1.tape)).trans BW.out.tape
    · exact (o2.output.trans (o1.output)).trans BW.out.output
    · simp [World.setCell]
      omega
end
end Go.Proofs.YtaiegmhlgjogmaaGreat.Ol
