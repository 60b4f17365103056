/- A long chain of '&&' over fields of two structs, one conjunct at a time: the frame is known by four of its slots alone. -/
import Derived.Test.YtaimnhlpdkpobaaBox
namespace Go.Proofs.Ytaimnhlpdkpobaa
open Go.RowKit

/-- The frame: two addresses in slots 2 and 3, and what holds so far in slot k. -/
structure Fr (X Y : Value) (k : Nat) (c : Bool) (n : Nat) (a : Act) : Prop where
  x : a.tmps[2]? = some X
  y : a.tmps[3]? = some Y
  c : a.tmps[k]? = some (.bool c)
  n : a.tmps.size = n
  d : a.defers = []
theorem put_tmps (a : Act) (d : Nat) (v : Value) (i : Nat) : (a.put (some d) v).tmps[i]? = if d = i then (if i < a.tmps.size then some v else none) else a.tmps[i]? := by
  show (a.tmps.setIfInBounds d v)[i]? = _
  rw [Array.getElem?_setIfInBounds]
  by_cases h : d = i
  · subst h
    simp
  · simp [h]
theorem put_same (a : Act) (d : Nat) (v : Value) (h : d < a.tmps.size) : (a.put (some d) v).tmps[d]? = some v := by rw [put_tmps, if_pos rfl, if_pos h]
theorem put_other (a : Act) (d : Nat) (v : Value) (i : Nat) (h : d ≠ i) : (a.put (some d) v).tmps[i]? = a.tmps[i]? := by rw [put_tmps, if_neg h]
theorem put_size (a : Act) (d : Nat) (v : Value) : (a.put (some d) v).tmps.size = a.tmps.size := by simp [Act.put]
theorem eval_of {a : Act} {i : Nat} {v : Value} (h : a.tmps[i]? = some v) : a.eval (.tmp i) = v := by
  show a.tmps.getD i undef = v
  rw [Array.getD_eq_getD_getElem?, h]
  rfl
/-- The same without a word of what holds so far. -/
structure Fr0 (X Y : Value) (n : Nat) (a : Act) : Prop where
  x : a.tmps[2]? = some X
  y : a.tmps[3]? = some Y
  n : a.tmps.size = n
  d : a.defers = []
section
variable {X Y : Value} {k n : Nat} {c : Bool} {a : Act}
theorem Fr0.put (h : Fr0 X Y n a) (d : Nat) (v : Value) (h2 : d ≠ 2) (h3 : d ≠ 3) : Fr0 X Y n (a.put (some d) v) := ⟨(put_other a d v 2 h2).trans h.x, (put_other a d v 3 h3).trans h.y, (put_size a d v).trans h.n, h.d⟩
theorem Fr.put (h : Fr X Y k c n a) (d : Nat) (v : Value) (h2 : d ≠ 2) (h3 : d ≠ 3) (hk : d ≠ k) : Fr X Y k c n (a.put (some d) v) :=
  ⟨(put_other a d v 2 h2).trans h.x, (put_other a d v 3 h3).trans h.y, (put_other a d v k hk).trans h.c, (put_size a d v).trans h.n, h.d⟩
variable {P : Program} {ops : Array Oper} {Q : Exit → Act → World → Prop} {rest : List Oper} {w : World}
theorem wpList_val {o : Oper} {d : Nat} {v : Value} {w' : World} (hd : o.dst = some d) (hw : Region.wanted o (yielded ops a.tmps) = true) (hx : (execOp a.eval o).run P w = .ok (.value v) w')
    (h : wpList P ops Q rest (a.put (some d) v) w') : wpList P ops Q (o :: rest) a w := by
  refine wpList_step fun K hK => ?_
  rw [if_pos hw]
  unfold Oper.wp
  rw [hx, Oper.upon_value, hd]
  exact hK _ _ h
theorem want_true {o : Oper} {j : Nat} {k : Nat} (hg : o.guard = some (j, true)) (hj : (ops[j]?).bind (·.dst) = some k) (hk : a.tmps[k]? = some (.bool true)) : Region.wanted o (yielded ops a.tmps) = true := by
  unfold Region.wanted yielded
  rw [hg]
  simp only [hj, Option.bind_some, hk]
  rfl
theorem want_false {o : Oper} {j : Nat} {k : Nat} (hg : o.guard = some (j, true)) (hj : (ops[j]?).bind (·.dst) = some k) (hk : a.tmps[k]? = some (.bool false)) : Region.wanted o (yielded ops a.tmps) = false := by
  unfold Region.wanted yielded
  rw [hg]
  simp only [hj, Option.bind_some, hk]
  rfl
theorem want_none {o : Oper} (hg : o.guard = none) : Region.wanted o (yielded ops a.tmps) = true := by
  unfold Region.wanted
  rw [hg]
theorem skip_one {o : Oper} {j d : Nat} (h : Fr X Y k false n a) (hj : (ops[j]?).bind (·.dst) = some k) (hd : o.dst = some d) (hg : o.guard = some (j, true)) (h2 : d ≠ 2) (h3 : d ≠ 3) (hk : d ≠ k)
    (next : ∀ a', Fr X Y k false n a' → wpList P ops Q rest a' w) : wpList P ops Q (o :: rest) a w := by
  refine wpList_skip (want_false hg hj h.c) ?_
  rw [hd]
  exact next _ (h.put d undef h2 h3 hk)

/-- One conjunct: the operations at slots s to s + 4 are wanted just if all holds so far; then the pick, then a move. -/
theorem conj {q : Bool} {s : Nat} {W : World → Prop} (j t : Nat) (h : Fr X Y k c n a) (hj : (ops[j]?).bind (·.dst) = some k) (hs : k < s) (hs3 : 3 < s) (hn : s + 6 ≤ n) (ht : 3 < t) (htn : t < n) (hW : W w)
    {o1 o2 o3 o4 o5 o6 o7 : Oper} {px py vx vy : Value}
    (g1 : o1.dst = some s ∧ o1.guard = some (j, true)) (g2 : o2.dst = some (s + 1) ∧ o2.guard = some (j, true)) (g3 : o3.dst = some (s + 2) ∧ o3.guard = some (j, true)) (g4 : o4.dst = some (s + 3) ∧ o4.guard = some (j, true)) (g5 : o5.dst = some (s + 4) ∧ o5.guard = some (j, true))
    (g6 : o6.op = .pick (.tmp k) (.tmp (s + 4)) (.const (.bool false)) ∧ o6.dst = some (s + 5) ∧ o6.guard = none) (g7 : (o7.op = .move (.tmp (s + 5)) ∨ o7.op = .assign (.tmp (s + 5))) ∧ o7.dst = some t ∧ o7.guard = none)
    (e1 : ∀ a' : Act, a'.tmps[2]? = some X → (execOp a'.eval o1).run P w = .ok (.value px) w)
    (e2 : ∀ a' : Act, a'.tmps[s]? = some px → (execOp a'.eval o2).run P w = .ok (.value vx) w)
    (e3 : ∀ a' : Act, a'.tmps[3]? = some Y → (execOp a'.eval o3).run P w = .ok (.value py) w)
    (e4 : ∀ a' : Act, a'.tmps[(s + 2)]? = some py → (execOp a'.eval o4).run P w = .ok (.value vy) w)
    (e5 : ∀ (a' : Act) (r : List Oper), a'.tmps[(s + 1)]? = some vx → a'.tmps[(s + 3)]? = some vy → Region.wanted o5 (yielded ops a'.tmps) = true → (∀ w', W w' → wpList P ops Q r (a'.put (some (s + 4)) (.bool q)) w') → wpList P ops Q (o5 :: r) a' w)
    (next : ∀ a' w', Fr X Y t (c && q) n a' → W w' → wpList P ops Q rest a' w') : wpList P ops Q (o1 :: o2 :: o3 :: o4 :: o5 :: o6 :: o7 :: rest) a w := by
  have last : ∀ (a' : Act) (w' : World) (b : Bool), Fr X Y k c n a' → (c = true → a'.tmps[s + 4]? = some (.bool q)) → W w' → wpList P ops Q (o6 :: o7 :: rest) a' w' := by
    intro a' w' b h' hq hw'
    refine wpList_val (w' := w') (v := .bool (c && q)) g6.2.1 (want_none g6.2.2) ?_ ?_
    · unfold execOp
      simp only [g6.1, eval_of h'.c]
      cases c with
      | false => rfl
      | true =>
        simp only [eval_of (hq rfl)]
        rfl
    · refine wpList_val (w' := w') (v := .bool (c && q)) g7.2.1 (want_none g7.2.2) ?_ ?_
      · unfold execOp
        rcases g7.1 with g | g <;> (simp only [g, eval_of (put_same a' (s + 5) (.bool (c && q)) (by have := h'.n; omega))]; rfl)
      · have h5 := h'.put (s + 5) (.bool (c && q)) (by omega) (by omega) (by omega)
        exact next _ _ ⟨(put_other _ t _ 2 (by omega)).trans h5.x, (put_other _ t _ 3 (by omega)).trans h5.y, put_same _ _ _ (by have := h5.n; omega), (put_size _ _ _).trans h5.n, h5.d⟩ hw'
  cases c with
  | false =>
    refine skip_one h hj g1.1 g1.2 (by omega) (by omega) (by omega) fun a1 h1 => ?_
    refine skip_one h1 hj g2.1 g2.2 (by omega) (by omega) (by omega) fun a2 h2 => ?_
    refine skip_one h2 hj g3.1 g3.2 (by omega) (by omega) (by omega) fun a3 h3 => ?_
    refine skip_one h3 hj g4.1 g4.2 (by omega) (by omega) (by omega) fun a4 h4 => ?_
    refine skip_one h4 hj g5.1 g5.2 (by omega) (by omega) (by omega) fun a5 h5 => ?_
    exact last a5 w false h5 (fun h => by cases h) hW
  | true =>
    have sz := h.n
    refine wpList_val g1.1 (want_true g1.2 hj h.c) (e1 a h.x) ?_
    have h1 := h.put s px (by omega) (by omega) (by omega)
    have t1 : (a.put (some s) px).tmps[s]? = some px := put_same a s px (by omega)
    refine wpList_val g2.1 (want_true g2.2 hj h1.c) (e2 _ t1) ?_
    have h2 := h1.put (s + 1) vx (by omega) (by omega) (by omega)
    have t2 := put_same (a.put (some s) px) (s + 1) vx (by have := h1.n; omega)
    refine wpList_val g3.1 (want_true g3.2 hj h2.c) (e3 _ h2.y) ?_
    have h3 := h2.put (s + 2) py (by omega) (by omega) (by omega)
    have t3 := put_same ((a.put (some s) px).put (some (s + 1)) vx) (s + 2) py (by have := h2.n; omega)
    have t2' := (put_other ((a.put (some s) px).put (some (s + 1)) vx) (s + 2) py (s + 1) (by omega)).trans t2
    refine wpList_val g4.1 (want_true g4.2 hj h3.c) (e4 _ t3) ?_
    have h4 := h3.put (s + 3) vy (by omega) (by omega) (by omega)
    have t4 := put_same (((a.put (some s) px).put (some (s + 1)) vx).put (some (s + 2)) py) (s + 3) vy (by have := h3.n; omega)
    have t2'' := (put_other (((a.put (some s) px).put (some (s + 1)) vx).put (some (s + 2)) py) (s + 3) vy (s + 1) (by omega)).trans t2'
    refine e5 _ _ t2'' t4 (want_true g5.2 hj h4.c) fun w' hw' => ?_
    have h5 := h4.put (s + 4) (.bool q) (by omega) (by omega) (by omega)
    exact last _ w' true h5 (fun _ => put_same _ _ _ (by have := h4.n; omega)) hw'
/-- One conjunct over fields of fields: the operations at slots s to s + 6 are wanted just if all holds so far; then the pick, then a move. -/
theorem conj2 {q : Bool} {s : Nat} {W : World → Prop} (j t : Nat) (h : Fr X Y k c n a) (hj : (ops[j]?).bind (·.dst) = some k) (hs : k < s) (hs3 : 3 < s) (hn : s + 8 ≤ n) (ht : 3 < t) (htn : t < n) (hW : W w)
    {o1 o1' o2 o3 o3' o4 o5 o6 o7 : Oper} {px px' py py' vx vy : Value}
    (g1 : o1.dst = some s ∧ o1.guard = some (j, true)) (g1' : o1'.dst = some (s + 1) ∧ o1'.guard = some (j, true)) (g2 : o2.dst = some (s + 2) ∧ o2.guard = some (j, true)) (g3 : o3.dst = some (s + 3) ∧ o3.guard = some (j, true)) (g3' : o3'.dst = some (s + 4) ∧ o3'.guard = some (j, true)) (g4 : o4.dst = some (s + 5) ∧ o4.guard = some (j, true)) (g5 : o5.dst = some (s + 6) ∧ o5.guard = some (j, true))
    (g6 : o6.op = .pick (.tmp k) (.tmp (s + 6)) (.const (.bool false)) ∧ o6.dst = some (s + 7) ∧ o6.guard = none) (g7 : (o7.op = .move (.tmp (s + 7)) ∨ o7.op = .assign (.tmp (s + 7))) ∧ o7.dst = some t ∧ o7.guard = none)
    (e1 : ∀ a' : Act, a'.tmps[2]? = some X → (execOp a'.eval o1).run P w = .ok (.value px) w)
    (e1' : ∀ a' : Act, a'.tmps[s]? = some px → (execOp a'.eval o1').run P w = .ok (.value px') w)
    (e2 : ∀ a' : Act, a'.tmps[s + 1]? = some px' → (execOp a'.eval o2).run P w = .ok (.value vx) w)
    (e3 : ∀ a' : Act, a'.tmps[3]? = some Y → (execOp a'.eval o3).run P w = .ok (.value py) w)
    (e3' : ∀ a' : Act, a'.tmps[s + 3]? = some py → (execOp a'.eval o3').run P w = .ok (.value py') w)
    (e4 : ∀ a' : Act, a'.tmps[s + 4]? = some py' → (execOp a'.eval o4).run P w = .ok (.value vy) w)
    (e5 : ∀ (a' : Act) (r : List Oper), a'.tmps[(s + 2)]? = some vx → a'.tmps[(s + 5)]? = some vy → Region.wanted o5 (yielded ops a'.tmps) = true → (∀ w', W w' → wpList P ops Q r (a'.put (some (s + 6)) (.bool q)) w') → wpList P ops Q (o5 :: r) a' w)
    (next : ∀ a' w', Fr X Y t (c && q) n a' → W w' → wpList P ops Q rest a' w') : wpList P ops Q (o1 :: o1' :: o2 :: o3 :: o3' :: o4 :: o5 :: o6 :: o7 :: rest) a w := by
  have last : ∀ (a' : Act) (w' : World) (b : Bool), Fr X Y k c n a' → (c = true → a'.tmps[s + 6]? = some (.bool q)) → W w' → wpList P ops Q (o6 :: o7 :: rest) a' w' := by
    intro a' w' b h' hq hw'
    refine wpList_val (w' := w') (v := .bool (c && q)) g6.2.1 (want_none g6.2.2) ?_ ?_
    · unfold execOp
      simp only [g6.1, eval_of h'.c]
      cases c with
      | false => rfl
      | true =>
        simp only [eval_of (hq rfl)]
        rfl
    · refine wpList_val (w' := w') (v := .bool (c && q)) g7.2.1 (want_none g7.2.2) ?_ ?_
      · unfold execOp
        rcases g7.1 with g | g <;> (simp only [g, eval_of (put_same a' (s + 7) (.bool (c && q)) (by have := h'.n; omega))]; rfl)
      · have h5 := h'.put (s + 7) (.bool (c && q)) (by omega) (by omega) (by omega)
        exact next _ _ ⟨(put_other _ t _ 2 (by omega)).trans h5.x, (put_other _ t _ 3 (by omega)).trans h5.y, put_same _ _ _ (by have := h5.n; omega), (put_size _ _ _).trans h5.n, h5.d⟩ hw'
  cases c with
  | false =>
    refine skip_one h hj g1.1 g1.2 (by omega) (by omega) (by omega) fun a1 h1 => ?_
    refine skip_one h1 hj g1'.1 g1'.2 (by omega) (by omega) (by omega) fun b1 hb1 => ?_
    refine skip_one hb1 hj g2.1 g2.2 (by omega) (by omega) (by omega) fun a2 h2 => ?_
    refine skip_one h2 hj g3.1 g3.2 (by omega) (by omega) (by omega) fun a3 h3 => ?_
    refine skip_one h3 hj g3'.1 g3'.2 (by omega) (by omega) (by omega) fun b3 hb3 => ?_
    refine skip_one hb3 hj g4.1 g4.2 (by omega) (by omega) (by omega) fun a4 h4 => ?_
    refine skip_one h4 hj g5.1 g5.2 (by omega) (by omega) (by omega) fun a5 h5 => ?_
    exact last a5 w false h5 (fun h => by cases h) hW
  | true =>
    have sz := h.n
    refine wpList_val g1.1 (want_true g1.2 hj h.c) (e1 a h.x) ?_
    have h1 := h.put s px (by omega) (by omega) (by omega)
    have t1 : (a.put (some s) px).tmps[s]? = some px := put_same a s px (by omega)
    generalize a.put (some s) px = a1 at t1 h1 ⊢
    refine wpList_val g1'.1 (want_true g1'.2 hj h1.c) (e1' _ t1) ?_
    have tb1 := put_same a1 (s + 1) px' (by have := h1.n; omega)
    have hb1 := h1.put (s + 1) px' (by omega) (by omega) (by omega)
    generalize a1.put (some (s + 1)) px' = b1 at tb1 hb1 ⊢
    refine wpList_val g2.1 (want_true g2.2 hj hb1.c) (e2 _ tb1) ?_
    have t2 := put_same b1 (s + 2) vx (by have := hb1.n; omega)
    have h2 := hb1.put (s + 2) vx (by omega) (by omega) (by omega)
    generalize b1.put (some (s + 2)) vx = a2 at t2 h2 ⊢
    refine wpList_val g3.1 (want_true g3.2 hj h2.c) (e3 _ h2.y) ?_
    have t3 := put_same a2 (s + 3) py (by have := h2.n; omega)
    have u3 := (put_other a2 (s + 3) py (s + 2) (by omega)).trans t2
    have h3 := h2.put (s + 3) py (by omega) (by omega) (by omega)
    generalize a2.put (some (s + 3)) py = a3 at t3 u3 h3 ⊢
    refine wpList_val g3'.1 (want_true g3'.2 hj h3.c) (e3' _ t3) ?_
    have tb3 := put_same a3 (s + 4) py' (by have := h3.n; omega)
    have ub3 := (put_other a3 (s + 4) py' (s + 2) (by omega)).trans u3
    have hb3 := h3.put (s + 4) py' (by omega) (by omega) (by omega)
    generalize a3.put (some (s + 4)) py' = b3 at tb3 ub3 hb3 ⊢
    refine wpList_val g4.1 (want_true g4.2 hj hb3.c) (e4 _ tb3) ?_
    have t4 := put_same b3 (s + 5) vy (by have := hb3.n; omega)
    have u4 := (put_other b3 (s + 5) vy (s + 2) (by omega)).trans ub3
    have h4 := hb3.put (s + 5) vy (by omega) (by omega) (by omega)
    generalize b3.put (some (s + 5)) vy = a4 at t4 u4 h4 ⊢
    refine e5 _ _ u4 t4 (want_true g5.2 hj h4.c) fun w' hw' => ?_
    have h5 := h4.put (s + 6) (.bool q) (by omega) (by omega) (by omega)
    exact last _ w' true h5 (fun _ => put_same _ _ _ (by have := h4.n; omega)) hw'
/-- The first conjunct, that is always wanted: no pick. -/
theorem conj_first {q : Bool} {s : Nat} (hx : a.tmps[2]? = some X) (hy : a.tmps[3]? = some Y) (hsz : a.tmps.size = n) (hd : a.defers = []) (hs3 : 3 < s) (hn : s + 5 < n)
    {o1 o2 o3 o4 o5 o6 : Oper} {px py vx vy : Value}
    (g1 : o1.dst = some s ∧ o1.guard = none) (g2 : o2.dst = some (s + 1) ∧ o2.guard = none) (g3 : o3.dst = some (s + 2) ∧ o3.guard = none) (g4 : o4.dst = some (s + 3) ∧ o4.guard = none) (g5 : o5.dst = some (s + 4) ∧ o5.guard = none)
    (g6 : o6.op = .move (.tmp (s + 4)) ∧ o6.dst = some (s + 5) ∧ o6.guard = none)
    (e1 : ∀ a' : Act, a'.tmps[2]? = some X → (execOp a'.eval o1).run P w = .ok (.value px) w)
    (e2 : ∀ a' : Act, a'.tmps[s]? = some px → (execOp a'.eval o2).run P w = .ok (.value vx) w)
    (e3 : ∀ a' : Act, a'.tmps[3]? = some Y → (execOp a'.eval o3).run P w = .ok (.value py) w)
    (e4 : ∀ a' : Act, a'.tmps[(s + 2)]? = some py → (execOp a'.eval o4).run P w = .ok (.value vy) w)
    (e5 : ∀ a' : Act, a'.tmps[(s + 1)]? = some vx → a'.tmps[(s + 3)]? = some vy → (execOp a'.eval o5).run P w = .ok (.value (.bool q)) w)
    (next : ∀ a', Fr X Y (s + 5) q n a' → wpList P ops Q rest a' w) : wpList P ops Q (o1 :: o2 :: o3 :: o4 :: o5 :: o6 :: rest) a w := by
  have h0 : Fr0 X Y n a := ⟨hx, hy, hsz, hd⟩
  refine wpList_val g1.1 (want_none g1.2) (e1 a h0.x) ?_
  have t1 := put_same a s px (by have := h0.n; omega)
  have h1 := h0.put s px (by omega) (by omega)
  generalize a.put (some s) px = a1 at t1 h1 ⊢
  refine wpList_val g2.1 (want_none g2.2) (e2 _ t1) ?_
  have t2 := put_same a1 (s + 1) vx (by have := h1.n; omega)
  have h2 := h1.put (s + 1) vx (by omega) (by omega)
  generalize a1.put (some (s + 1)) vx = a2 at t2 h2 ⊢
  refine wpList_val g3.1 (want_none g3.2) (e3 _ h2.y) ?_
  have t3 := put_same a2 (s + 2) py (by have := h2.n; omega)
  have t2' := (put_other a2 (s + 2) py (s + 1) (by omega)).trans t2
  have h3 := h2.put (s + 2) py (by omega) (by omega)
  generalize a2.put (some (s + 2)) py = a3 at t3 t2' h3 ⊢
  refine wpList_val g4.1 (want_none g4.2) (e4 _ t3) ?_
  have t4 := put_same a3 (s + 3) vy (by have := h3.n; omega)
  have t2'' := (put_other a3 (s + 3) vy (s + 1) (by omega)).trans t2'
  have h4 := h3.put (s + 3) vy (by omega) (by omega)
  generalize a3.put (some (s + 3)) vy = a4 at t4 t2'' h4 ⊢
  refine wpList_val g5.1 (want_none g5.2) (e5 _ t2'' t4) ?_
  have t5 := put_same a4 (s + 4) (.bool q) (by have := h4.n; omega)
  have h5 := h4.put (s + 4) (.bool q) (by omega) (by omega)
  generalize a4.put (some (s + 4)) (.bool q) = a5 at t5 h5 ⊢
  refine wpList_val (w' := w) (v := .bool q) g6.2.1 (want_none g6.2.2) ?_ ?_
  · unfold execOp
    simp only [g6.1, eval_of t5]
    rfl
  · have h6 := h5.put (s + 5) (.bool q) (by omega) (by omega)
    exact next _ ⟨h6.x, h6.y, put_same _ _ _ (by have := h5.n; omega), h6.n, h6.d⟩
end
end Go.Proofs.Ytaimnhlpdkpobaa
