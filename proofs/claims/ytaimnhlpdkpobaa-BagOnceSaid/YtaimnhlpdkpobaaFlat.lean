/- Slices whose elements take k cells each, wherever they lie: what such a slice holds, cell by cell; the blocks that it may lie in. -/
import Derived.Test.YtaimnhlpdkpobaaMem
import Derived.Deep.MidRow
namespace Go.Proofs.Ytaimnhlpdkpobaa
open Go.RowKit

/-- The slice v holds n elements of k cells each, xs in all; they lie in a block of which F holds. -/
def FlatAt (F : Nat → Prop) (w : World) (k : Nat) (v : Value) (n : Nat) (xs : List Value) : Prop :=
  xs.length = n * k ∧ (∀ u ∈ xs, u.oneCell' = true) ∧ ∃ A c, v = .slice A n c ∧ n ≤ c ∧ c ≤ maxLen ∧ (A = none → c = 0) ∧
    (0 < n → ∃ b off, A = some ⟨b, off, none⟩ ∧ F b ∧ b < w.heap.size ∧ w.rangeAt b off xs)

/-- From w to w' no block of which F holds has turned. -/
def Kept (F : Nat → Prop) (w w' : World) : Prop := w.heap.size ≤ w'.heap.size ∧ ∀ i, i < w.heap.size → F i → w'.heap[i]? = w.heap[i]?

theorem Kept.refl (F : Nat → Prop) (w : World) : Kept F w w := ⟨Nat.le_refl _, fun _ _ _ => rfl⟩
theorem Kept.trans {F : Nat → Prop} {a b c : World} (h : Kept F a b) (k : Kept F b c) : Kept F a c :=
  ⟨Nat.le_trans h.1 k.1, fun i hi hf => (k.2 i (Nat.lt_of_lt_of_le hi h.1) hf).trans (h.2 i hi hf)⟩
theorem Kept.of_below {w w' : World} (h : Below w.heap.size w w') (F : Nat → Prop) : Kept F w w' := ⟨h.size, fun i hi _ => h.block i hi⟩
theorem Kept.of_grown {w w' : World} {r : Option Nat} (h : w.grownBy w' r) {F : Nat → Prop} (hr : ∀ g, r = some g → ¬ F g) : Kept F w w' :=
  ⟨h.size, fun i hi hf => h.block i hi (fun e => hr i e.symm hf)⟩
theorem Kept.mono {F G : Nat → Prop} {w w' : World} (h : Kept F w w') (hg : ∀ i, i < w.heap.size → G i → F i) : Kept G w w' := ⟨h.1, fun i hi hf => h.2 i hi (hg i hi hf)⟩
theorem Kept.drewN (F : Nat → Prop) (w : World) (n : Nat) : Kept F w (w.drewN n) := ⟨Nat.le_refl _, fun _ _ _ => rfl⟩
theorem Kept.drew (F : Nat → Prop) (w : World) : Kept F w w.drew := ⟨Nat.le_refl _, fun _ _ _ => rfl⟩
theorem Kept.cell {F : Nat → Prop} {w w' : World} (h : Kept F w w') {b o : Nat} (hb : b < w.heap.size) (hf : F b) : w'.cell? ⟨b, o, none⟩ = w.cell? ⟨b, o, none⟩ := World.cell?_of_block (h.2 b hb hf)

section
variable {F G : Nat → Prop} {w w' : World} {k n : Nat} {v : Value} {xs : List Value}

theorem FlatAt.kept (h : FlatAt F w k v n xs) (hk : Kept F w w') : FlatAt F w' k v n xs := by
  obtain ⟨h1, h2, A, c, hv, h3, h4, h5, h6⟩ := h
  refine ⟨h1, h2, A, c, hv, h3, h4, h5, fun hn => ?_⟩
  obtain ⟨b, off, hA, hf, hb, hr⟩ := h6 hn
  exact ⟨b, off, hA, hf, Nat.lt_of_lt_of_le hb hk.1, fun j u hj => (hk.cell hb hf).trans (hr j u hj)⟩
theorem FlatAt.mono (h : FlatAt F w k v n xs) (hg : ∀ i, i < w.heap.size → F i → G i) : FlatAt G w k v n xs := by
  obtain ⟨h1, h2, A, c, hv, h3, h4, h5, h6⟩ := h
  refine ⟨h1, h2, A, c, hv, h3, h4, h5, fun hn => ?_⟩
  obtain ⟨b, off, hA, hf, hb, hr⟩ := h6 hn
  exact ⟨b, off, hA, hg b hb hf, hb, hr⟩
theorem FlatAt.nil_ (F : Nat → Prop) (w : World) (k : Nat) : FlatAt F w k (.slice none 0 0) 0 [] :=
  ⟨by simp, by simp, none, 0, rfl, Nat.le_refl _, by unfold maxLen; omega, fun _ => rfl, fun h => by omega⟩
theorem FlatAt.of_own {base e : Nat} (h : w.ownsRow base e k v n xs) (h1 : ∀ u ∈ xs, u.oneCell' = true) : FlatAt (base ≤ ·) w k v n xs := by
  refine ⟨h.1, h1, ?_⟩
  rcases h.2 with ⟨rfl, rfl⟩ | ⟨g, cap, cur, rfl, hb, hg, hnc, hm, _, _⟩
  · exact ⟨none, 0, rfl, Nat.le_refl _, by unfold maxLen; omega, fun _ => rfl, fun h => by omega⟩
  · refine ⟨some ⟨g, 0, none⟩, cap, rfl, hnc, hm, (fun h => by cases h), fun _ => ⟨g, 0, rfl, hb, lt_of_block hg, fun j u hj => ?_⟩⟩
    have := h.cells (g := g) rfl j u hj
    rwa [Addr.add_lit] at this
theorem FlatAt.len (h : FlatAt F w k v n xs) : xs.length = n * k := h.1
/-- Its length is a name of its own. -/
theorem FlatAt.shape (h : FlatAt F w k v n xs) : ∃ A c, v = .slice A n c ∧ n ≤ c ∧ c ≤ maxLen ∧ (A = none → c = 0) := by
  obtain ⟨_, _, A, c, hv, h3, h4, h5, _⟩ := h
  exact ⟨A, c, hv, h3, h4, h5⟩
/-- The element at i: where it lies, and its cells. -/
theorem FlatAt.elem (h : FlatAt F w k v n xs) {i : Nat} (hi : i < n) : ∃ b off c, v = .slice (some ⟨b, off, none⟩) n c ∧ n ≤ c ∧ F b ∧ b < w.heap.size ∧ w.rangeAt b (off + i * k) ((xs.drop (i * k)).take k) := by
  obtain ⟨h1, h2, A, c, hv, h3, h4, h5, h6⟩ := h
  obtain ⟨b, off, rfl, hf, hb, hr⟩ := h6 (by omega)
  refine ⟨b, off, c, hv, h3, hf, hb, fun j u hj => ?_⟩
  rw [Nat.add_assoc]
  apply hr
  have hjk : j < k := by
    have := (List.getElem?_eq_some_iff.1 hj).1
    rw [List.length_take] at this
    omega
  rw [List.getElem?_take_of_lt hjk, List.getElem?_drop] at hj
  exact hj
end

/-- Elements one behind the other. -/
theorem flat_get {α : Type} (f : α → List Value) (k : Nat) : ∀ (l : List α) (i : Nat) (x : α), (∀ y ∈ l, (f y).length = k) → l[i]? = some x → ((l.flatMap f).drop (i * k)).take k = f x
  | [], _, _, _, h => by simp at h
  | y :: r, 0, x, hk, h => by
    have e : y = x := by simpa using h
    subst e
    have := hk y (by simp)
    simp [this.symm]
  | y :: r, i + 1, x, hk, h => by
    have h1 := hk y (by simp)
    have ih := flat_get f k r i x (fun z hz => hk z (by simp [hz])) (by simpa using h)
    rw [List.flatMap_cons, show (i + 1) * k = (f y).length + i * k from by rw [h1, Nat.add_mul]; omega, List.drop_append, List.drop_eq_nil_of_le (Nat.le_add_right _ _), Nat.add_sub_cancel_left]
    simpa using ih
theorem flat_len {α : Type} (f : α → List Value) (k : Nat) : ∀ (l : List α), (∀ y ∈ l, (f y).length = k) → (l.flatMap f).length = l.length * k
  | [], _ => by simp
  | y :: r, hk => by
    have ih := flat_len f k r (fun z hz => hk z (by simp [hz]))
    have h1 := hk y (by simp)
    rw [List.flatMap_cons, List.length_append, ih, h1, List.length_cons, Nat.add_mul]
    omega
theorem flat_set {α : Type} (f : α → List Value) (k : Nat) : ∀ (l : List α) (i : Nat) (x : α), (∀ y ∈ l, (f y).length = k) → (f x).length = k → i < l.length →
    (l.set i x).flatMap f = (l.flatMap f).take (i * k) ++ f x ++ (l.flatMap f).drop (i * k + k)
  | [], _, _, _, _, h => by simp at h
  | y :: r, 0, x, hk, hx, h => by
    have h1 := hk y (by simp)
    simp [List.set, List.flatMap_cons, ← h1]
  | y :: r, i + 1, x, hk, hx, h => by
    have h1 := hk y (by simp)
    have ih := flat_set f k r i x (fun z hz => hk z (by simp [hz])) hx (by simpa using h)
    have e : (i + 1) * k = (f y).length + i * k := by rw [h1, Nat.add_mul]; omega
    rw [List.set_cons_succ, List.flatMap_cons, List.flatMap_cons, ih, e, List.take_append, List.drop_append]
    simp [List.take_of_length_le, Nat.add_assoc]

section
variable {P : Program} (w : World)
/-- 'append(row, l...)', the row the call's own, l whatever slice of such elements. -/
theorem run_append_flat (base : Nat) (t ty e : TypeId) (i : TypeInfo) (z : Value) (k bytes : Nat) (ht : P.underlying t = some (.slice e)) (hi : P.info? e = some i) (hz : i.zero = some z)
    (hsize : i.size = k) (hby : i.bytes = bytes) (hzs : z.cells.size = k) (hk : 0 < k)
    (v : Value) (n : Nat) (xs : List Value) (hown : w.ownsRow base e k v n xs)
    (F : Nat → Prop) (A : Option Addr) (m c : Nat) (ys : List Value) (hl : FlatAt F w k (.slice A m c) m ys) (hroom : n + m ≤ maxLen) (hbytes : (n + m) * bytes ≤ 140737488355328) (hbase : base ≤ w.heap.size) :
    ∃ v' w', (Builtin.append_ #[t, t] ty #[v, .slice A m c]).run P w = .ok v' w' ∧ w'.ownsRow base e k v' (n + m) (xs ++ ys) ∧ w.grownBy w' v.ownBlock := by
  obtain ⟨hlen, h1, A', c', hv, h3, h4, h5, h6⟩ := hl
  obtain ⟨rfl, rfl⟩ : A = A' ∧ c = c' := by injection hv with e1 _ e3; exact ⟨e1, e3⟩
  rcases A with _ | ad
  · have hm : m = 0 := by
      rcases Nat.eq_zero_or_pos m with h | h
      · exact h
      · obtain ⟨_, _, h, _⟩ := h6 h
        cases h
    subst hm
    have : ys = [] := List.eq_nil_of_length_eq_zero (by simpa using hlen)
    subst this
    refine ⟨v, w, ?_, by simpa using hown, World.grownBy.refl w _⟩
    rcases hown.2 with ⟨rfl, rfl⟩ | ⟨g, cap, cur, rfl, _, _, hnc, _⟩
    · simp [Builtin.append_, run_underlying ht, sizeOf, typeInfo, hi, Builtin.lenOf, Builtin.firstCells]
    · simp [Builtin.append_, run_underlying ht, sizeOf, typeInfo, hi, Builtin.lenOf, Builtin.firstCells, hnc, storeCells]
  · obtain ⟨v', w', g1, g2, g3, _, _⟩ := run_append_own_at (P := P) w base t ty e i z k bytes ht hi hz hsize hby hzs hk v n xs hown ad m c ys hlen
      (fun j u hu => by
        have hj : j < ys.length := (List.getElem?_eq_some_iff.1 hu).1
        have hm : 0 < m := by
          rcases Nat.eq_zero_or_pos m with h | h
          · subst h
            omega
          · exact h
        obtain ⟨b, off, h, _, _, hr⟩ := h6 hm
        obtain rfl := Option.some.inj h
        rw [Addr.add_lit]
        exact hr j u hu) h1 hroom hbytes hbase
    exact ⟨v', w', g1, g2, g3⟩

theorem wpList_append_flat {ops : Array Oper} {rest : List Oper} {o : Oper} {a : Act} {Q : Exit → Act → World → Prop} (hgd : o.guard = none) (s x : Operand) (t : TypeId)
    (ho : o.op = .call { callee := .builtin .append, args := #[s, x], argTypes := #[t, t] })
    (base : Nat) (e : TypeId) (i : TypeInfo) (z : Value) (k bytes : Nat) (ht : P.underlying t = some (.slice e)) (hi : P.info? e = some i) (hz : i.zero = some z)
    (hsize : i.size = k) (hby : i.bytes = bytes) (hzs : z.cells.size = k) (hk : 0 < k)
    (v : Value) (n : Nat) (xs : List Value) (hs : a.eval s = v) (hown : w.ownsRow base e k v n xs)
    (F : Nat → Prop) (A : Option Addr) (m c : Nat) (ys : List Value) (hx : a.eval x = .slice A m c) (hl : FlatAt F w k (.slice A m c) m ys) (hroom : n + m ≤ maxLen) (hbytes : (n + m) * bytes ≤ 140737488355328) (hbase : base ≤ w.heap.size)
    (h : ∀ v' w', w'.ownsRow base e k v' (n + m) (xs ++ ys) → w.grownBy w' v.ownBlock → wpList P ops Q rest (a.put o.dst v') w') : wpList P ops Q (o :: rest) a w := by
  refine wpList_plain hgd fun K hK => ?_
  obtain ⟨v', w', hr, h2, h3⟩ := run_append_flat (P := P) w base t o.type e i z k bytes ht hi hz hsize hby hzs hk v n xs hown F A m c ys hl hroom hbytes hbase
  unfold Oper.wp execOp
  simp only [ho, resolve, invoke, builtin, Sem.run_bind, Sem.run_pure, Result.andThen_ok, List.map_toArray, List.map_cons, List.map_nil, hs, hx, hr]
  exact hK _ _ (h v' w' h2 h3)
end
/-- An empty row of the call's own, made by a literal. -/
theorem ownsRow_lit (w : World) (e k : Nat) : (w.alloc (.cells #[] e)).ownsRow w.heap.size e k (.slice (some ⟨w.heap.size, 0, none⟩) 0 0) 0 [] :=
  ⟨by simp, .inr ⟨w.heap.size, 0, #[], rfl, Nat.le_refl _, heap_alloc_new w _, Nat.le_refl _, Nat.zero_le _, by simp, by simp⟩⟩
theorem later_own {w w' : World} {base e size n : Nat} {v : Value} {xs : List Value} (ho : w.ownsRow base e size v n xs) (hb : base ≤ w.heap.size) (hg : w.grownBy w' v.ownBlock) : Below base w w' :=
  (Below.refl _ _).grown hg hb fun k hk => (ho.lt k hk).1
end Go.Proofs.Ytaimnhlpdkpobaa
