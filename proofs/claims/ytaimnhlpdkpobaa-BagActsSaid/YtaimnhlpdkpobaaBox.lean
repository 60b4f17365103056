/- Blocks that are known whole: a struct read out of one, a struct written into one, at an operation; results that lie in such blocks. -/
import Derived.Test.YtaimnhlpdkpobaaFlat
import Derived.Test.YtaimnhlpdkpobaaGrown
import Derived.OneCell
namespace Go.Proofs.Ytaimnhlpdkpobaa
open Go.RowKit

/-- The cells with vs written from o on. -/
def putAt : Array Value → Nat → List Value → Array Value
  | cs, _, [] => cs
  | cs, o, v :: r => putAt (cs.setIfInBounds o v) (o + 1) r

theorem heap_setCells (b : Nat) {T : TypeId} : ∀ (vs : List Value) (o : Nat) (w : World) (cs : Array Value), w.heap[b]? = some (.cells cs T (0, 0)) → (w.setCells b o vs).heap[b]? = some (.cells (putAt cs o vs) T (0, 0))
  | [], _, _, _, h => h
  | v :: r, o, w, cs, h => heap_setCells b r (o + 1) _ _ (heap_setCell_same w b o cs T v h)
theorem grown_setCells (b : Nat) : ∀ (vs : List Value) (o : Nat) (w : World), w.grownBy (w.setCells b o vs) (some b)
  | [], _, w => World.grownBy.refl w _
  | v :: r, o, w => by
    have h1 : w.grownBy (w.setCell ⟨b, o, none⟩ v) (some b) := ⟨rfl, rfl, rfl, by simp [World.setCell], fun i hi hne => heap_setCell_other _ _ _ _ (fun e => hne (by rw [e]))⟩
    exact h1.trans (grown_setCells b r (o + 1) _)

section
variable {P : Program} {ops : Array Oper} {rest : List Oper} {op : Oper} {a : Act} {w : World} {Q : Exit → Act → World → Prop}

/-- A struct out of a block, from offset o on. -/
theorem wpList_load_box (hgd : op.guard = none) (ty : TypeId) (x : Operand) (ho : op.op = .load ty x)
    (g o : Nat) (hx : a.eval x = .pointer (some ⟨g, o, none⟩)) (T : TypeId) (cs : Array Value) (hg : w.heap[g]? = some (.cells cs T (0, 0))) (n : Nat) (d : TypeDesc)
    (hu : P.underlying ty = some d) (hd : d.isRow = true) (hi : (P.info? ty).map (·.size) = some n) (part : List Value) (hp : (cs.toList.drop o).take n = part) (hn : part.length = n)
    (h : wpList P ops Q rest (a.put op.dst (.agg part.toArray)) w) : wpList P ops Q (op :: rest) a w :=
  wpList_load_mid hgd ty x ho g o hx part d (fun j v hv => by
    rw [cell_of_row w g (o + j) cs T (0, 0) hg]
    have hj : j < n := by rw [← hn]; exact (List.getElem?_eq_some_iff.1 hv).1
    rw [← hp, List.getElem?_take_of_lt hj, List.getElem?_drop] at hv
    simpa using hv) hu hd (by rw [hn]; exact hi) h

/-- A struct into a block, from offset o on: some world in which that block alone has turned. -/
theorem wpList_store_box (hgd : op.guard = none) (ty : TypeId) (x y : Operand) (ho : op.op = .store ty x y)
    (g o : Nat) (cells : Array Value) (hx : a.eval x = .pointer (some ⟨g, o, none⟩)) (hy : a.eval y = .agg cells) (T : TypeId) (cs : Array Value) (hg : w.heap[g]? = some (.cells cs T (0, 0)))
    (hi : (P.info? ty).map (·.size) = some cells.size) (hfit : o + cells.size ≤ cs.size) (h1 : ∀ u ∈ cells.toList, u.oneCell' = true)
    (h : ∀ w', w'.heap[g]? = some (.cells (putAt cs o cells.toList) T (0, 0)) → w.grownBy w' (some g) → wpList P ops Q rest (a.put op.dst undef) w') : wpList P ops Q (op :: rest) a w :=
  wpList_store_mid hgd ty x y ho g o cells hx hy (fun j hj => ⟨by rw [cell_of_row w g (o + j) cs T (0, 0) hg]; simp; omega, frozen_of_row w g _ cs T hg⟩) hi
    (Array.all_eq_true_iff_forall_mem.2 fun v hv => h1 v (by simpa using hv)) (h _ (heap_setCells g _ o w cs hg) (grown_setCells g _ o w))
end

section
variable {P : Program} {op : Oper} {a : Act} {w : World}
/-- The same at an operation of a region that draws its order. -/
theorem exec_load_box (ty : TypeId) (x : Operand) (ho : op.op = .load ty x)
    (g o : Nat) (hx : a.eval x = .pointer (some ⟨g, o, none⟩)) (T : TypeId) (cs : Array Value) (hg : w.heap[g]? = some (.cells cs T (0, 0))) (n : Nat) (d : TypeDesc)
    (hu : P.underlying ty = some d) (hd : d.isRow = true) (hi : (P.info? ty).map (·.size) = some n) (part : List Value) (hp : (cs.toList.drop o).take n = part) (hn : part.length = n) :
    (execOp a.eval op).run P w = .ok (.value (.agg part.toArray)) w := by
  have hr : w.rangeAt g o part := fun j v hv => by
    rw [cell_of_row w g (o + j) cs T (0, 0) hg]
    have hj : j < n := by rw [← hn]; exact (List.getElem?_eq_some_iff.1 hv).1
    rw [← hp, List.getElem?_take_of_lt hj, List.getElem?_drop] at hv
    simpa using hv
  unfold execOp
  simp only [ho, hx, Instr.loadAt, Instr.sureAddr, Sem.run_bind, Sem.run_pure, Result.andThen_ok, run_loadVar_mid w g o ty part d hr hu hd (by rw [hn]; exact hi)]
theorem exec_load_range (ty : TypeId) (x : Operand) (ho : op.op = .load ty x)
    (g o : Nat) (hx : a.eval x = .pointer (some ⟨g, o, none⟩)) (part : List Value) (hr : w.rangeAt g o part) (d : TypeDesc)
    (hu : P.underlying ty = some d) (hd : d.isRow = true) (hi : (P.info? ty).map (·.size) = some part.length) :
    (execOp a.eval op).run P w = .ok (.value (.agg part.toArray)) w := by
  unfold execOp
  simp only [ho, hx, Instr.loadAt, Instr.sureAddr, Sem.run_bind, Sem.run_pure, Result.andThen_ok, run_loadVar_mid w g o ty part d hr hu hd hi]
theorem wp_store_box {K : Act → World → Prop} {Q : Exit → Act → World → Prop} (ty : TypeId) (x y : Operand) (ho : op.op = .store ty x y)
    (g o : Nat) (cells : Array Value) (hx : a.eval x = .pointer (some ⟨g, o, none⟩)) (hy : a.eval y = .agg cells) (T : TypeId) (cs : Array Value) (hg : w.heap[g]? = some (.cells cs T (0, 0)))
    (hi : (P.info? ty).map (·.size) = some cells.size) (hfit : o + cells.size ≤ cs.size) (h1 : ∀ u ∈ cells.toList, u.oneCell' = true)
    (h : ∀ w', w'.heap[g]? = some (.cells (putAt cs o cells.toList) T (0, 0)) → w.grownBy w' (some g) → K (a.put op.dst undef) w') : op.wp P a w K Q :=
  wp_store_mid ty x y ho g o cells hx hy (fun j hj => ⟨by rw [cell_of_row w g (o + j) cs T (0, 0) hg]; simp; omega, frozen_of_row w g _ cs T hg⟩) hi
    (Array.all_eq_true_iff_forall_mem.2 fun v hv => h1 v (by simpa using hv)) (h _ (heap_setCells g _ o w cs hg) (grown_setCells g _ o w))
end

theorem putAt_size : ∀ (vs : List Value) (o : Nat) (cs : Array Value), (putAt cs o vs).size = cs.size
  | [], _, _ => rfl
  | v :: r, o, cs => by rw [putAt, putAt_size r (o + 1)]; simp
theorem putAt_toList : ∀ (vs : List Value) (o : Nat) (cs : Array Value), o + vs.length ≤ cs.size → (putAt cs o vs).toList = cs.toList.take o ++ vs ++ cs.toList.drop (o + vs.length)
  | [], o, cs, _ => by simp [putAt]
  | v :: r, o, cs, h => by
    have hlt : o < cs.size := by simp at h; omega
    have ih := putAt_toList r (o + 1) (cs.setIfInBounds o v) (by simp at h ⊢; omega)
    rw [putAt, ih, Array.toList_setIfInBounds, List.take_succ_eq_append_getElem (by simpa using hlt), List.take_set_of_le (Nat.le_refl _), List.drop_set_of_lt (by omega)]
    simp [Nat.add_assoc, Nat.add_comm 1]
theorem take_splice (L c : List Value) (a N : Nat) (h : a + c.length ≤ N) (hN : N ≤ L.length) : (L.take a ++ c ++ L.drop (a + c.length)).take N = (L.take N).take a ++ c ++ (L.take N).drop (a + c.length) := by
  have hl : (L.take a ++ c).length = a + c.length := by simp; omega
  rw [List.take_append, List.take_of_length_le (by omega), List.take_take, Nat.min_eq_left (by omega), List.drop_take, hl]
/-- An element of a row of the call's own, written. -/
theorem ownsRow_stored {w w' : World} {base e k q n c : Nat} {xs cells : List Value} {cur : Array Value} (h : w.ownsRow base e k (.slice (some ⟨q, 0, none⟩) n c) n xs)
    (hc : w.heap[q]? = some (.cells cur e (0, 0))) {i : Nat} (hi : i < n) (hk : cells.length = k) (hw : w'.heap[q]? = some (.cells (putAt cur (i * k) cells) e (0, 0))) :
    w'.ownsRow base e k (.slice (some ⟨q, 0, none⟩) n c) n (xs.take (i * k) ++ cells ++ xs.drop (i * k + k)) := by
  have hle : i * k + k ≤ n * k := by
    have := Nat.mul_le_mul_right k (show i + 1 ≤ n from hi)
    rwa [Nat.add_mul, Nat.one_mul] at this
  have hl := h.1
  rcases h.2 with ⟨h0, _⟩ | ⟨g, cap, cur', hv, hb, hg, hnc, hm, hsz, ht⟩
  · cases h0
  · have e1 : q = g := by injection hv with e _ _; injection e with e; injection e
    have e2 : c = cap := by injection hv
    subst e1 e2
    obtain rfl : cur' = cur := by rw [hc] at hg; injection hg with e; injection e with e1; exact e1.symm
    have hnk : n * k ≤ cur'.size := by rw [hsz]; exact Nat.mul_le_mul_right _ hnc
    refine ⟨?_, .inr ⟨q, c, _, rfl, hb, hw, hnc, hm, by rw [putAt_size]; exact hsz, ?_⟩⟩
    · simp only [List.length_append, List.length_take, List.length_drop, hl, hk]
      omega
    · rw [putAt_toList _ _ _ (by rw [hk]; omega), ← ht, hk]
      have := take_splice cur'.toList cells (i * k) (n * k) (by omega) (by simpa using hnk)
      rw [hk] at this
      exact this

section
variable {P : Program}
/-- The results of a function: a struct in a block of its own, and a plain one. -/
theorem results_box2 {fn : Func} {p q : Tmp} {ty : TypeId} (h : fn.results = #[.cell p ty, .tmp q]) (tmps : Array Value) (w : World) (g : Nat) (T : TypeId) (cs : Array Value) (d : TypeDesc)
    (hp : tmps.getD p undef = .pointer (some ⟨g, 0, none⟩)) (hg : w.heap[g]? = some (.cells cs T (0, 0)))
    (hu : P.underlying ty = some d) (hd : (match d with | .struct _ | .array _ _ => true | _ => false) = true) (hi : (P.info? ty).map (·.size) = some cs.size) (v : Value) (hv : tmps.getD q undef = v) :
    (results fn tmps).run P w = .ok (.tuple #[.agg cs, v]) w := by
  have hp' : tmps[p]?.getD undef = .pointer (some ⟨g, 0, none⟩) := by simpa using hp
  have hv' : tmps[q]?.getD undef = v := by simpa using hv
  simp [results, h, hp', hv', asAddr, run_loadVar_row w g T ty cs (0, 0) d hg hu hd hi]
end
end Go.Proofs.Ytaimnhlpdkpobaa
