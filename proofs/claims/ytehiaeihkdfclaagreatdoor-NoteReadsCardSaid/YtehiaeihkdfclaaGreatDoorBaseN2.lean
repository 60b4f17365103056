/- Texts merged: Turned, Box, Parts, OrderR, PartN, PartE, PartF, PartT, Good, Record, NWrite, NRead, PartR, Lit, Lit2, LitN, Places, StepP, LitW, RecsS, Objects, GoodM. -/
import Derived.Test.YtehiaeihkdfclaaGreatDoorBaseN1
import Derived.OneCell
import Derived.Maps.AppendAt
import Derived.Laws.EntriesVeiled
import Derived.Lib.ConvBytes
import Derived.Laws.AppendOwn
import Derived.Test.YtehiaeihkdfclaaGreatDoorRows
import Derived.WalkLawsBesides
/- Worlds of which all but some blocks are as they were. -/
namespace Go.Proofs.YtehiaeihkdfclaaGreatDoor
open Go.RowKit

/-- From w to w' no block has turned of which S does not hold. -/
structure Turned (S : Nat → Prop) (w w' : World) : Prop where
  os : w'.os = w.os
  tape : w'.tape = w.tape
  output : w'.output = w.output
  size : w.heap.size ≤ w'.heap.size
  block : ∀ i, i < w.heap.size → ¬ S i → w'.heap[i]? = w.heap[i]?
section
variable {S : Nat → Prop} {a b c : World}
theorem Turned.refl (S : Nat → Prop) (w : World) : Turned S w w := ⟨rfl, rfl, rfl, Nat.le_refl _, fun _ _ _ => rfl⟩
theorem Turned.trans (h : Turned S a b) (k : Turned S b c) : Turned S a c :=
  ⟨k.os.trans h.os, k.tape.trans h.tape, k.output.trans h.output, Nat.le_trans h.size k.size, fun i hi hs => (k.block i (Nat.lt_of_lt_of_le hi h.size) hs).trans (h.block i hi hs)⟩
theorem Turned.of_below (h : Below a.heap.size a b) (S : Nat → Prop) : Turned S a b := ⟨h.os, h.tape, h.output, h.size, fun i hi _ => h.block i hi⟩
theorem Turned.of_grown {r : Option Nat} (h : a.grownBy b r) (hr : ∀ g, r = some g → S g) : Turned S a b :=
  ⟨h.os, h.tape, h.output, h.size, fun i hi hs => h.block i hi (fun e => hs (hr i e.symm))⟩
/-- What lies in new blocks may turn. -/
theorem Turned.onto {T : Nat → Prop} (h : Turned S a b) (k : Turned T b c) (ht : ∀ i, T i → S i ∨ a.heap.size ≤ i) : Turned S a c :=
  ⟨k.os.trans h.os, k.tape.trans h.tape, k.output.trans h.output, Nat.le_trans h.size k.size, fun i hi hs => (k.block i (Nat.lt_of_lt_of_le hi h.size) (fun e => (ht i e).elim hs (by omega))).trans (h.block i hi hs)⟩
theorem Turned.kept (h : Turned S a b) {F : Nat → Prop} (hf : ∀ i, F i → ¬ S i) : Kept F a b := ⟨h.size, fun i hi hF => h.block i hi (hf i hF)⟩
theorem Turned.mono {T : Nat → Prop} (h : Turned S a b) (ht : ∀ i, S i → T i) : Turned T a b := ⟨h.os, h.tape, h.output, h.size, fun i hi hs => h.block i hi (fun e => hs (ht i e))⟩
theorem Turned.below {B : Nat} (h : Turned S a b) (hs : ∀ i, S i → B ≤ i) (hB : B ≤ a.heap.size) : Below B a b :=
  ⟨h.os, h.tape, h.output, h.size, fun i hi => h.block i (Nat.lt_of_lt_of_le hi hB) (fun e => by have := hs i e; omega)⟩
theorem Turned.drewN (S : Nat → Prop) (w : World) (n : Nat) : Turned S w (w.drewN n) := ⟨rfl, rfl, rfl, Nat.le_refl _, fun _ _ _ => rfl⟩
theorem Turned.of_drew (h : Turned S a.drew b) : Turned S a b := ⟨h.os, h.tape, h.output, h.size, h.block⟩
end
end Go.Proofs.YtehiaeihkdfclaaGreatDoor
/- Blocks that are known whole: a struct read out of one, a struct written into one, at an operation; results that lie in such blocks. -/
namespace Go.Proofs.YtehiaeihkdfclaaGreatDoor
open Go.RowKit

/-- The cells with vs written from o on. -/
def putAt : Array Value → Nat → List Value → Array Value
  | cs, _, [] => cs
  | cs, o, v :: r => putAt (cs.setIfInBounds o v) (o + 1) r

theorem heap_setCells (b : Nat) {T : TypeId} : ∀ (vs : List Value) (o : Nat) (w : World) (cs : Array Value), w.heap[b]? = some (.cells cs T (0, 0)) → (w.setCells b o vs).heap[b]? = some (.cells (putAt cs o vs) T (0, 0))
  | [], _, _, _, h => h
  | v :: r, o, w, cs, h => heap_setCells b r (o + 1) _ _ (heap_setCell_same w b o cs T v h)
theorem grown_setCells (b : Nat) : ∀ (vs : List Value) (o : Nat) (w : World), w.grownBy (w.setCells b o vs) (some b)
  | [], _, w => World.grownBy.refl w _
  | v :: r, o, w => by
    have h1 : w.grownBy (w.setCell ⟨b, o, none⟩ v) (some b) := ⟨rfl, rfl, rfl, by simp [World.setCell], fun i hi hne => heap_setCell_other _ _ _ _ (fun e => hne (by rw [e]))⟩
    exact h1.trans (grown_setCells b r (o + 1) _)

section
variable {P : Program} {ops : Array Oper} {rest : List Oper} {op : Oper} {a : Act} {w : World} {Q : Exit → Act → World → Prop}

/-- A struct out of a block, from offset o on. -/
theorem wpList_load_box (hgd : op.guard = none) (ty : TypeId) (x : Operand) (ho : op.op = .load ty x)
    (g o : Nat) (hx : a.eval x = .pointer (some ⟨g, o, none⟩)) (T : TypeId) (cs : Array Value) (hg : w.heap[g]? = some (.cells cs T (0, 0))) (n : Nat) (d : TypeDesc)
    (hu : P.underlying ty = some d) (hd : d.isRow = true) (hi : (P.info? ty).map (·.size) = some n) (part : List Value) (hp : (cs.toList.drop o).take n = part) (hn : part.length = n)
    (h : wpList P ops Q rest (a.put op.dst (.agg part.toArray)) w) : wpList P ops Q (op :: rest) a w :=
  wpList_load_mid hgd ty x ho g o hx part d (fun j v hv => by
    rw [cell_of_row w g (o + j) cs T (0, 0) hg]
    have hj : j < n := by rw [← hn]; exact (List.getElem?_eq_some_iff.1 hv).1
    rw [← hp, List.getElem?_take_of_lt hj, List.getElem?_drop] at hv
    simpa using hv) hu hd (by rw [hn]; exact hi) h

/-- A struct into a block, from offset o on: some world in which that block alone has turned. -/
theorem wpList_store_box (hgd : op.guard = none) (ty : TypeId) (x y : Operand) (ho : op.op = .store ty x y)
    (g o : Nat) (cells : Array Value) (hx : a.eval x = .pointer (some ⟨g, o, none⟩)) (hy : a.eval y = .agg cells) (T : TypeId) (cs : Array Value) (hg : w.heap[g]? = some (.cells cs T (0, 0)))
    (hi : (P.info? ty).map (·.size) = some cells.size) (hfit : o + cells.size ≤ cs.size) (h1 : ∀ u ∈ cells.toList, u.oneCell' = true)
    (h : ∀ w', w'.heap[g]? = some (.cells (putAt cs o cells.toList) T (0, 0)) → w.grownBy w' (some g) → wpList P ops Q rest (a.put op.dst undef) w') : wpList P ops Q (op :: rest) a w :=
  wpList_store_mid hgd ty x y ho g o cells hx hy (fun j hj => ⟨by rw [cell_of_row w g (o + j) cs T (0, 0) hg]; simp; omega, frozen_of_row w g _ cs T hg⟩) hi
    (Array.all_eq_true_iff_forall_mem.2 fun v hv => h1 v (by simpa using hv)) (h _ (heap_setCells g _ o w cs hg) (grown_setCells g _ o w))
end

section
variable {P : Program} {op : Oper} {a : Act} {w : World}
/-- The same at an operation of a region that draws its order. -/
theorem exec_load_box (ty : TypeId) (x : Operand) (ho : op.op = .load ty x)
    (g o : Nat) (hx : a.eval x = .pointer (some ⟨g, o, none⟩)) (T : TypeId) (cs : Array Value) (hg : w.heap[g]? = some (.cells cs T (0, 0))) (n : Nat) (d : TypeDesc)
    (hu : P.underlying ty = some d) (hd : d.isRow = true) (hi : (P.info? ty).map (·.size) = some n) (part : List Value) (hp : (cs.toList.drop o).take n = part) (hn : part.length = n) :
    (execOp a.eval op).run P w = .ok (.value (.agg part.toArray)) w := by
  have hr : w.rangeAt g o part := fun j v hv => by
    rw [cell_of_row w g (o + j) cs T (0, 0) hg]
    have hj : j < n := by rw [← hn]; exact (List.getElem?_eq_some_iff.1 hv).1
    rw [← hp, List.getElem?_take_of_lt hj, List.getElem?_drop] at hv
    simpa using hv
  unfold execOp
  simp only [ho, hx, Instr.loadAt, Instr.sureAddr, Sem.run_bind, Sem.run_pure, Result.andThen_ok, run_loadVar_mid w g o ty part d hr hu hd (by rw [hn]; exact hi)]
theorem exec_load_range (ty : TypeId) (x : Operand) (ho : op.op = .load ty x)
    (g o : Nat) (hx : a.eval x = .pointer (some ⟨g, o, none⟩)) (part : List Value) (hr : w.rangeAt g o part) (d : TypeDesc)
    (hu : P.underlying ty = some d) (hd : d.isRow = true) (hi : (P.info? ty).map (·.size) = some part.length) :
    (execOp a.eval op).run P w = .ok (.value (.agg part.toArray)) w := by
  unfold execOp
  simp only [ho, hx, Instr.loadAt, Instr.sureAddr, Sem.run_bind, Sem.run_pure, Result.andThen_ok, run_loadVar_mid w g o ty part d hr hu hd hi]
theorem wp_store_box {K : Act → World → Prop} {Q : Exit → Act → World → Prop} (ty : TypeId) (x y : Operand) (ho : op.op = .store ty x y)
    (g o : Nat) (cells : Array Value) (hx : a.eval x = .pointer (some ⟨g, o, none⟩)) (hy : a.eval y = .agg cells) (T : TypeId) (cs : Array Value) (hg : w.heap[g]? = some (.cells cs T (0, 0)))
    (hi : (P.info? ty).map (·.size) = some cells.size) (hfit : o + cells.size ≤ cs.size) (h1 : ∀ u ∈ cells.toList, u.oneCell' = true)
    (h : ∀ w', w'.heap[g]? = some (.cells (putAt cs o cells.toList) T (0, 0)) → w.grownBy w' (some g) → K (a.put op.dst undef) w') : op.wp P a w K Q :=
  wp_store_mid ty x y ho g o cells hx hy (fun j hj => ⟨by rw [cell_of_row w g (o + j) cs T (0, 0) hg]; simp; omega, frozen_of_row w g _ cs T hg⟩) hi
    (Array.all_eq_true_iff_forall_mem.2 fun v hv => h1 v (by simpa using hv)) (h _ (heap_setCells g _ o w cs hg) (grown_setCells g _ o w))
end

theorem putAt_size : ∀ (vs : List Value) (o : Nat) (cs : Array Value), (putAt cs o vs).size = cs.size
  | [], _, _ => rfl
  | v :: r, o, cs => by rw [putAt, putAt_size r (o + 1)]; simp
theorem putAt_toList : ∀ (vs : List Value) (o : Nat) (cs : Array Value), o + vs.length ≤ cs.size → (putAt cs o vs).toList = cs.toList.take o ++ vs ++ cs.toList.drop (o + vs.length)
  | [], o, cs, _ => by simp [putAt]
  | v :: r, o, cs, h => by
    have hlt : o < cs.size := by simp at h; omega
    have ih := putAt_toList r (o + 1) (cs.setIfInBounds o v) (by simp at h ⊢; omega)
    rw [putAt, ih, Array.toList_setIfInBounds, List.take_succ_eq_append_getElem (by simpa using hlt), List.take_set_of_le (Nat.le_refl _), List.drop_set_of_lt (by omega)]
    simp [Nat.add_assoc, Nat.add_comm 1]
theorem take_splice (L c : List Value) (a N : Nat) (h : a + c.length ≤ N) (hN : N ≤ L.length) : (L.take a ++ c ++ L.drop (a + c.length)).take N = (L.take N).take a ++ c ++ (L.take N).drop (a + c.length) := by
  have hl : (L.take a ++ c).length = a + c.length := by simp; omega
  rw [List.take_append, List.take_of_length_le (by omega), List.take_take, Nat.min_eq_left (by omega), List.drop_take, hl]
/-- An element of a row of the call's own, written. -/
theorem ownsRow_stored {w w' : World} {base e k q n c : Nat} {xs cells : List Value} {cur : Array Value} (h : w.ownsRow base e k (.slice (some ⟨q, 0, none⟩) n c) n xs)
    (hc : w.heap[q]? = some (.cells cur e (0, 0))) {i : Nat} (hi : i < n) (hk : cells.length = k) (hw : w'.heap[q]? = some (.cells (putAt cur (i * k) cells) e (0, 0))) :
    w'.ownsRow base e k (.slice (some ⟨q, 0, none⟩) n c) n (xs.take (i * k) ++ cells ++ xs.drop (i * k + k)) := by
  have hle : i * k + k ≤ n * k := by
    have := Nat.mul_le_mul_right k (show i + 1 ≤ n from hi)
    rwa [Nat.add_mul, Nat.one_mul] at this
  have hl := h.1
  rcases h.2 with ⟨h0, _⟩ | ⟨g, cap, cur', hv, hb, hg, hnc, hm, hsz, ht⟩
  · cases h0
  · have e1 : q = g := by injection hv with e _ _; injection e with e; injection e
    have e2 : c = cap := by injection hv
    subst e1 e2
    obtain rfl : cur' = cur := by rw [hc] at hg; injection hg with e; injection e with e1; exact e1.symm
    have hnk : n * k ≤ cur'.size := by rw [hsz]; exact Nat.mul_le_mul_right _ hnc
    refine ⟨?_, .inr ⟨q, c, _, rfl, hb, hw, hnc, hm, by rw [putAt_size]; exact hsz, ?_⟩⟩
    · simp only [List.length_append, List.length_take, List.length_drop, hl, hk]
      omega
    · rw [putAt_toList _ _ _ (by rw [hk]; omega), ← ht, hk]
      have := take_splice cur'.toList cells (i * k) (n * k) (by omega) (by simpa using hnk)
      rw [hk] at this
      exact this

section
variable {P : Program}
/-- The results of a function: a struct in a block of its own, and a plain one. -/
theorem results_box2 {fn : Func} {p q : Tmp} {ty : TypeId} (h : fn.results = #[.cell p ty, .tmp q]) (tmps : Array Value) (w : World) (g : Nat) (T : TypeId) (cs : Array Value) (d : TypeDesc)
    (hp : tmps.getD p undef = .pointer (some ⟨g, 0, none⟩)) (hg : w.heap[g]? = some (.cells cs T (0, 0)))
    (hu : P.underlying ty = some d) (hd : (match d with | .struct _ | .array _ _ => true | _ => false) = true) (hi : (P.info? ty).map (·.size) = some cs.size) (v : Value) (hv : tmps.getD q undef = v) :
    (results fn tmps).run P w = .ok (.tuple #[.agg cs, v]) w := by
  have hp' : tmps[p]?.getD undef = .pointer (some ⟨g, 0, none⟩) := by simpa using hp
  have hv' : tmps[q]?.getD undef = v := by simpa using hv
  simp [results, h, hp', hv', asAddr, run_loadVar_row w g T ty cs (0, 0) d hg hu hd hi]
end
end Go.Proofs.YtehiaeihkdfclaaGreatDoor
/- Parts of a record in memory: how they lie there; what is said of how they write and read. -/
namespace Go.Proofs.YtehiaeihkdfclaaGreatDoor
open Go.RowKit

/-- A part: its number, the closures that write and read it, with what they hold. -/
structure PartV where
  num : Int
  wf : FuncId
  wc : Array Value
  rf : FuncId
  rc : Array Value
namespace PartV
def cells (p : PartV) : List Value := [.int .i64 p.num, .func (.func p.wf) #[] p.wc, .func (.func p.rf) #[] p.rc]
theorem len (p : PartV) : p.cells.length = 3 := rfl
theorem one (p : PartV) : ∀ u ∈ p.cells, u.oneCell' = true := by simp [cells, Value.oneCell']
end PartV

/-- The blocks from a on, ahead of b, are as they are in w0. -/
def Stay (a b : Nat) (w0 w : World) : Prop := b ≤ w.heap.size ∧ ∀ k, a ≤ k → k < b → w.heap[k]? = w0.heap[k]?
theorem Stay.refl {a b : Nat} {w : World} (h : b ≤ w.heap.size) : Stay a b w w := ⟨h, fun _ _ _ => rfl⟩
theorem Stay.later {a b : Nat} {w0 w w' : World} (h : Stay a b w0 w) (hl : Later w w') : Stay a b w0 w' :=
  ⟨Nat.le_trans h.1 (Below.size hl), fun k h1 h2 => (Below.block hl k (Nat.lt_of_lt_of_le h2 h.1)).trans (h.2 k h1 h2)⟩
theorem Stay.turned {a b : Nat} {w0 w w' : World} {P : Nat → Prop} (h : Stay a b w0 w) (ht : Turned P w w') (hP : ∀ k, a ≤ k → k < b → ¬ P k) : Stay a b w0 w' :=
  ⟨Nat.le_trans h.1 ht.size, fun k h1 h2 => (ht.block k (Nat.lt_of_lt_of_le h2 h.1) (hP k h1 h2)).trans (h.2 k h1 h2)⟩
/-- A smaller stretch, as it is in an earlier world of which w0 is a later one. -/
theorem Stay.part {a b a1 b1 : Nat} {w0 w1 w : World} (h : Stay a b w0 w) (ha : a ≤ a1) (hb : b1 ≤ b) (h1 : b1 ≤ w1.heap.size) (hl : Later w1 w0) : Stay a1 b1 w1 w :=
  ⟨Nat.le_trans hb h.1, fun k h2 h3 => (h.2 k (by omega) (by omega)).trans (Below.block hl k (by omega))⟩

/-- A field of which the bytes lie in a block of bytes. -/
def FdAt (w : World) (f : Fd) : Prop := f.ok w w.heap.size ∧ (0 < f.n → ∃ b off cs fr, f.a = some ⟨b, off, none⟩ ∧ w.heap[b]? = some (.cells cs 5 fr))
theorem FdAt.ok {w : World} {f : Fd} (h : FdAt w f) : f.ok w w.heap.size := h.1
theorem FdAt.of_heap {w w' : World} {f : Fd} (h : FdAt w f) (hsz : w.heap.size ≤ w'.heap.size) (hk : ∀ (b : Nat) (cs : Array Value) (fr : Nat × Nat), w.heap[b]? = some (.cells cs 5 fr) → w'.heap[b]? = w.heap[b]?) : FdAt w' f := by
  obtain ⟨⟨h1, h2, h3, h4⟩, h5⟩ := h
  refine ⟨⟨h1, h2, h3, h4.1, h4.2.1, fun hn => ?_⟩, fun hn => ?_⟩
  · obtain ⟨b, off, cs, fr, ha, hb⟩ := h5 hn
    obtain ⟨b', off', ha', hlt, hc⟩ := h4.2.2 hn
    obtain ⟨rfl, rfl⟩ : b = b' ∧ off = off' := by rw [ha] at ha'; injection ha' with e; injection e with e1 e2; exact ⟨e1, e2⟩
    refine ⟨b, off, ha, by omega, fun i hi => ?_⟩
    rw [World.cell?_of_block (w := w) (hk b cs fr hb)]
    exact hc i hi
  · obtain ⟨b, off, cs, fr, ha, hb⟩ := h5 hn
    exact ⟨b, off, cs, fr, ha, (hk b cs fr hb).trans hb⟩
theorem FdAt.below {w w' : World} {f : Fd} (h : FdAt w f) (hl : Later w w') : FdAt w' f := h.of_heap (Below.size hl) fun b _ _ hb => Below.block hl b (lt_of_block hb)
theorem FdAt.kept {w w' : World} {base e size n : Nat} {v : Value} {xs : List Value} {f : Fd} (h : FdAt w f) (ho : w.ownsRow base e size v n xs) (hg : w.grownBy w' v.ownBlock) (hne : e ≠ 5) : FdAt w' f :=
  h.of_heap hg.size fun b cs fr hb => hg.block b (lt_of_block hb) (fun e2 => by
    rcases ho.2 with ⟨rfl, _⟩ | ⟨g', cap, cur, rfl, _, hh, _⟩
    · simp [Value.ownBlock] at e2
    · have e3 : b = g' := by simpa [Value.ownBlock] using e2
      rw [← e3, hb] at hh
      injection hh with hh
      injection hh with _ ht
      exact hne ht.symm)
theorem FdOwn.at_ {w : World} {base : Nat} {f : Fd} (h : FdOwn w base f) : FdAt w f := ⟨h.ok, fun hn => by
  rcases h.2.2.2.2 with ⟨_, h0⟩ | ⟨g, cap, cur, hv, _, hb, _⟩
  · omega
  · injection hv with e1 _ _
    exact ⟨g, 0, cur, _, e1, hb⟩⟩
theorem FdAt.plain {w : World} {h : Int} {V : Nat} (hh : I64 h) (hV : V < 18446744073709551616) : FdAt w ⟨h, false, V, none, 0, 0, []⟩ := ⟨⟨hh, hV, Nat.le_refl _, Holds.nil_ _ _⟩, fun hn => by cases hn⟩

/-- What a part's writing tells: these fields. -/
def FieldsIs (fs : List PF) (w : World) (e : Ending) (w' : World) : Prop :=
  ∃ A n c fds, e = .returned (.slice A n c) ∧ FHolds w' w'.heap.size A n fds ∧ (∀ f ∈ fds, FdAt w' f) ∧ fds.map Fd.pf = fs ∧ n ≤ c ∧ Later w w'

/-- A function of the program's own: its call enters it. -/
def Enters (F : FuncId) : Prop := ∀ (args : Array Value) (w : World), (callFunc F args).run Tryz.prog w = .ok (.enter F args) w
/-- Where St holds and the blocks from a to b are as in w0, the part p writes fs. -/
def WrOK (a b : Nat) (w0 : World) (St : World → Prop) (p : PartV) (fs : List PF) : Prop :=
  Enters p.wf ∧ ∀ w, Stay a b w0 w → St w → Calls Tryz.prog p.wf p.wc w (FieldsIs fs w)
theorem WrOK.part {a b a1 b1 : Nat} {w0 w1 : World} {St : World → Prop} {p : PartV} {fs : List PF} (h : WrOK a1 b1 w1 St p fs) (ha : a ≤ a1) (hb : b1 ≤ b) (h1 : b1 ≤ w1.heap.size) (hl : Later w1 w0) : WrOK a b w0 St p fs :=
  ⟨h.1, fun w hs hst => h.2 w (hs.part ha hb h1 hl) hst⟩
theorem WrOK.st {a b : Nat} {w0 : World} {St St' : World → Prop} {p : PartV} {fs : List PF} (h : WrOK a b w0 St p fs) (hs : ∀ w, St' w → St w) : WrOK a b w0 St' p fs := ⟨h.1, fun w h1 h2 => h.2 w h1 (hs w h2)⟩

/-- What is kept of an object in memory: P holds of its blocks. -/
structure InvOK {S : Type} (Inv : (Nat → Prop) → S → World → Prop) : Prop where
  mono : ∀ P Q s w, (∀ k, k < w.heap.size → P k → Q k) → Inv P s w → Inv Q s w
  keep : ∀ P s w w', Kept P w w' → Inv P s w → Inv P s w'

/-- The part p, told a field, turns the object as act says, and nothing else. -/
def RdOK {S : Type} (a b : Nat) (w0 : World) (Inv : (Nat → Prop) → S → World → Prop) (sz : S → Nat) (p : PartV) (act : S → PF → S) : Prop :=
  Enters p.rf ∧ ∀ (P : Nat → Prop) (s : S) (w : World) (f : Fd), Stay a b w0 w → (∀ k, a ≤ k → k < b → ¬ P k) → (∀ k, w.heap.size ≤ k → P k) → Inv P s w → f.ok w w.heap.size → sz s + 1 + f.n ≤ 1000000 →
    Calls Tryz.prog p.rf (#[f.val] ++ p.rc) w fun e w' => e = .returned (.tuple #[]) ∧ Inv P (act s f.pf) w' ∧ Turned P w w'
theorem RdOK.part {S : Type} {a b a1 b1 : Nat} {w0 w1 : World} {Inv : (Nat → Prop) → S → World → Prop} {sz : S → Nat} {p : PartV} {act : S → PF → S} (h : RdOK a1 b1 w1 Inv sz p act) (ha : a ≤ a1) (hb : b1 ≤ b) (h1 : b1 ≤ w1.heap.size) (hl : Later w1 w0) : RdOK a b w0 Inv sz p act :=
  ⟨h.1, fun P s w f hs hP => h.2 P s w f (hs.part ha hb h1 hl) (fun k h2 h3 => hP k (by omega) (by omega))⟩

/-- The slice v holds these parts, in the stretch from a to b. -/
def PartsAt (a b : Nat) (w : World) (v : Value) (ps : List PartV) : Prop := FlatAt (fun k => a ≤ k ∧ k < b) w 3 v ps.length (ps.flatMap PartV.cells)
theorem PartsAt.at_ {a b : Nat} {w : World} {v : Value} {ps : List PartV} (h : PartsAt a b w v ps) {i : Nat} (hi : i < ps.length) : ∃ p k off c, ps[i]? = some p ∧ v = .slice (some ⟨k, off, none⟩) ps.length c ∧ ps.length ≤ c ∧ k < w.heap.size ∧
    w.cell? ⟨k, off + i * 3, none⟩ = some (.int .i64 p.num) ∧ w.cell? ⟨k, off + i * 3 + 1, none⟩ = some (.func (.func p.wf) #[] p.wc) ∧ w.cell? ⟨k, off + i * 3 + 2, none⟩ = some (.func (.func p.rf) #[] p.rc) := by
  obtain ⟨k, off, c, hv, hc, hf, hb, hr⟩ := FlatAt.elem h hi
  have hs : ps[i]? = some ps[i] := List.getElem?_eq_getElem hi
  rw [flat_get PartV.cells 3 ps i _ (fun y _ => y.len) hs] at hr
  exact ⟨ps[i], k, off, c, hs, hv, hc, hb, hr 0 _ rfl, hr 1 _ rfl, hr 2 _ rfl⟩
theorem PartsAt.stay {a b : Nat} {w w' : World} {v : Value} {ps : List PartV} (h : PartsAt a b w v ps) (hs : Stay a b w w') (hsz : w.heap.size ≤ w'.heap.size) : PartsAt a b w' v ps :=
  FlatAt.kept h ⟨hsz, fun i _ hi => hs.2 i hi.1 hi.2⟩

/-- Two lists that are alike, one by one. -/
inductive All2 {α β : Type} (R : α → β → Prop) : List α → List β → Prop
  | nil : All2 R [] []
  | cons {x : α} {y : β} {l : List α} {m : List β} : R x y → All2 R l m → All2 R (x :: l) (y :: m)
theorem All2.imp {α β : Type} {R R' : α → β → Prop} (h : ∀ x y, R x y → R' x y) : ∀ {l : List α} {m : List β}, All2 R l m → All2 R' l m
  | _, _, .nil => .nil
  | _, _, .cons h1 h2 => .cons (h _ _ h1) (All2.imp h h2)
/-- Parts, one by one, with what each writes, with what each reads. -/
def WrAll (a b : Nat) (w0 : World) (St : World → Prop) (ps : List PartV) (fss : List (List PF)) : Prop := All2 (fun p fs => WrOK a b w0 St p fs) ps fss
def RdAll {S : Type} (a b : Nat) (w0 : World) (Inv : (Nat → Prop) → S → World → Prop) (sz : S → Nat) (ps : List PartV) (acts : Parts S) : Prop := All2 (fun p q => p.num = q.1 ∧ RdOK a b w0 Inv sz p q.2) ps acts

theorem all2_at {α β : Type} {R : α → β → Prop} : ∀ {l : List α} {m : List β}, All2 R l m → ∀ {i : Nat} {x : α}, l[i]? = some x → ∃ y, m[i]? = some y ∧ R x y
  | _, _, .nil, _, _, h => by simp at h
  | _, _, .cons h1 _, 0, x, h => by
    obtain rfl : _ = x := by simpa using h
    exact ⟨_, rfl, h1⟩
  | _, _, .cons _ h2, i + 1, x, h => all2_at h2 (by simpa using h)
theorem all2_len {α β : Type} {R : α → β → Prop} : ∀ {l : List α} {m : List β}, All2 R l m → l.length = m.length
  | _, _, .nil => rfl
  | _, _, .cons _ h => by simp [all2_len h]

theorem take_flat {fss : List (List PF)} {k : Nat} {fs : List PF} (h : fss[k]? = some fs) : (fss.take (k + 1)).flatten = (fss.take k).flatten ++ fs := by
  rw [List.take_add_one, h]
  simp
theorem take_flat_room (fss : List (List PF)) (k : Nat) : proom (fss.take k).flatten ≤ proom fss.flatten := by
  have : fss.flatten = (fss.take k).flatten ++ (fss.drop k).flatten := by rw [← List.flatten_append, List.take_append_drop]
  rw [this, proom_append]
  omega
theorem proom_count : ∀ ps : List PF, ps.length * 20 ≤ proom ps
  | [] => by simp [proom]
  | p :: r => by
    have := proom_count r
    simp only [proom, List.map_cons, List.sum_cons, List.length_cons] at *
    omega
theorem room_pf : ∀ (fs : List Fd), (∀ f ∈ fs, f.b.length = f.n) → room fs = proom (fs.map Fd.pf)
  | [], _ => rfl
  | f :: r, h => by
    have := room_pf r fun g hg => h g (by simp [hg])
    have h1 := h f (by simp)
    simp only [room, proom, List.map_cons, List.sum_cons, Fd.pf] at *
    omega
theorem own_same_low {w w' : World} {base e size n : Nat} {v : Value} {xs : List Value} (h : w.ownsRow base e size v n xs) (hk : ∀ g, base ≤ g → g < w.heap.size → w'.heap[g]? = w.heap[g]?) : w'.ownsRow base e size v n xs := by
  refine ⟨h.1, ?_⟩
  rcases h.2 with hn | ⟨g, cap, cur, rfl, hb, hg, rest⟩
  · exact .inl hn
  · exact .inr ⟨g, cap, cur, rfl, hb, (hk g hb (lt_of_block hg)).trans hg, rest⟩
theorem FdOwn.low {w w' : World} {base : Nat} {f : Fd} (h : FdOwn w base f) (hk : ∀ g, base ≤ g → g < w.heap.size → w'.heap[g]? = w.heap[g]?) : FdOwn w' base f := ⟨h.1, h.2.1, h.2.2.1, own_same_low h.2.2.2 hk⟩
end Go.Proofs.YtehiaeihkdfclaaGreatDoor
/- A region whose order is open, of calls that turn but one part of memory beside operations that read another: as text Order, over whatever relation of worlds. -/
namespace Go.Proofs.YtehiaeihkdfclaaGreatDoor
open Go.RowKit

/-- A relation of worlds that goes on. -/
def Pre (R : World → World → Prop) : Prop := (∀ w, R w w) ∧ ∀ {a b c : World}, R a b → R b c → R a c
theorem pre_grown (r : Option Nat) : Pre (fun a b => a.grownBy b r) := ⟨fun w => World.grownBy.refl w r, fun h k => h.trans k⟩

section
variable {P : Program} {ops : Array Oper} {Q : Exit → Act → World → Prop} {md : Region.Mode} {R : World → World → Prop}

/-- Whatever order is picked from here on, and behind each operation the world is a later one. -/
def wpAnyR (R : World → World → Prop) (P : Program) (md : Region.Mode) (ops : Array Oper) (Q : Exit → Act → World → Prop) : Nat → Array Bool → Act → World → Prop
  | 0, listed, a, w => Region.ready md ops listed = [] ∧ Q .normal a w
  | fuel + 1, listed, a, w =>
    (Region.ready md ops listed = [] → Q .normal a w) ∧
    ∀ i ∈ Region.ready md ops listed, wpOp P ops Q i (fun a' w' => R w w' ∧ wpAnyR R P md ops Q fuel (listed.setIfInBounds i true) a' w') a w

theorem wpAny_of_R : ∀ (fuel : Nat) (listed : Array Bool) (a : Act) (w : World), wpAnyR R P md ops Q fuel listed a w → wpAny P md ops Q fuel listed a w
  | 0, _, _, _, h => h
  | fuel + 1, _, _, _, h => ⟨h.1, fun i hi => wpOp_mono (fun a' w' h' => wpAny_of_R fuel _ a' w' h'.2) (h.2 i hi)⟩

/-- What yields its value in all later worlds does so in those that are later than a later one. -/
theorem yields_rel {o : Oper} {v : Value} {a : Act} {w w' : World} (h : YieldsIf P ops (R w) o v a) (hR : Pre R) (hl : R w w') : YieldsIf P ops (R w') o v a :=
  h.imp (fun ⟨hw, hv⟩ => ⟨hw, fun u hu => hv u (hR.2 hl hu)⟩) id

/-- Such an operation, if it may come up, may come up at once. -/
theorem wpAnyR_first (hR : Pre R) {i : Nat} {oi : Oper} {v : Value} (hi : ops[i]? = some oi) (hsel : ∀ (j : Nat) (o : Oper) cs b, ops[j]? = some o → o.op ≠ .select cs b)
    (hQ : ∀ c a w, Q (.panic c) (a.put oi.dst v) w → Q (.panic c) a w) :
    ∀ (fuel : Nat) (listed : Array Bool) (a : Act) (w : World),
      (∀ j oj, ops[j]? = some oj → j ≠ i → listed.getD j true = false → (∀ e ∈ oj.after, Region.binds md e = true → e.on ≠ i) → oi.apart ops oj = true) →
      i ∈ Region.ready md ops listed → YieldsIf P ops (R w) oi v a →
      wpAnyR R P md ops Q fuel (listed.setIfInBounds i true) (a.put oi.dst v) w → wpAnyR R P md ops Q (fuel + 1) listed a w := by
  intro fuel
  induction fuel with
  | zero =>
    intro listed a w _ hr hy H
    refine ⟨fun h => (by rw [h] at hr; cases hr), fun j hj => ?_⟩
    by_cases hji : j = i
    · subst hji
      exact hy.wpOp hi (hR.1 w) ⟨hR.1 w, H⟩
    · have := ready_mono hj hji
      rw [H.1] at this
      cases this
  | succ fuel ih =>
    intro listed a w hfree hr hy H
    refine ⟨fun h => (by rw [h] at hr; cases hr), fun j hj => ?_⟩
    by_cases hji : j = i
    · subst hji
      exact hy.wpOp hi (hR.1 w) ⟨hR.1 w, H⟩
    · have h1 := H.2 j (ready_mono hj hji)
      obtain ⟨hjun, oj, hoj, hall⟩ := mem_ready.1 hj
      have hnot : ∀ e ∈ oj.after, Region.binds md e = true → e.on ≠ i := fun e he hb heq => by
        have q1 := hall e he hb
        have q0 := (mem_ready.1 hr).1
        rw [heq] at q1
        rcases Nat.lt_or_ge i listed.size with h' | h'
        · simp [h'] at q0 q1
          rw [q0] at q1
          cases q1
        · simp [Array.getElem?_eq_none h'] at q1
      have h2 := wpOp_putIf hoj (hfree j oj hoj hji hjun hnot) (fun cs b => hsel i oi cs b hi) (fun cs b => hsel j oj cs b hoj) hQ hy h1
      have hfree' : ∀ k ok, ops[k]? = some ok → k ≠ i → (listed.setIfInBounds j true).getD k true = false →
          (∀ e ∈ ok.after, Region.binds md e = true → e.on ≠ i) → oi.apart ops ok = true := fun k ok hk hki hun hno => by
        refine hfree k ok hk hki ?_ hno
        by_cases hjk : j = k
        · subst hjk; exact hjun
        · rw [getD_set_ne true hjk] at hun; exact hun
      refine wpOp_mono (fun a' w' h3 => ⟨h3.2.1, ih (listed.setIfInBounds j true) a' w' hfree' (ready_mono hr (Ne.symm hji)) (yields_rel h3.1 hR h3.2.1) ?_⟩) h2
      rw [Array.setIfInBounds_comm _ _ hji]
      exact h3.2.2

/-- The moves: an operation that may come up at once; the one that must; the end; the beginning. -/
theorem wpAnyR_take (hR : Pre R) {i : Nat} {oi : Oper} {d : Option Tmp} {v : Value} {fuel : Nat} {listed : Array Bool} {a : Act} {w : World} (hi : ops[i]? = some oi) (hd : oi.dst = d)
    (hs : Region.noSelect ops = true) (hf : Region.free md ops listed i = true) (hr : (Region.ready md ops listed).contains i = true)
    (hQ : ∀ c a w, Q (.panic c) (a.put d v) w → Q (.panic c) a w) (hw : Region.wanted oi (yielded ops a.tmps) = true) (hy : ∀ w', R w w' → (execOp a.eval oi).run P w' = .ok (.value v) w')
    (h : wpAnyR R P md ops Q fuel (listed.setIfInBounds i true) (a.put d v) w) : wpAnyR R P md ops Q (fuel + 1) listed a w := by
  subst hd
  exact wpAnyR_first hR hi (Region.noSelect_spec hs) hQ fuel listed a w (Region.free_spec hi hf) (by simpa using hr) (.inl ⟨hw, hy⟩) h

theorem wpAnyR_pass (hR : Pre R) {i : Nat} {oi : Oper} {d : Option Tmp} {fuel : Nat} {listed : Array Bool} {a : Act} {w : World} (hi : ops[i]? = some oi) (hd : oi.dst = d)
    (hs : Region.noSelect ops = true) (hf : Region.free md ops listed i = true) (hr : (Region.ready md ops listed).contains i = true)
    (hQ : ∀ c a w, Q (.panic c) (a.put d undef) w → Q (.panic c) a w) (hw : Region.wanted oi (yielded ops a.tmps) = false)
    (h : wpAnyR R P md ops Q fuel (listed.setIfInBounds i true) (a.put d undef) w) : wpAnyR R P md ops Q (fuel + 1) listed a w := by
  subst hd
  exact wpAnyR_first hR hi (Region.noSelect_spec hs) hQ fuel listed a w (Region.free_spec hi hf) (by simpa using hr) (.inr ⟨hw, rfl⟩) h

theorem wpAnyR_only {i : Nat} {o : Oper} {fuel : Nat} {listed : Array Bool} {a : Act} {w : World} (ho : ops[i]? = some o) (hr : Region.ready md ops listed = [i]) (hw : Region.wanted o (yielded ops a.tmps) = true)
    (h : ∀ K' : Act → World → Prop, Hid (∀ a' w', R w w' → wpAnyR R P md ops Q fuel (listed.setIfInBounds i true) a' w' → K' a' w') → Oper.wp P o a w K' Q) : wpAnyR R P md ops Q (fuel + 1) listed a w := by
  refine ⟨fun h0 => absurd (hr ▸ h0) (by simp), fun j hj => ?_⟩
  rw [hr] at hj
  obtain rfl : j = i := by simpa using hj
  refine wpOp_step ho fun K' hK => ?_
  rw [if_pos hw]
  exact h K' fun a' w' hl hn => hK a' w' ⟨hl, hn⟩

theorem wpAnyR_two {i j : Nat} {oi oj : Oper} {fuel : Nat} {listed : Array Bool} {a : Act} {w : World} (hoi : ops[i]? = some oi) (hoj : ops[j]? = some oj) (hr : Region.ready md ops listed = [i, j])
    (hwi : Region.wanted oi (yielded ops a.tmps) = true) (hwj : Region.wanted oj (yielded ops a.tmps) = true)
    (hi : ∀ K' : Act → World → Prop, Hid (∀ a' w', R w w' → wpAnyR R P md ops Q fuel (listed.setIfInBounds i true) a' w' → K' a' w') → Oper.wp P oi a w K' Q)
    (hj : ∀ K' : Act → World → Prop, Hid (∀ a' w', R w w' → wpAnyR R P md ops Q fuel (listed.setIfInBounds j true) a' w' → K' a' w') → Oper.wp P oj a w K' Q) : wpAnyR R P md ops Q (fuel + 1) listed a w := by
  refine ⟨fun h0 => absurd (hr ▸ h0) (by simp), fun k hk => ?_⟩
  rw [hr] at hk
  rcases List.mem_cons.1 hk with rfl | hk
  · refine wpOp_step hoi fun K' hK => ?_
    rw [if_pos hwi]
    exact hi K' fun a' w' hl hn => hK a' w' ⟨hl, hn⟩
  · obtain rfl : k = j := by simpa using hk
    refine wpOp_step hoj fun K' hK => ?_
    rw [if_pos hwj]
    exact hj K' fun a' w' hl hn => hK a' w' ⟨hl, hn⟩

theorem wpAnyR_done {listed : Array Bool} {a : Act} {w : World} (hr : Region.ready md ops listed = []) (h : Q .normal a w) : ∀ fuel, wpAnyR R P md ops Q fuel listed a w
  | 0 => ⟨hr, h⟩
  | _ + 1 => ⟨fun _ => h, by rw [hr]; simp⟩

theorem wp_region_R {id : Nat} {a : Act} {w : World} (hm : P.follows .mixedOrders = true)
    (h : wpAnyR R P .any ops Q ops.size (Array.replicate ops.size false) a w.drew) : (Code.region id ops true).wp P Q a w :=
  wp_region_any hm (wpAny_of_R _ _ _ _ h)
end

end Go.Proofs.YtehiaeihkdfclaaGreatDoor
/- The parts of numbers: how they are written, how they are read. -/
namespace Go.Proofs.YtehiaeihkdfclaaGreatDoor
open Go.RowKit

/-- An object's number at this address. -/
def NumPl {S : Type} (Inv : (Nat → Prop) → S → World → Prop) (g o : Nat) (set : S → Int → S) : Prop :=
  ∀ P s w, Inv P s w → P g ∧ g < w.heap.size ∧ (∃ x, w.cell? ⟨g, o, none⟩ = some (.int .i64 x)) ∧ w.frozen? ⟨g, o, none⟩ = false ∧ ∀ x, I64 x → Inv P (set s x) (w.setCell ⟨g, o, none⟩ (.int .i64 x))
theorem NumPl.lt {S : Type} {Inv : (Nat → Prop) → S → World → Prop} {g o : Nat} {set : S → Int → S} {P : Nat → Prop} {s : S} {w : World} (h : NumPl Inv g o set) (hi : Inv P s w) : g < w.heap.size := (h P s w hi).2.1
theorem grown_cell (w : World) (g o : Nat) (v : Value) : w.grownBy (w.setCell ⟨g, o, none⟩ v) (some g) :=
  ⟨rfl, rfl, rfl, by simp [World.setCell], fun i _ hne => heap_setCell_other _ _ _ _ (fun e => hne (by rw [e]))⟩
theorem heap_third (w : World) (A B C : Obj) : (((w.alloc A).alloc B).alloc C).heap[w.heap.size + 1 + 1]? = some C := by
  have h := heap_alloc_new ((w.alloc A).alloc B) C
  rwa [show ((w.alloc A).alloc B).heap.size = w.heap.size + 1 + 1 from by simp] at h
theorem heap_firsts (w : World) (A B C : Obj) : (((w.alloc A).alloc B).alloc C).heap[w.heap.size]? = some A ∧ (((w.alloc A).alloc B).alloc C).heap[w.heap.size + 1]? = some B ∧ (((w.alloc A).alloc B).alloc C).heap.size = w.heap.size + 3 := by
  have z1 : (w.alloc A).heap.size = w.heap.size + 1 := World.size_alloc _ _
  have z2 : ((w.alloc A).alloc B).heap.size = w.heap.size + 1 + 1 := by rw [World.size_alloc, z1]
  have h1 : ((w.alloc A).alloc B).heap[w.heap.size]? = some A := (Below.block (Later.alloc (w.alloc A) B) _ (by omega)).trans (heap_alloc_new w A)
  have h2 : ((w.alloc A).alloc B).heap[w.heap.size + 1]? = some B := by
    have h := heap_alloc_new (w.alloc A) B
    rwa [z1] at h
  exact ⟨(Below.block (Later.alloc ((w.alloc A).alloc B) C) _ (by omega)).trans h1, (Below.block (Later.alloc ((w.alloc A).alloc B) C) _ (by omega)).trans h2, by rw [World.size_alloc, z2]⟩
theorem turned_drew (P : Nat → Prop) (w : World) : Turned P w w.drew := ⟨rfl, rfl, rfl, Nat.le_refl _, fun _ _ _ => rfl⟩
/-- What a number's part is. -/
def NumIs (num : Int) (g o : Nat) (w : World) (e : Ending) (w' : World) : Prop :=
  ∃ p : PartV, e = .returned (.agg p.cells.toArray) ∧ p.num = num ∧ Later w w' ∧
    (∀ (St : World → Prop) (v : Int), I64 v → (∀ w, St w → w.cell? ⟨g, o, none⟩ = some (.int .i64 v)) → WrOK w.heap.size w'.heap.size w' St p (pnum num v)) ∧
    (∀ (S : Type) (Inv : (Nat → Prop) → S → World → Prop) (sz : S → Nat) (set : S → Int → S), InvOK Inv → NumPl Inv g o set → RdOK w.heap.size w'.heap.size w' Inv sz p fun s f => set s (zag f.2.2.1))
/-- One field, in a new block. -/
theorem fields_one {w w1 : World} {fs : List PF} {p : PF} {f : Fd} (hfs : fs = [p]) (hp : f.pf = p) (hl : Later w w1) (ho : FdAt w1 f) :
    FieldsIs fs w (.returned (.slice (some ⟨w1.heap.size, 0, none⟩) 1 1)) (w1.alloc (.cells #[.int .i64 f.num, .bool f.text, .int .u64 f.v, .slice f.a f.n f.c] 140 (0, 0))) := by
  have hl2 : Later w1 (w1.alloc (.cells #[.int .i64 f.num, .bool f.text, .int .u64 f.v, .slice f.a f.n f.c] 140 (0, 0))) := Later.alloc _ _
  have ho2 := ho.below hl2
  refine ⟨_, 1, 1, [f], rfl, ⟨rfl, ?_, fun _ => ⟨w1.heap.size, 0, rfl, by simp, ?_⟩⟩, ?_, ?_, Nat.le_refl _, hl.trans hl2⟩
  · intro x hx
    obtain rfl : x = f := by simpa using hx
    exact ho2.ok
  · intro i x hi j u hu
    have hi0 : i = 0 := by
      have := (List.getElem?_eq_some_iff.1 hi).1
      simpa using this
    subst hi0
    obtain rfl : f = x := by simpa using hi
    rw [cell_of_row _ _ _ _ _ _ (heap_alloc_new w1 _)]
    simpa [Fd.cells] using hu
  · intro x hx
    obtain rfl : x = f := by simpa using hx
    exact ho2
  · rw [hfs, ← hp]; rfl

set_option maxHeartbeats 2000000 in
set_option maxRecDepth 100000 in
/-- How a number is written. -/
theorem numw_any {w : World} {bn bq g o : Nat} {num v : Int} (h1 : w.heap[bn]? = some (.cells #[.pointer (some ⟨g, o, none⟩)] 113 (0, 0))) (h2 : w.heap[bq]? = some (.cells #[.int .i64 num] 3 (0, 0)))
    (hc : w.cell? ⟨g, o, none⟩ = some (.int .i64 v)) (hg : g < w.heap.size) (hv : I64 v) (hn : I64 num) :
    Calls Tryz.prog 98 #[.pointer (some ⟨bn, 0, none⟩), .pointer (some ⟨bq, 0, none⟩)] w (FieldsIs (pnum num v) w) := by
  have HB1 : Hid (∀ w', Later w w' → w'.cell? ⟨bn, 0, none⟩ = some (.pointer (some ⟨g, o, none⟩))) := fun w' h => cell_of_row w' bn 0 _ _ _ ((Below.block h bn (lt_of_block h1)).trans h1)
  have HB2 : Hid (∀ w', Later w w' → w'.cell? ⟨bq, 0, none⟩ = some (.int .i64 num)) := fun w' h => cell_of_row w' bq 0 _ _ _ ((Below.block h bq (lt_of_block h2)).trans h2)
  have HC : Hid (∀ w', Later w w' → w'.cell? ⟨g, o, none⟩ = some (.int .i64 v)) := fun w' h => (Below.cell h (p := ⟨g, o, none⟩) hg).trans hc
  have HV := hide hv
  have HN := hide hn
  have L0 : Hid (Later w w.drew) := Later.drew w
  clear h1 h2 hc hg hv hn
  by_cases h0 : v = 0
  · subst h0
    have hx1 := HB1.out w (Later.refl _)
    have hx3 := HC.out w (Later.refl _)
    go_enter Tryz.func98, Tryz.ntmps98
    go_wp2
    go_ret
    exact ⟨none, 0, 0, [], rfl, FHolds.nil_ _ _, by simp, rfl, Nat.le_refl _, Later.refl _⟩
  · have hx1 := HB1.out w (Later.refl _)
    have hx3 := HC.out w (Later.refl _)
    go_enter Tryz.func98, Tryz.ntmps98
    go_wp2
    clear hx1 hx3
    refine wp_region_L (by kernel_rfl) ?_
    refine wpAnyL_take (i := 0) (d := some 7) (v := .int .i64 num) rfl rfl (by kernel_rfl) (by kernel_rfl) (by kernel_rfl) (fun _ _ _ h => h) (by rfl) ?yan0 ?_
    case yan0 => (intro w' hw'; have hx2 := HB2.out w' (L0.out.trans hw'); go_simp; try (with_reducible rfl))
    simp only [Act.put]; try simp only [List.setIfInBounds_toArray]; try simp only [List.set_cons_zero, List.set_cons_succ]
    refine wpAnyL_take (i := 1) (d := some 8) (v := .pointer (some ⟨g, o, none⟩)) rfl rfl (by kernel_rfl) (by kernel_rfl) (by kernel_rfl) (fun _ _ _ h => h) (by rfl) ?yan1 ?_
    case yan1 => (intro w' hw'; have hx1 := HB1.out w' (L0.out.trans hw'); go_simp; try (with_reducible rfl))
    simp only [Act.put]; try simp only [List.setIfInBounds_toArray]; try simp only [List.set_cons_zero, List.set_cons_succ]
    refine wpAnyL_take (i := 2) (d := some 9) (v := ?van2) rfl rfl (by kernel_rfl) (by kernel_rfl) (by kernel_rfl) (fun _ _ _ h => h) (by rfl) ?yan2 ?_
    case yan2 => (intro w' hw'; go_simp; try (with_reducible rfl))
    simp only [Act.put]; try simp only [List.setIfInBounds_toArray]; try simp only [List.set_cons_zero, List.set_cons_succ]
    refine wpAnyL_take (i := 3) (d := some 10) (v := .int .i64 v) rfl rfl (by kernel_rfl) (by kernel_rfl) (by kernel_rfl) (fun _ _ _ h => h) (by rfl) ?yan3 ?_
    case yan3 => (intro w' hw'; have hx3 := HC.out w' (L0.out.trans hw'); go_simp; try (with_reducible rfl))
    simp only [Act.put]; try simp only [List.setIfInBounds_toArray]; try simp only [List.set_cons_zero, List.set_cons_succ]
    refine wpAnyL_only (i := 4) rfl (by kernel_rfl) (by rfl) fun K hK => ?_
    go_simp
    refine (zig_any v _ HV.out.1 HV.out.2).mono ?_
    rintro e w3 ⟨rfl, rfl⟩
    refine hK.out _ _ (Later.refl _) ?_
    clear hK K
    try (simp only [Act.put]; try simp only [List.setIfInBounds_toArray]; try simp only [List.set_cons_zero, List.set_cons_succ])
    refine wpAnyL_take (i := 5) (d := some 12) (v := ?van5) rfl rfl (by kernel_rfl) (by kernel_rfl) (by kernel_rfl) (fun _ _ _ h => h) (by rfl) ?yan5 ?_
    case yan5 => (intro w' hw'; go_simp; try (with_reducible rfl))
    simp only [Act.put]; try simp only [List.setIfInBounds_toArray]; try simp only [List.set_cons_zero, List.set_cons_succ]
    refine wpAnyL_only (i := 6) rfl (by kernel_rfl) (by rfl) fun K hK => ?_
    go_simp
    refine hK.out _ _ (show Later w.drew (w.drew.alloc (.cells #[.int .i64 num, .bool false, .int .u64 (zig v : Nat), .slice none 0 0] 140 (0, 0))) from Later.alloc _ _) ?_
    clear hK K
    try (simp only [Act.put]; try simp only [List.setIfInBounds_toArray]; try simp only [List.set_cons_zero, List.set_cons_succ])
    refine wpAnyL_take (i := 7) (d := some 2) (v := ?van7) rfl rfl (by kernel_rfl) (by kernel_rfl) (by kernel_rfl) (fun _ _ _ h => h) (by rfl) ?yan7 ?_
    case yan7 => (intro w' hw'; go_simp; try (with_reducible rfl))
    simp only [Act.put]; try simp only [List.setIfInBounds_toArray]; try simp only [List.set_cons_zero, List.set_cons_succ]
    refine wpAnyL_done (by kernel_rfl) ?_ _
    go_wp2
    go_ret
    exact fields_one (p := pint num v) (f := ⟨num, false, zig v, none, 0, 0, []⟩) (by unfold pnum pint; rw [if_neg h0]) rfl L0.out (FdAt.plain HN.out (zig_lt v HV.out.1 HV.out.2))

set_option maxHeartbeats 2000000 in
set_option maxRecDepth 100000 in
/-- How a number is read. -/
theorem numr_any {S : Type} {Inv : (Nat → Prop) → S → World → Prop} {set : S → Int → S} {P : Nat → Prop} {s : S} {w : World} {bn g o : Nat} {f : Fd} (hI : InvOK Inv) (hpl : NumPl Inv g o set) (h1 : w.heap[bn]? = some (.cells #[.pointer (some ⟨g, o, none⟩)] 113 (0, 0)))
    (hbn : ¬ P bn) (hinv : Inv P s w) (hf : f.ok w w.heap.size) :
    Calls Tryz.prog 100 #[f.val, .pointer (some ⟨bn, 0, none⟩)] w fun e w' => e = .returned (.tuple #[]) ∧ Inv P (set s (zag f.pf.2.2.1)) w' ∧ Turned P w w' := by
  obtain ⟨fnum, ftext, fv, fa, fn, fc, fb⟩ := f
  have hfv : fv < 18446744073709551616 := hf.2.1
  obtain ⟨W1, hW1⟩ : ∃ W, W = w.alloc (.cells #[.int .i64 fnum, .bool ftext, .int .u64 fv, .slice fa fn fc] 140 (0, 0)) := ⟨_, rfl⟩
  have hL : Later w W1 := by rw [hW1]; exact Later.alloc _ _
  have hz : W1.heap.size = w.heap.size + 1 := by rw [hW1]; exact World.size_alloc _ _
  have hx : W1.heap[w.heap.size]? = some (.cells #[.int .i64 fnum, .bool ftext, .int .u64 fv, .slice fa fn fc] 140 (0, 0)) := by rw [hW1]; exact heap_alloc_new _ _
  obtain ⟨hPg, hgl, ⟨x, hcx⟩, hfr, hset⟩ := hpl P s W1 (hI.keep P s w W1 (Kept.of_below hL _) hinv)
  have hgw : g < w.heap.size := hpl.lt hinv
  have hne : bn ≠ g := fun e => hbn (e ▸ hPg)
  have hbl := lt_of_block h1
  have HI := hide hI
  have HSET := hide (hset (zag fv) (zag_lt fv hfv))
  have HB1 : Hid (W1.heap[bn]? = some (.cells #[.pointer (some ⟨g, o, none⟩)] 113 (0, 0))) := (Below.block hL bn hbl).trans h1
  have HBN : Hid (bn < W1.heap.size) := by show _ < _; omega
  have HNE := hide hne
  have HX := hide hx
  have HSZ := hide hz
  have HGL := hide hgw
  have HFV := hide hfv
  have HPG := hide hPg
  have HLL := hide hL
  have HG : Hid (∀ w', W1.drew.grownBy w' (some g) → W1.grownBy w' (some g)) := fun w' h => (show W1.grownBy W1.drew (some g) from ⟨rfl, rfl, rfl, Nat.le_refl _, fun _ _ _ => rfl⟩).trans h
  have hcx' : W1.drew.cell? ⟨g, o, none⟩ = some (.int .i64 x) := hcx
  have hfr' : W1.drew.frozen? ⟨g, o, none⟩ = false := hfr
  clear hf hfv hL hz hx hPg hset hne hbl h1 hbn hinv hpl hI hgw hcx hfr hgl
  simp only [Fd.val, Fd.cells]
  go_enter Tryz.func100, Tryz.ntmps100
  go_wp2
  rw [← hW1]
  clear hW1
  refine wp_region_R (R := fun a c => a.grownBy c (some g)) (by kernel_rfl) ?_
  refine wpAnyR_take (pre_grown (some g)) (i := 0) (d := some 3) (v := .pointer (some ⟨g, o, none⟩)) rfl rfl (by kernel_rfl) (by kernel_rfl) (by kernel_rfl) (fun _ _ _ h => h) (by rfl) ?yam0 ?_
  case yam0 => (intro w' hw'; have hx1 : w'.cell? ⟨bn, 0, none⟩ = some (.pointer (some ⟨g, o, none⟩)) := cell_of_row w' bn 0 _ _ _ (((HG.out w' hw').block bn HBN.out (fun e => HNE.out (Option.some.inj e))).trans HB1.out); go_simp; try (with_reducible rfl))
  simp only [Act.put]; try simp only [List.setIfInBounds_toArray]; try simp only [List.set_cons_zero, List.set_cons_succ]
  refine wpAnyR_take (pre_grown (some g)) (i := 1) (d := some 4) (v := ?vam1) rfl rfl (by kernel_rfl) (by kernel_rfl) (by kernel_rfl) (fun _ _ _ h => h) (by rfl) ?yam1 ?_
  case yam1 => (intro w' hw'; go_simp; try (with_reducible rfl))
  simp only [Act.put]; try simp only [List.setIfInBounds_toArray]; try simp only [List.set_cons_zero, List.set_cons_succ]
  refine wpAnyR_take (pre_grown (some g)) (i := 2) (d := some 5) (v := .int .u64 (fv : Nat)) rfl rfl (by kernel_rfl) (by kernel_rfl) (by kernel_rfl) (fun _ _ _ h => h) (by rfl) ?yam2 ?_
  case yam2 => (intro w' hw'; have hx2 : w'.cell? ⟨w.heap.size, 2, none⟩ = some (.int .u64 (fv : Nat)) := cell_of_row w' w.heap.size 2 _ _ _ (((HG.out w' hw').block w.heap.size (by rw [HSZ.out]; omega) (fun e => by have := HGL.out; have := Option.some.inj e; omega)).trans HX.out); go_simp; try (with_reducible rfl))
  simp only [Act.put]; try simp only [List.setIfInBounds_toArray]; try simp only [List.set_cons_zero, List.set_cons_succ]
  refine wpAnyR_only (i := 3) rfl (by kernel_rfl) (by rfl) fun K hK => ?_
  go_simp
  refine (zag_any fv _ HFV.out).mono ?_
  rintro e w3 ⟨rfl, rfl⟩
  refine hK.out _ _ (World.grownBy.refl _ _) ?_
  clear hK K
  try (simp only [Act.put]; try simp only [List.setIfInBounds_toArray]; try simp only [List.set_cons_zero, List.set_cons_succ])
  refine wpAnyR_take (pre_grown (some g)) (i := 4) (d := some 7) (v := ?vam4) rfl rfl (by kernel_rfl) (by kernel_rfl) (by kernel_rfl) (fun _ _ _ h => h) (by rfl) ?yam4 ?_
  case yam4 => (intro w' hw'; go_simp; try (with_reducible rfl))
  simp only [Act.put]; try simp only [List.setIfInBounds_toArray]; try simp only [List.set_cons_zero, List.set_cons_succ]
  refine wpAnyR_only (i := 5) rfl (by kernel_rfl) (by rfl) fun K hK => ?_
  go_simp
  refine hK.out _ _ (show W1.drew.grownBy (W1.drew.setCell ⟨g, o, none⟩ (.int .i64 (zag fv))) (some g) from grown_cell _ _ _ _) ?_
  clear hK K
  try simp only [Act.put]
  refine wpAnyR_done (by kernel_rfl) ?_ _
  go_wp2
  go_end0
  exact ⟨rfl, HI.out.keep _ _ _ _ (Kept.drew _ _) HSET.out, ((Turned.of_below HLL.out P).trans (Turned.of_grown (grown_cell W1 g o _) fun q e => by obtain rfl := Option.some.inj e; exact HPG.out)).trans (turned_drew P _)⟩

set_option maxHeartbeats 2000000 in
set_option maxRecDepth 100000 in
theorem enters_num : Enters 98 ∧ Enters 100 := ⟨fun args w => by go_simp, fun args w => by go_simp⟩
set_option maxHeartbeats 2000000 in
set_option maxRecDepth 100000 in
/-- A number's part. -/
theorem num_any9 {w : World} {num : Int} {g o : Nat} (hn : I64 num) (hg : g < w.heap.size) : Calls Tryz.prog 66 #[.int .i64 num, .pointer (some ⟨g, o, none⟩)] w (NumIs num g o w) := by
  have HN := hide hn
  have HG := hide hg
  clear hn hg
  go_enter Tryz.func66, Tryz.ntmps66
  go_wp2
  have h3 := heap_third w (.cells #[.int .i64 num] 3 (0, 0)) (.cells #[.pointer (some ⟨g, o, none⟩)] 113 (0, 0)) (.cells #[.int .i64 num, .func (.func 98) #[] #[.pointer (some ⟨w.heap.size + 1, 0, none⟩), .pointer (some ⟨w.heap.size, 0, none⟩)], .func (.func 100) #[] #[.pointer (some ⟨w.heap.size + 1, 0, none⟩)]] 110 (0, 0))
  refine bodyPost_ret (results_cell_row Tryz.results66 _ _ (w.heap.size + 1 + 1) 110 _ (0, 0) _ (by rfl) h3 Tryz.underlying110 (by rfl) (by kernel_rfl)) (by rfl) ?_
  have hl : Later w (((w.alloc (.cells #[.int .i64 num] 3 (0, 0))).alloc (.cells #[.pointer (some ⟨g, o, none⟩)] 113 (0, 0))).alloc (.cells #[.int .i64 num, .func (.func 98) #[] #[.pointer (some ⟨w.heap.size + 1, 0, none⟩), .pointer (some ⟨w.heap.size, 0, none⟩)], .func (.func 100) #[] #[.pointer (some ⟨w.heap.size + 1, 0, none⟩)]] 110 (0, 0))) :=
    ((Later.alloc w _).trans (Later.alloc _ _)).trans (Later.alloc _ _)
  have h1 := (heap_firsts w (.cells #[.int .i64 num] 3 (0, 0)) (.cells #[.pointer (some ⟨g, o, none⟩)] 113 (0, 0)) (.cells #[.int .i64 num, .func (.func 98) #[] #[.pointer (some ⟨w.heap.size + 1, 0, none⟩), .pointer (some ⟨w.heap.size, 0, none⟩)], .func (.func 100) #[] #[.pointer (some ⟨w.heap.size + 1, 0, none⟩)]] 110 (0, 0)))
  obtain ⟨x1, x2, hz⟩ := h1
  refine ⟨⟨num, 98, #[.pointer (some ⟨w.heap.size + 1, 0, none⟩), .pointer (some ⟨w.heap.size, 0, none⟩)], 100, #[.pointer (some ⟨w.heap.size + 1, 0, none⟩)]⟩, rfl, rfl, hl, ?_, ?_⟩
  · intro St v hv hcell
    refine ⟨enters_num.1, fun wx hs hst => ?_⟩
    exact numw_any ((hs.2 _ (by omega) (by omega)).trans x2) ((hs.2 _ (by omega) (by omega)).trans x1) (hcell wx hst) (by have := hs.1; have := HG.out; omega) hv HN.out
  · intro S Inv sz set hI hpl
    refine ⟨enters_num.2, fun P s wx f hs hP hP2 hinv hf _ => ?_⟩
    exact numr_any hI hpl ((hs.2 _ (by omega) (by omega)).trans x2) (hP _ (by omega) (by omega)) hinv hf
end Go.Proofs.YtehiaeihkdfclaaGreatDoor
/- The parts of errors. -/
namespace Go.Proofs.YtehiaeihkdfclaaGreatDoor
open Go.RowKit

set_option maxHeartbeats 2000000 in
set_option maxRecDepth 100000 in
/-- How a number is written. -/
theorem numwE_any {w : World} {bn bq g o : Nat} {num v : Int} (h1 : w.heap[bn]? = some (.cells #[.pointer (some ⟨g, o, none⟩)] 153 (0, 0))) (h2 : w.heap[bq]? = some (.cells #[.int .i64 num] 3 (0, 0)))
    (hc : w.cell? ⟨g, o, none⟩ = some (.int .i64 v)) (hg : g < w.heap.size) (hv : I64 v) (hn : I64 num) :
    Calls Tryz.prog 123 #[.pointer (some ⟨bn, 0, none⟩), .pointer (some ⟨bq, 0, none⟩)] w (FieldsIs (pnum num v) w) := by
  have HB1 : Hid (∀ w', Later w w' → w'.cell? ⟨bn, 0, none⟩ = some (.pointer (some ⟨g, o, none⟩))) := fun w' h => cell_of_row w' bn 0 _ _ _ ((Below.block h bn (lt_of_block h1)).trans h1)
  have HB2 : Hid (∀ w', Later w w' → w'.cell? ⟨bq, 0, none⟩ = some (.int .i64 num)) := fun w' h => cell_of_row w' bq 0 _ _ _ ((Below.block h bq (lt_of_block h2)).trans h2)
  have HC : Hid (∀ w', Later w w' → w'.cell? ⟨g, o, none⟩ = some (.int .i64 v)) := fun w' h => (Below.cell h (p := ⟨g, o, none⟩) hg).trans hc
  have HV := hide hv
  have HN := hide hn
  have L0 : Hid (Later w w.drew) := Later.drew w
  clear h1 h2 hc hg hv hn
  by_cases h0 : v = 0
  · subst h0
    have hx1 := HB1.out w (Later.refl _)
    have hx3 := HC.out w (Later.refl _)
    go_enter Tryz.func123, Tryz.ntmps123
    go_wp2
    go_ret
    exact ⟨none, 0, 0, [], rfl, FHolds.nil_ _ _, by simp, rfl, Nat.le_refl _, Later.refl _⟩
  · have hx1 := HB1.out w (Later.refl _)
    have hx3 := HC.out w (Later.refl _)
    go_enter Tryz.func123, Tryz.ntmps123
    go_wp2
    clear hx1 hx3
    refine wp_region_L (by kernel_rfl) ?_
    refine wpAnyL_take (i := 0) (d := some 7) (v := .int .i64 num) rfl rfl (by kernel_rfl) (by kernel_rfl) (by kernel_rfl) (fun _ _ _ h => h) (by rfl) ?yan0 ?_
    case yan0 => (intro w' hw'; have hx2 := HB2.out w' (L0.out.trans hw'); go_simp; try (with_reducible rfl))
    simp only [Act.put]; try simp only [List.setIfInBounds_toArray]; try simp only [List.set_cons_zero, List.set_cons_succ]
    refine wpAnyL_take (i := 1) (d := some 8) (v := .pointer (some ⟨g, o, none⟩)) rfl rfl (by kernel_rfl) (by kernel_rfl) (by kernel_rfl) (fun _ _ _ h => h) (by rfl) ?yan1 ?_
    case yan1 => (intro w' hw'; have hx1 := HB1.out w' (L0.out.trans hw'); go_simp; try (with_reducible rfl))
    simp only [Act.put]; try simp only [List.setIfInBounds_toArray]; try simp only [List.set_cons_zero, List.set_cons_succ]
    refine wpAnyL_take (i := 2) (d := some 9) (v := ?van2) rfl rfl (by kernel_rfl) (by kernel_rfl) (by kernel_rfl) (fun _ _ _ h => h) (by rfl) ?yan2 ?_
    case yan2 => (intro w' hw'; go_simp; try (with_reducible rfl))
    simp only [Act.put]; try simp only [List.setIfInBounds_toArray]; try simp only [List.set_cons_zero, List.set_cons_succ]
    refine wpAnyL_take (i := 3) (d := some 10) (v := .int .i64 v) rfl rfl (by kernel_rfl) (by kernel_rfl) (by kernel_rfl) (fun _ _ _ h => h) (by rfl) ?yan3 ?_
    case yan3 => (intro w' hw'; have hx3 := HC.out w' (L0.out.trans hw'); go_simp; try (with_reducible rfl))
    simp only [Act.put]; try simp only [List.setIfInBounds_toArray]; try simp only [List.set_cons_zero, List.set_cons_succ]
    refine wpAnyL_only (i := 4) rfl (by kernel_rfl) (by rfl) fun K hK => ?_
    go_simp
    refine (zig_any v _ HV.out.1 HV.out.2).mono ?_
    rintro e w3 ⟨rfl, rfl⟩
    refine hK.out _ _ (Later.refl _) ?_
    clear hK K
    try (simp only [Act.put]; try simp only [List.setIfInBounds_toArray]; try simp only [List.set_cons_zero, List.set_cons_succ])
    refine wpAnyL_take (i := 5) (d := some 12) (v := ?van5) rfl rfl (by kernel_rfl) (by kernel_rfl) (by kernel_rfl) (fun _ _ _ h => h) (by rfl) ?yan5 ?_
    case yan5 => (intro w' hw'; go_simp; try (with_reducible rfl))
    simp only [Act.put]; try simp only [List.setIfInBounds_toArray]; try simp only [List.set_cons_zero, List.set_cons_succ]
    refine wpAnyL_only (i := 6) rfl (by kernel_rfl) (by rfl) fun K hK => ?_
    go_simp
    refine hK.out _ _ (show Later w.drew (w.drew.alloc (.cells #[.int .i64 num, .bool false, .int .u64 (zig v : Nat), .slice none 0 0] 140 (0, 0))) from Later.alloc _ _) ?_
    clear hK K
    try (simp only [Act.put]; try simp only [List.setIfInBounds_toArray]; try simp only [List.set_cons_zero, List.set_cons_succ])
    refine wpAnyL_take (i := 7) (d := some 2) (v := ?van7) rfl rfl (by kernel_rfl) (by kernel_rfl) (by kernel_rfl) (fun _ _ _ h => h) (by rfl) ?yan7 ?_
    case yan7 => (intro w' hw'; go_simp; try (with_reducible rfl))
    simp only [Act.put]; try simp only [List.setIfInBounds_toArray]; try simp only [List.set_cons_zero, List.set_cons_succ]
    refine wpAnyL_done (by kernel_rfl) ?_ _
    go_wp2
    go_ret
    exact fields_one (p := pint num v) (f := ⟨num, false, zig v, none, 0, 0, []⟩) (by unfold pnum pint; rw [if_neg h0]) rfl L0.out (FdAt.plain HN.out (zig_lt v HV.out.1 HV.out.2))

set_option maxHeartbeats 2000000 in
set_option maxRecDepth 100000 in
/-- How a number is read. -/
theorem numrE_any {S : Type} {Inv : (Nat → Prop) → S → World → Prop} {set : S → Int → S} {P : Nat → Prop} {s : S} {w : World} {bn g o : Nat} {f : Fd} (hI : InvOK Inv) (hpl : NumPl Inv g o set) (h1 : w.heap[bn]? = some (.cells #[.pointer (some ⟨g, o, none⟩)] 153 (0, 0)))
    (hbn : ¬ P bn) (hinv : Inv P s w) (hf : f.ok w w.heap.size) :
    Calls Tryz.prog 124 #[f.val, .pointer (some ⟨bn, 0, none⟩)] w fun e w' => e = .returned (.tuple #[]) ∧ Inv P (set s (zag f.pf.2.2.1)) w' ∧ Turned P w w' := by
  obtain ⟨fnum, ftext, fv, fa, fn, fc, fb⟩ := f
  have hfv : fv < 18446744073709551616 := hf.2.1
  obtain ⟨W1, hW1⟩ : ∃ W, W = w.alloc (.cells #[.int .i64 fnum, .bool ftext, .int .u64 fv, .slice fa fn fc] 140 (0, 0)) := ⟨_, rfl⟩
  have hL : Later w W1 := by rw [hW1]; exact Later.alloc _ _
  have hz : W1.heap.size = w.heap.size + 1 := by rw [hW1]; exact World.size_alloc _ _
  have hx : W1.heap[w.heap.size]? = some (.cells #[.int .i64 fnum, .bool ftext, .int .u64 fv, .slice fa fn fc] 140 (0, 0)) := by rw [hW1]; exact heap_alloc_new _ _
  obtain ⟨hPg, hgl, ⟨x, hcx⟩, hfr, hset⟩ := hpl P s W1 (hI.keep P s w W1 (Kept.of_below hL _) hinv)
  have hgw : g < w.heap.size := hpl.lt hinv
  have hne : bn ≠ g := fun e => hbn (e ▸ hPg)
  have hbl := lt_of_block h1
  have HI := hide hI
  have HSET := hide (hset (zag fv) (zag_lt fv hfv))
  have HB1 : Hid (W1.heap[bn]? = some (.cells #[.pointer (some ⟨g, o, none⟩)] 153 (0, 0))) := (Below.block hL bn hbl).trans h1
  have HBN : Hid (bn < W1.heap.size) := by show _ < _; omega
  have HNE := hide hne
  have HX := hide hx
  have HSZ := hide hz
  have HGL := hide hgw
  have HFV := hide hfv
  have HPG := hide hPg
  have HLL := hide hL
  have HG : Hid (∀ w', W1.drew.grownBy w' (some g) → W1.grownBy w' (some g)) := fun w' h => (show W1.grownBy W1.drew (some g) from ⟨rfl, rfl, rfl, Nat.le_refl _, fun _ _ _ => rfl⟩).trans h
  have hcx' : W1.drew.cell? ⟨g, o, none⟩ = some (.int .i64 x) := hcx
  have hfr' : W1.drew.frozen? ⟨g, o, none⟩ = false := hfr
  clear hf hfv hL hz hx hPg hset hne hbl h1 hbn hinv hpl hI hgw hcx hfr hgl
  simp only [Fd.val, Fd.cells]
  go_enter Tryz.func124, Tryz.ntmps124
  go_wp2
  rw [← hW1]
  clear hW1
  refine wp_region_R (R := fun a c => a.grownBy c (some g)) (by kernel_rfl) ?_
  refine wpAnyR_take (pre_grown (some g)) (i := 0) (d := some 3) (v := .pointer (some ⟨g, o, none⟩)) rfl rfl (by kernel_rfl) (by kernel_rfl) (by kernel_rfl) (fun _ _ _ h => h) (by rfl) ?yam0 ?_
  case yam0 => (intro w' hw'; have hx1 : w'.cell? ⟨bn, 0, none⟩ = some (.pointer (some ⟨g, o, none⟩)) := cell_of_row w' bn 0 _ _ _ (((HG.out w' hw').block bn HBN.out (fun e => HNE.out (Option.some.inj e))).trans HB1.out); go_simp; try (with_reducible rfl))
  simp only [Act.put]; try simp only [List.setIfInBounds_toArray]; try simp only [List.set_cons_zero, List.set_cons_succ]
  refine wpAnyR_take (pre_grown (some g)) (i := 1) (d := some 4) (v := ?vam1) rfl rfl (by kernel_rfl) (by kernel_rfl) (by kernel_rfl) (fun _ _ _ h => h) (by rfl) ?yam1 ?_
  case yam1 => (intro w' hw'; go_simp; try (with_reducible rfl))
  simp only [Act.put]; try simp only [List.setIfInBounds_toArray]; try simp only [List.set_cons_zero, List.set_cons_succ]
  refine wpAnyR_take (pre_grown (some g)) (i := 2) (d := some 5) (v := .int .u64 (fv : Nat)) rfl rfl (by kernel_rfl) (by kernel_rfl) (by kernel_rfl) (fun _ _ _ h => h) (by rfl) ?yam2 ?_
  case yam2 => (intro w' hw'; have hx2 : w'.cell? ⟨w.heap.size, 2, none⟩ = some (.int .u64 (fv : Nat)) := cell_of_row w' w.heap.size 2 _ _ _ (((HG.out w' hw').block w.heap.size (by rw [HSZ.out]; omega) (fun e => by have := HGL.out; have := Option.some.inj e; omega)).trans HX.out); go_simp; try (with_reducible rfl))
  simp only [Act.put]; try simp only [List.setIfInBounds_toArray]; try simp only [List.set_cons_zero, List.set_cons_succ]
  refine wpAnyR_only (i := 3) rfl (by kernel_rfl) (by rfl) fun K hK => ?_
  go_simp
  refine (zag_any fv _ HFV.out).mono ?_
  rintro e w3 ⟨rfl, rfl⟩
  refine hK.out _ _ (World.grownBy.refl _ _) ?_
  clear hK K
  try (simp only [Act.put]; try simp only [List.setIfInBounds_toArray]; try simp only [List.set_cons_zero, List.set_cons_succ])
  refine wpAnyR_take (pre_grown (some g)) (i := 4) (d := some 7) (v := ?vam4) rfl rfl (by kernel_rfl) (by kernel_rfl) (by kernel_rfl) (fun _ _ _ h => h) (by rfl) ?yam4 ?_
  case yam4 => (intro w' hw'; go_simp; try (with_reducible rfl))
  simp only [Act.put]; try simp only [List.setIfInBounds_toArray]; try simp only [List.set_cons_zero, List.set_cons_succ]
  refine wpAnyR_only (i := 5) rfl (by kernel_rfl) (by rfl) fun K hK => ?_
  go_simp
  refine hK.out _ _ (show W1.drew.grownBy (W1.drew.setCell ⟨g, o, none⟩ (.int .i64 (zag fv))) (some g) from grown_cell _ _ _ _) ?_
  clear hK K
  try simp only [Act.put]
  refine wpAnyR_done (by kernel_rfl) ?_ _
  go_wp2
  go_end0
  exact ⟨rfl, HI.out.keep _ _ _ _ (Kept.drew _ _) HSET.out, ((Turned.of_below HLL.out P).trans (Turned.of_grown (grown_cell W1 g o _) fun q e => by obtain rfl := Option.some.inj e; exact HPG.out)).trans (turned_drew P _)⟩

set_option maxHeartbeats 2000000 in
set_option maxRecDepth 100000 in
theorem enters_numE : Enters 123 ∧ Enters 124 := ⟨fun args w => by go_simp, fun args w => by go_simp⟩
set_option maxHeartbeats 2000000 in
set_option maxRecDepth 100000 in
/-- A number's part. -/
theorem numE_any9 {w : World} {num : Int} {g o : Nat} (hn : I64 num) (hg : g < w.heap.size) : Calls Tryz.prog 106 #[.int .i64 num, .pointer (some ⟨g, o, none⟩)] w (NumIs num g o w) := by
  have HN := hide hn
  have HG := hide hg
  clear hn hg
  go_enter Tryz.func106, Tryz.ntmps106
  go_wp2
  have h3 := heap_third w (.cells #[.int .i64 num] 3 (0, 0)) (.cells #[.pointer (some ⟨g, o, none⟩)] 153 (0, 0)) (.cells #[.int .i64 num, .func (.func 123) #[] #[.pointer (some ⟨w.heap.size + 1, 0, none⟩), .pointer (some ⟨w.heap.size, 0, none⟩)], .func (.func 124) #[] #[.pointer (some ⟨w.heap.size + 1, 0, none⟩)]] 110 (0, 0))
  refine bodyPost_ret (results_cell_row Tryz.results106 _ _ (w.heap.size + 1 + 1) 110 _ (0, 0) _ (by rfl) h3 Tryz.underlying110 (by rfl) (by kernel_rfl)) (by rfl) ?_
  have hl : Later w (((w.alloc (.cells #[.int .i64 num] 3 (0, 0))).alloc (.cells #[.pointer (some ⟨g, o, none⟩)] 153 (0, 0))).alloc (.cells #[.int .i64 num, .func (.func 123) #[] #[.pointer (some ⟨w.heap.size + 1, 0, none⟩), .pointer (some ⟨w.heap.size, 0, none⟩)], .func (.func 124) #[] #[.pointer (some ⟨w.heap.size + 1, 0, none⟩)]] 110 (0, 0))) :=
    ((Later.alloc w _).trans (Later.alloc _ _)).trans (Later.alloc _ _)
  have h1 := (heap_firsts w (.cells #[.int .i64 num] 3 (0, 0)) (.cells #[.pointer (some ⟨g, o, none⟩)] 153 (0, 0)) (.cells #[.int .i64 num, .func (.func 123) #[] #[.pointer (some ⟨w.heap.size + 1, 0, none⟩), .pointer (some ⟨w.heap.size, 0, none⟩)], .func (.func 124) #[] #[.pointer (some ⟨w.heap.size + 1, 0, none⟩)]] 110 (0, 0)))
  obtain ⟨x1, x2, hz⟩ := h1
  refine ⟨⟨num, 123, #[.pointer (some ⟨w.heap.size + 1, 0, none⟩), .pointer (some ⟨w.heap.size, 0, none⟩)], 124, #[.pointer (some ⟨w.heap.size + 1, 0, none⟩)]⟩, rfl, rfl, hl, ?_, ?_⟩
  · intro St v hv hcell
    refine ⟨enters_numE.1, fun wx hs hst => ?_⟩
    exact numwE_any ((hs.2 _ (by omega) (by omega)).trans x2) ((hs.2 _ (by omega) (by omega)).trans x1) (hcell wx hst) (by have := hs.1; have := HG.out; omega) hv HN.out
  · intro S Inv sz set hI hpl
    refine ⟨enters_numE.2, fun P s wx f hs hP hP2 hinv hf _ => ?_⟩
    exact numrE_any hI hpl ((hs.2 _ (by omega) (by omega)).trans x2) (hP _ (by omega) (by omega)) hinv hf
end Go.Proofs.YtehiaeihkdfclaaGreatDoor
/- The parts of bools: how they are written, how they are read. -/
namespace Go.Proofs.YtehiaeihkdfclaaGreatDoor
open Go.RowKit

/-- An object's bool at this address. -/
def FlagPl {S : Type} (Inv : (Nat → Prop) → S → World → Prop) (g o : Nat) (set : S → Bool → S) : Prop :=
  ∀ P s w, Inv P s w → P g ∧ g < w.heap.size ∧ (∃ x, w.cell? ⟨g, o, none⟩ = some (.bool x)) ∧ w.frozen? ⟨g, o, none⟩ = false ∧ ∀ x, Inv P (set s x) (w.setCell ⟨g, o, none⟩ (.bool x))
def FlagIs (num : Int) (g o : Nat) (w : World) (e : Ending) (w' : World) : Prop :=
  ∃ p : PartV, e = .returned (.agg p.cells.toArray) ∧ p.num = num ∧ Later w w' ∧
    (∀ (St : World → Prop) (v : Bool), (∀ w, St w → w.cell? ⟨g, o, none⟩ = some (.bool v)) → WrOK w.heap.size w'.heap.size w' St p (pflag num v)) ∧
    (∀ (S : Type) (Inv : (Nat → Prop) → S → World → Prop) (sz : S → Nat) (set : S → Bool → S), InvOK Inv → FlagPl Inv g o set → RdOK w.heap.size w'.heap.size w' Inv sz p fun s f => set s (f.2.2.1 == 1))
set_option maxHeartbeats 2000000 in
set_option maxRecDepth 100000 in
theorem flagw_any {w : World} {bn bq g o : Nat} {num : Int} {v : Bool} (h1 : w.heap[bn]? = some (.cells #[.pointer (some ⟨g, o, none⟩)] 115 (0, 0))) (h2 : w.heap[bq]? = some (.cells #[.int .i64 num] 3 (0, 0)))
    (hc : w.cell? ⟨g, o, none⟩ = some (.bool v)) (_hg : g < w.heap.size) (hn : I64 num) :
    Calls Tryz.prog 102 #[.pointer (some ⟨bn, 0, none⟩), .pointer (some ⟨bq, 0, none⟩)] w (FieldsIs (pflag num v) w) := by
  have hx1 := cell_of_row w bn 0 _ _ _ h1
  have hx2 := cell_of_row w bq 0 _ _ _ h2
  simp only [List.getElem?_toArray, List.getElem?_cons_zero] at hx1 hx2
  have HN := hide hn
  clear h1 h2 hn _hg
  cases v with
  | false =>
    go_enter Tryz.func102, Tryz.ntmps102
    go_wp2
    go_ret
    exact ⟨none, 0, 0, [], rfl, FHolds.nil_ _ _, by simp, rfl, Nat.le_refl _, Later.refl _⟩
  | true =>
    go_enter Tryz.func102, Tryz.ntmps102
    go_wp2
    go_ret
    exact fields_one (p := (num, false, 1, [])) (f := ⟨num, false, 1, none, 0, 0, []⟩) rfl rfl (Later.refl w) (FdAt.plain HN.out (by omega))

set_option maxHeartbeats 2000000 in
set_option maxRecDepth 100000 in
theorem flagr_any {S : Type} {Inv : (Nat → Prop) → S → World → Prop} {set : S → Bool → S} {P : Nat → Prop} {s : S} {w : World} {bn g o : Nat} {f : Fd} (hI : InvOK Inv) (hpl : FlagPl Inv g o set) (h1 : w.heap[bn]? = some (.cells #[.pointer (some ⟨g, o, none⟩)] 115 (0, 0)))
    (_hbn : ¬ P bn) (hinv : Inv P s w) (hf : f.ok w w.heap.size) :
    Calls Tryz.prog 103 #[f.val, .pointer (some ⟨bn, 0, none⟩)] w fun e w' => e = .returned (.tuple #[]) ∧ Inv P (set s (f.pf.2.2.1 == 1)) w' ∧ Turned P w w' := by
  obtain ⟨fnum, ftext, fv, fa, fn, fc, fb⟩ := f
  obtain ⟨hPg, hgw, ⟨x, hcx⟩, hfr, hset⟩ := hpl P s w hinv
  have hbl := lt_of_block h1
  have c1 := cell_of_row w bn 0 _ _ _ h1
  simp only [List.getElem?_toArray, List.getElem?_cons_zero] at c1
  have HI := hide hI
  have HSET := hide (hset (fv == 1))
  have HPG := hide hPg
  have e1 : ((fv : Int) == 1) = (fv == 1) := by rw [Bool.eq_iff_iff]; simp; omega
  obtain ⟨y, hy⟩ : ∃ y, (fv == 1) = y := ⟨_, rfl⟩
  rw [hy] at HSET e1
  clear hf hPg hset h1 _hbn hinv hpl hI
  simp only [Fd.val, Fd.cells, Fd.pf, hy]
  clear hy
  go_enter Tryz.func103, Tryz.ntmps103
  go_wp2
  go_end0
  exact ⟨rfl, HI.out.keep _ _ _ _ (Kept.of_below (Later.alloc _ _) _) HSET.out, (Turned.of_grown (grown_cell w g o _) fun q e => by obtain rfl := Option.some.inj e; exact HPG.out).trans (Turned.of_below (Later.alloc _ _) P)⟩

set_option maxHeartbeats 2000000 in
set_option maxRecDepth 100000 in
theorem enters_flag : Enters 102 ∧ Enters 103 := ⟨fun args w => by go_simp, fun args w => by go_simp⟩
set_option maxHeartbeats 2000000 in
set_option maxRecDepth 100000 in
theorem flag_any {w : World} {num : Int} {g o : Nat} (hn : I64 num) (hg : g < w.heap.size) : Calls Tryz.prog 67 #[.int .i64 num, .pointer (some ⟨g, o, none⟩)] w (FlagIs num g o w) := by
  have HN := hide hn
  have HG := hide hg
  clear hn hg
  go_enter Tryz.func67, Tryz.ntmps67
  go_wp2
  have h3 := heap_third w (.cells #[.int .i64 num] 3 (0, 0)) (.cells #[.pointer (some ⟨g, o, none⟩)] 115 (0, 0)) (.cells #[.int .i64 num, .func (.func 102) #[] #[.pointer (some ⟨w.heap.size + 1, 0, none⟩), .pointer (some ⟨w.heap.size, 0, none⟩)], .func (.func 103) #[] #[.pointer (some ⟨w.heap.size + 1, 0, none⟩)]] 110 (0, 0))
  refine bodyPost_ret (results_cell_row Tryz.results67 _ _ (w.heap.size + 1 + 1) 110 _ (0, 0) _ (by rfl) h3 Tryz.underlying110 (by rfl) (by kernel_rfl)) (by rfl) ?_
  have hl : Later w (((w.alloc (.cells #[.int .i64 num] 3 (0, 0))).alloc (.cells #[.pointer (some ⟨g, o, none⟩)] 115 (0, 0))).alloc (.cells #[.int .i64 num, .func (.func 102) #[] #[.pointer (some ⟨w.heap.size + 1, 0, none⟩), .pointer (some ⟨w.heap.size, 0, none⟩)], .func (.func 103) #[] #[.pointer (some ⟨w.heap.size + 1, 0, none⟩)]] 110 (0, 0))) := ((Later.alloc w _).trans (Later.alloc _ _)).trans (Later.alloc _ _)
  obtain ⟨x1, x2, hz⟩ := heap_firsts w (.cells #[.int .i64 num] 3 (0, 0)) (.cells #[.pointer (some ⟨g, o, none⟩)] 115 (0, 0)) (.cells #[.int .i64 num, .func (.func 102) #[] #[.pointer (some ⟨w.heap.size + 1, 0, none⟩), .pointer (some ⟨w.heap.size, 0, none⟩)], .func (.func 103) #[] #[.pointer (some ⟨w.heap.size + 1, 0, none⟩)]] 110 (0, 0))
  refine ⟨⟨num, 102, #[.pointer (some ⟨w.heap.size + 1, 0, none⟩), .pointer (some ⟨w.heap.size, 0, none⟩)], 103, #[.pointer (some ⟨w.heap.size + 1, 0, none⟩)]⟩, rfl, rfl, hl, ?_, ?_⟩
  · intro St v hcell
    refine ⟨enters_flag.1, fun wx hs hst => ?_⟩
    exact flagw_any ((hs.2 _ (by omega) (by omega)).trans x2) ((hs.2 _ (by omega) (by omega)).trans x1) (hcell wx hst) (by have := hs.1; have := HG.out; omega) HN.out
  · intro S Inv sz set hI hpl
    refine ⟨enters_flag.2, fun P s wx f hs hP hP2 hinv hf hz9 => ?_⟩
    exact flagr_any hI hpl ((hs.2 _ (by omega) (by omega)).trans x2) (hP _ (by omega) (by omega)) hinv hf
end Go.Proofs.YtehiaeihkdfclaaGreatDoor
/- The parts of strings: how they are written, how they are read. -/
namespace Go.Proofs.YtehiaeihkdfclaaGreatDoor
open Go.RowKit

theorem str_ne {a : ByteArray} (h : a ≠ ⟨#[]⟩) : a.toList.isEmpty = false := by
  rcases he : a.toList.isEmpty with _ | _
  · rfl
  · exfalso
    apply h
    apply size_zero
    rw [ByteArray.toList_eq] at he
    have h1 : a.data.toList = [] := List.isEmpty_iff.1 he
    have h2 : a.data.size = 0 := by rw [← Array.length_toList, h1]; rfl
    exact h2

theorem bytes_later (w : World) (e : TypeId) (s : ByteArray) : Later w (Lib.bytesWorld w e s) :=
  ⟨rfl, rfl, rfl, by rw [Lib.bytesWorld_size]; omega, fun i hi => Lib.bytesWorld_at_old w e s i hi⟩
theorem nums_get (s : ByteArray) (j : Nat) : (nums s).getD j 0 = (s.data.toList.getD j 0).toNat := by
  unfold nums
  rcases h : s.data.toList[j]? with _ | x
  · simp [List.getD, h]
  · simp [List.getD, h]
theorem bytes_fd {w : World} {num : Int} {s : ByteArray} (hn : I64 num) : FdAt (Lib.bytesWorld w 5 s) ⟨num, true, 0, some ⟨w.heap.size, 0, none⟩, s.size, grownCap w s.size 0 5, nums s⟩ := by
  refine ⟨⟨hn, by simp, grownCap_ge _ _ _ _, nums_len s, nums_small s, fun _ => ⟨w.heap.size, 0, rfl, by rw [Lib.bytesWorld_size]; omega, fun i hi => ?_⟩⟩, fun _ => ⟨w.heap.size, 0, _, _, rfl, Lib.bytesWorld_at_new _ _ _⟩⟩
  simp only [Nat.zero_add]
  rw [Lib.bytesWorld_cell w _ s i hi, nums_get]
/-- An object's string at this address. -/
def TextPl {S : Type} (Inv : (Nat → Prop) → S → World → Prop) (g o : Nat) (set : S → ByteArray → S) : Prop :=
  ∀ P s w, Inv P s w → P g ∧ g < w.heap.size ∧ (∃ x, w.cell? ⟨g, o, none⟩ = some (.string x)) ∧ w.frozen? ⟨g, o, none⟩ = false ∧ ∀ x, x.size ≤ 1000000 → Inv P (set s x) (w.setCell ⟨g, o, none⟩ (.string x))
def TextIs (num : Int) (g o : Nat) (w : World) (e : Ending) (w' : World) : Prop :=
  ∃ p : PartV, e = .returned (.agg p.cells.toArray) ∧ p.num = num ∧ Later w w' ∧
    (∀ (St : World → Prop) (v : ByteArray), (∀ w, St w → w.cell? ⟨g, o, none⟩ = some (.string v)) → WrOK w.heap.size w'.heap.size w' St p (ptext num (nums v))) ∧
    (∀ (S : Type) (Inv : (Nat → Prop) → S → World → Prop) (sz : S → Nat) (set : S → ByteArray → S), InvOK Inv → TextPl Inv g o set → RdOK w.heap.size w'.heap.size w' Inv sz p fun s f => set s (str f.2.2.2))
set_option maxHeartbeats 2000000 in
set_option maxRecDepth 100000 in
theorem textw_any {w : World} {bn bq g o : Nat} {num : Int} {v : ByteArray} (h1 : w.heap[bn]? = some (.cells #[.pointer (some ⟨g, o, none⟩)] 132 (0, 0))) (h2 : w.heap[bq]? = some (.cells #[.int .i64 num] 3 (0, 0)))
    (hc : w.cell? ⟨g, o, none⟩ = some (.string v)) (hg : g < w.heap.size) (hn : I64 num) :
    Calls Tryz.prog 115 #[.pointer (some ⟨bn, 0, none⟩), .pointer (some ⟨bq, 0, none⟩)] w (FieldsIs (ptext num (nums v)) w) := by
  have HB1 : Hid (∀ w', Later w w' → w'.cell? ⟨bn, 0, none⟩ = some (.pointer (some ⟨g, o, none⟩))) := fun w' h => cell_of_row w' bn 0 _ _ _ ((Below.block h bn (lt_of_block h1)).trans h1)
  have HB2 : Hid (∀ w', Later w w' → w'.cell? ⟨bq, 0, none⟩ = some (.int .i64 num)) := fun w' h => cell_of_row w' bq 0 _ _ _ ((Below.block h bq (lt_of_block h2)).trans h2)
  have HC : Hid (∀ w', Later w w' → w'.cell? ⟨g, o, none⟩ = some (.string v)) := fun w' h => (Below.cell h (p := ⟨g, o, none⟩) hg).trans hc
  have HN := hide hn
  have L0 : Hid (Later w w.drew) := Later.drew w
  clear h1 h2 hc hg hn
  have hx1 := HB1.out w (Later.refl _)
  have hx3 := HC.out w (Later.refl _)
  by_cases h0 : v = ⟨#[]⟩
  · subst h0
    go_enter Tryz.func115, Tryz.ntmps115
    go_wp2
    go_ret
    exact ⟨none, 0, 0, [], rfl, FHolds.nil_ _ _, by simp, rfl, Nat.le_refl _, Later.refl _⟩
  · have hne : v.toList.isEmpty = false := str_ne h0
    have H0 := hide h0
    clear h0
    go_enter Tryz.func115, Tryz.ntmps115
    go_wp2
    clear hx1 hx3 hne
    refine wp_region_L (by kernel_rfl) ?_
    refine wpAnyL_take (i := 0) (d := some 7) (v := .int .i64 num) rfl rfl (by kernel_rfl) (by kernel_rfl) (by kernel_rfl) (fun _ _ _ h => h) (by rfl) ?yat0 ?_
    case yat0 => (intro w' hw'; have hx2 := HB2.out w' (L0.out.trans hw'); go_simp; try (with_reducible rfl))
    simp only [Act.put]; try simp only [List.setIfInBounds_toArray]; try simp only [List.set_cons_zero, List.set_cons_succ]
    refine wpAnyL_take (i := 1) (d := some 8) (v := .pointer (some ⟨g, o, none⟩)) rfl rfl (by kernel_rfl) (by kernel_rfl) (by kernel_rfl) (fun _ _ _ h => h) (by rfl) ?yat1 ?_
    case yat1 => (intro w' hw'; have hx1 := HB1.out w' (L0.out.trans hw'); go_simp; try (with_reducible rfl))
    simp only [Act.put]; try simp only [List.setIfInBounds_toArray]; try simp only [List.set_cons_zero, List.set_cons_succ]
    refine wpAnyL_take (i := 2) (d := some 9) (v := ?vat2) rfl rfl (by kernel_rfl) (by kernel_rfl) (by kernel_rfl) (fun _ _ _ h => h) (by rfl) ?yat2 ?_
    case yat2 => (intro w' hw'; go_simp; try (with_reducible rfl))
    simp only [Act.put]; try simp only [List.setIfInBounds_toArray]; try simp only [List.set_cons_zero, List.set_cons_succ]
    refine wpAnyL_take (i := 3) (d := some 10) (v := .string v) rfl rfl (by kernel_rfl) (by kernel_rfl) (by kernel_rfl) (fun _ _ _ h => h) (by rfl) ?yat3 ?_
    case yat3 => (intro w' hw'; have hx3 := HC.out w' (L0.out.trans hw'); go_simp; try (with_reducible rfl))
    simp only [Act.put]; try simp only [List.setIfInBounds_toArray]; try simp only [List.set_cons_zero, List.set_cons_succ]
    refine wpAnyL_only (i := 4) rfl (by kernel_rfl) (by rfl) fun K hK => ?_
    have e1 := Lib.run_convert_string_bytes (P := Tryz.prog) w.drew 9 38 5 v Tryz.underlying9 Tryz.underlying38 Tryz.underlying5
    go_simp
    refine hK.out _ _ (bytes_later w.drew _ v) ?_
    clear hK K
    try (simp only [Act.put]; try simp only [List.setIfInBounds_toArray]; try simp only [List.set_cons_zero, List.set_cons_succ])
    refine wpAnyL_take (i := 5) (d := some 12) (v := ?vat5) rfl rfl (by kernel_rfl) (by kernel_rfl) (by kernel_rfl) (fun _ _ _ h => h) (by rfl) ?yat5 ?_
    case yat5 => (intro w' hw'; go_simp; try (with_reducible rfl))
    simp only [Act.put]; try simp only [List.setIfInBounds_toArray]; try simp only [List.set_cons_zero, List.set_cons_succ]
    refine wpAnyL_only (i := 6) rfl (by kernel_rfl) (by rfl) fun K hK => ?_
    go_simp
    refine hK.out _ _ (show Later (Lib.bytesWorld w.drew 5 v) ((Lib.bytesWorld w.drew 5 v).alloc (.cells #[.int .i64 num, .bool true, .int .u64 0, .slice (some ⟨w.heap.size, 0, none⟩) v.size (grownCap w.drew v.size 0 5)] 140 (0, 0))) from Later.alloc _ _) ?_
    clear hK K
    try (simp only [Act.put]; try simp only [List.setIfInBounds_toArray]; try simp only [List.set_cons_zero, List.set_cons_succ])
    refine wpAnyL_take (i := 7) (d := some 2) (v := ?vat7) rfl rfl (by kernel_rfl) (by kernel_rfl) (by kernel_rfl) (fun _ _ _ h => h) (by rfl) ?yat7 ?_
    case yat7 => (intro w' hw'; go_simp; try (with_reducible rfl))
    simp only [Act.put]; try simp only [List.setIfInBounds_toArray]; try simp only [List.set_cons_zero, List.set_cons_succ]
    refine wpAnyL_done (by kernel_rfl) ?_ _
    go_wp2
    go_ret
    exact fields_one (p := (num, true, 0, nums v)) (f := ⟨num, true, 0, some ⟨w.heap.size, 0, none⟩, v.size, grownCap w.drew v.size 0 5, nums v⟩) (by unfold ptext; rw [if_neg (fun e => H0.out (size_zero (nums_eq_nil.1 e)))]) rfl (L0.out.trans (bytes_later w.drew _ v)) (bytes_fd HN.out)

set_option maxHeartbeats 2000000 in
set_option maxRecDepth 100000 in
theorem textr_any {S : Type} {Inv : (Nat → Prop) → S → World → Prop} {set : S → ByteArray → S} {P : Nat → Prop} {s : S} {w : World} {bn g o : Nat} {f : Fd} (hI : InvOK Inv) (hpl : TextPl Inv g o set) (h1 : w.heap[bn]? = some (.cells #[.pointer (some ⟨g, o, none⟩)] 132 (0, 0)))
    (_hbn : ¬ P bn) (hinv : Inv P s w) (hf : f.ok w w.heap.size) (hsz : f.n ≤ 1000000) :
    Calls Tryz.prog 116 #[f.val, .pointer (some ⟨bn, 0, none⟩)] w fun e w' => e = .returned (.tuple #[]) ∧ Inv P (set s (str f.pf.2.2.2)) w' ∧ Turned P w w' := by
  obtain ⟨fnum, ftext, fv, fa, fn, fc, fb⟩ := f
  obtain ⟨hPg, hgw, ⟨x, hcx⟩, hfr, hset⟩ := hpl P s w hinv
  have hbl := lt_of_block h1
  have c1 := cell_of_row w bn 0 _ _ _ h1
  simp only [List.getElem?_toArray, List.getElem?_cons_zero] at c1
  have HI := hide hI
  have hb : fb.length = fn := hf.2.2.2.1
  have hb2 : ∀ x ∈ fb, x < 256 := hf.2.2.2.2.1
  simp only at hsz
  have HSET := hide (hset (str fb) (by rw [← nums_len, nums_str hb2]; omega))
  have HPG := hide hPg
  have d1 := run_str (w.alloc (.cells #[.int .i64 fnum, .bool ftext, .int .u64 fv, .slice fa fn fc] 140 (0, 0))) w.heap.size fa fn fc fb (hf.2.2.2.below (Later.alloc w _))
  obtain ⟨y, hy⟩ : ∃ y, str fb = y := ⟨_, rfl⟩
  rw [hy] at HSET d1
  clear hf hPg hset h1 _hbn hinv hpl hI hb hsz hb2
  simp only [Fd.val, Fd.cells, Fd.pf, hy]
  clear hy
  go_enter Tryz.func116, Tryz.ntmps116
  go_wp2
  go_end0
  exact ⟨rfl, HI.out.keep _ _ _ _ (Kept.of_below (Later.alloc _ _) _) HSET.out, (Turned.of_grown (grown_cell w g o _) fun q e => by obtain rfl := Option.some.inj e; exact HPG.out).trans (Turned.of_below (Later.alloc _ _) P)⟩

set_option maxHeartbeats 2000000 in
set_option maxRecDepth 100000 in
theorem enters_text : Enters 115 ∧ Enters 116 := ⟨fun args w => by go_simp, fun args w => by go_simp⟩
set_option maxHeartbeats 2000000 in
set_option maxRecDepth 100000 in
theorem text_any {w : World} {num : Int} {g o : Nat} (hn : I64 num) (hg : g < w.heap.size) : Calls Tryz.prog 81 #[.int .i64 num, .pointer (some ⟨g, o, none⟩)] w (TextIs num g o w) := by
  have HN := hide hn
  have HG := hide hg
  clear hn hg
  go_enter Tryz.func81, Tryz.ntmps81
  go_wp2
  have h3 := heap_third w (.cells #[.int .i64 num] 3 (0, 0)) (.cells #[.pointer (some ⟨g, o, none⟩)] 132 (0, 0)) (.cells #[.int .i64 num, .func (.func 115) #[] #[.pointer (some ⟨w.heap.size + 1, 0, none⟩), .pointer (some ⟨w.heap.size, 0, none⟩)], .func (.func 116) #[] #[.pointer (some ⟨w.heap.size + 1, 0, none⟩)]] 110 (0, 0))
  refine bodyPost_ret (results_cell_row Tryz.results81 _ _ (w.heap.size + 1 + 1) 110 _ (0, 0) _ (by rfl) h3 Tryz.underlying110 (by rfl) (by kernel_rfl)) (by rfl) ?_
  have hl : Later w (((w.alloc (.cells #[.int .i64 num] 3 (0, 0))).alloc (.cells #[.pointer (some ⟨g, o, none⟩)] 132 (0, 0))).alloc (.cells #[.int .i64 num, .func (.func 115) #[] #[.pointer (some ⟨w.heap.size + 1, 0, none⟩), .pointer (some ⟨w.heap.size, 0, none⟩)], .func (.func 116) #[] #[.pointer (some ⟨w.heap.size + 1, 0, none⟩)]] 110 (0, 0))) := ((Later.alloc w _).trans (Later.alloc _ _)).trans (Later.alloc _ _)
  obtain ⟨x1, x2, hz⟩ := heap_firsts w (.cells #[.int .i64 num] 3 (0, 0)) (.cells #[.pointer (some ⟨g, o, none⟩)] 132 (0, 0)) (.cells #[.int .i64 num, .func (.func 115) #[] #[.pointer (some ⟨w.heap.size + 1, 0, none⟩), .pointer (some ⟨w.heap.size, 0, none⟩)], .func (.func 116) #[] #[.pointer (some ⟨w.heap.size + 1, 0, none⟩)]] 110 (0, 0))
  refine ⟨⟨num, 115, #[.pointer (some ⟨w.heap.size + 1, 0, none⟩), .pointer (some ⟨w.heap.size, 0, none⟩)], 116, #[.pointer (some ⟨w.heap.size + 1, 0, none⟩)]⟩, rfl, rfl, hl, ?_, ?_⟩
  · intro St v hcell
    refine ⟨enters_text.1, fun wx hs hst => ?_⟩
    exact textw_any ((hs.2 _ (by omega) (by omega)).trans x2) ((hs.2 _ (by omega) (by omega)).trans x1) (hcell wx hst) (by have := hs.1; have := HG.out; omega) HN.out
  · intro S Inv sz set hI hpl
    refine ⟨enters_text.2, fun P s wx f hs hP hP2 hinv hf hz9 => ?_⟩
    exact textr_any hI hpl ((hs.2 _ (by omega) (by omega)).trans x2) (hP _ (by omega) (by omega)) hinv hf (by omega)
end Go.Proofs.YtehiaeihkdfclaaGreatDoor
/- The walk over field.Good. -/
namespace Go.Proofs.YtehiaeihkdfclaaGreatDoor
open Go.RowKit

set_option maxHeartbeats 400000 in
theorem good_any (f : Fd) (w : World) :
    Calls Tryz.prog 122 #[.agg #[.int .i64 f.num, .bool f.text, .int .u64 f.v, .slice f.a f.n f.c]] w fun e w' => e = .returned (.bool f.good) ∧ Below w.heap.size w w' := by
  obtain ⟨num, text, v, a, n, c, b⟩ := f
  go_enter Tryz.func122, Tryz.ntmps122
  go_wp2
  · go_ret
    exact ⟨ret_bool (Fd.good_not (by simp only; omega)), (Below.refl _ _).alloc (Nat.le_refl _) _⟩
  · go_ret
    exact ⟨ret_bool (Fd.good_text (f := ⟨num, text, v, a, n, c, b⟩) (by simp only; omega) (by simp only; omega) (by assumption)), (Below.refl _ _).alloc (Nat.le_refl _) _⟩
  · go_ret
    exact ⟨ret_bool (Fd.good_num (f := ⟨num, text, v, a, n, c, b⟩) (by simp only; omega) (by simp only; omega) (by assumption)), (Below.refl _ _).alloc (Nat.le_refl _) _⟩
  · go_ret
    exact ⟨ret_bool (Fd.good_not (by simp only; omega)), (Below.refl _ _).alloc (Nat.le_refl _) _⟩
theorem good_is (f : Fd) (b : Bool) (h : f.good = b) (w : World) :
    Calls Tryz.prog 122 #[.agg #[.int .i64 f.num, .bool f.text, .int .u64 f.v, .slice f.a f.n f.c]] w fun e w' => e = .returned (.bool b) ∧ Below w.heap.size w w' :=
  (good_any f w).mono fun _ _ ⟨he, hb⟩ => ⟨by rw [he, h], hb⟩
end Go.Proofs.YtehiaeihkdfclaaGreatDoor
/- The walks over field.record and field.Write: the bytes of the good fields, one behind the other. -/
namespace Go.Proofs.YtehiaeihkdfclaaGreatDoor
open Go.RowKit

set_option maxHeartbeats 1000000 in
set_option maxRecDepth 100000 in
theorem record_any (A : Option Addr) (n c : Nat) (fs : List Fd) (w : World) (hf : FHolds w w.heap.size A n fs) (hroom : room fs ≤ 1099511627000) (hn : n ≤ 1099511627000) :
    Calls Tryz.prog 97 #[.slice A n c] w fun e w' => ∃ v m, e = .returned v ∧ w'.ownsRow w.heap.size 5 1 v m (bvs (recOf fs)) ∧ Below w.heap.size w w' := by
  obtain ⟨i0, hi, hz0, hz1, hz2⟩ := info_parts Tryz.infoU8
  have HF := hide hf
  clear hf
  go_enter Tryz.func97, Tryz.ntmps97
  go_wp2
  go_loopw [3, 9] (fun s i wr => ∃ k m : Nat, k ≤ n ∧ i = .int .i64 k ∧ wr.ownsRow w.heap.size 5 1 s m (bvs (recOf (fs.take k))) ∧ Below w.heap.size w wr) (fun _ i _ => n - (intOf i).toNat)
  case atStart => exact ⟨0, 0, by omega, rfl, by simpa [recOf, bvs] using World.ownsRow_nil _ _ _ _, Below.refl _ _⟩
  case round =>
    obtain ⟨k, m, hk, rfl, hown, hbel⟩ := hrel
    by_cases hlt : k < n
    · obtain ⟨f, b, off, hfk, hok, rfl, hbB, c0, c1, c2, c3, htk⟩ := (HF.out.below hbel).at_ hlt
      obtain ⟨num, text, v, a, fn, fc, fb⟩ := f
      simp only at c0 c1 c2 c3
      have Htk := hide htk
      clear hfk htk
      have hsz := hbel.size
      have hrec := HF.out.lens
      have Hm : Hid (m ≤ 1099511627000) := by
        have h1 := recOf_len (fs.take k) fun g hg => hrec g (List.mem_of_mem_take hg)
        have h2 := room_take fs k
        have h3 := hown.1
        rw [bvs_len] at h3
        show m ≤ _
        omega
      have hfn : fn ≤ 1099511627000 ∧ m + 20 + fn ≤ 1099511627000 := by
        have h1 := recOf_len (fs.take k) fun g hg => hrec g (List.mem_of_mem_take hg)
        have h2 := room_take fs (k + 1)
        rw [Htk.out, room_snoc] at h2
        have h3 := hown.1
        rw [bvs_len] at h3
        simp only at h2
        omega
      have hf1 := hfn.1
      have hf2 := hfn.2
      have Hrs : Hid (recOf (fs.take (k + 1)) = recOf (fs.take k) ++ Fd.bytes ⟨num, text, v, a, fn, fc, fb⟩) := by
        show _ = _
        rw [Htk.out, recOf_snoc]
      clear hrec hfn
      by_cases hgood : Fd.good ⟨num, text, v, a, fn, fc, fb⟩ = true
      · obtain ⟨hn1, hn2⟩ := Fd.good_range hgood
        simp only at hn1 hn2
        have Hg := hide hgood
        have hv64 := hide hok.2.1
        have hB := hok.2.2.2
        have HB := hide (show Holds wr w.heap.size a fn fb from hB)
        clear hgood hok hB
        have hkey := u64_odd_int num (by omega) (by omega)
        have b1 := enc_len (num * 2 + 1).toNat
        have b2 := enc_len ((fn : Int)).toNat
        have b3 := enc_len (num * 2).toNat
        cases text with
        | true =>
          go_wp2_with (fail)
          refine (good_is ⟨num, true, v, a, fn, fc, fb⟩ true Hg.out _).mono ?_
          rintro e w1 ⟨rfl, hb1⟩
          have B1 := hide ((Box.new wr 140 (.int .i64 num) (.bool true) (.int .u64 v) (.slice a fn fc)).below hb1 (by simp))
          obtain ⟨d0, d1, d2, d3⟩ := B1.out.cell
          have o1 := own_below (hown.alloc _) hb1
          have s1 := hb1.size
          simp at s1
          go_wp2_with (fail)
          refine (put_int w.heap.size m (num * 2 + 1) _ (recOf (fs.take k)) _ (by omega) (by omega) (by omega) (by omega) o1).mono ?_
          rintro e w2 ⟨v2, rfl, o2, g2⟩
          have B2 := hide (B1.out.went g2 o1 (by decide))
          obtain ⟨e0, e1, e2, e3⟩ := B2.out.cell
          clear d0 d1 d2 d3
          have s2 := g2.size
          go_wp2_with (fail)
          refine (put_int w.heap.size (m + (enc (num * 2 + 1).toNat).length) (fn : Int) _ _ _ (by omega) (by omega) (by omega) (by omega) o2).mono ?_
          rintro e w3 ⟨v3, rfl, o3, g3⟩
          have B3 := hide (B2.out.went g3 o2 (by decide))
          obtain ⟨f0, f1, f2, f3⟩ := B3.out.cell
          clear e0 e1 e2 e3
          have s3 := g3.size
          have l3 : Below w.heap.size wr w3 := (((Below.refl _ _).alloc hsz _).trans (hb1.mono (by simp; omega))).trans ((g2.below o1 (by omega)).trans (g3.below o2 (by omega)))
          go_wp2_with (at_builtin; refine wpList_append_bytes _ rfl (.tmp 32) (.tmp 34) 38 rfl w.heap.size 5 i0 (.int .u8 0) Tryz.underlying38 hi hz0 hz1 hz2 rfl v3 (m + (enc (num * 2 + 1).toNat).length + (enc ((fn : Int)).toNat).length) _ rfl o3 w.heap.size a fn fc fb rfl (HB.out.below l3) (by omega) (by omega) ?_; intro v4 w4 o4 g4)
          go_roundw
          case rel =>
            refine ⟨k + 1, m + (enc (num * 2 + 1).toNat).length + (enc ((fn : Int)).toNat).length + fn, by omega, by go_num, ?_, (hbel.trans l3).trans (g4.below o3 (by omega))⟩
            rw [Hrs.out, bytes_text Hg.out rfl]
            rw [← bvs_append] at o4
            rw [show 2 * num.toNat + 1 = (num * 2 + 1).toNat from by omega]
            simpa using o4
          case measure => simp [intOf]; omega
        | false =>
          go_wp2_with (fail)
          refine (good_is ⟨num, false, v, a, fn, fc, fb⟩ true Hg.out _).mono ?_
          rintro e w1 ⟨rfl, hb1⟩
          have B1 := hide ((Box.new wr 140 (.int .i64 num) (.bool false) (.int .u64 v) (.slice a fn fc)).below hb1 (by simp))
          obtain ⟨d0, d1, d2, d3⟩ := B1.out.cell
          have o1 := own_below (hown.alloc _) hb1
          have s1 := hb1.size
          simp at s1
          go_wp2_with (fail)
          refine (put_int w.heap.size m (num * 2) _ (recOf (fs.take k)) _ (by omega) (by omega) (by omega) (by omega) o1).mono ?_
          rintro e w2 ⟨v2, rfl, o2, g2⟩
          have B2 := hide (B1.out.went g2 o1 (by decide))
          obtain ⟨e0, e1, e2, e3⟩ := B2.out.cell
          clear d0 d1 d2 d3
          have s2 := g2.size
          go_wp2_with (fail)
          refine (put_any w.heap.size (m + (enc (num * 2).toNat).length) v _ _ _ hv64.out (by omega) (by omega) o2).mono ?_
          rintro e w3 ⟨v3, rfl, o3, g3⟩
          have l3 : Below w.heap.size wr w3 := (((Below.refl _ _).alloc hsz _).trans (hb1.mono (by simp; omega))).trans ((g2.below o1 (by omega)).trans (g3.below o2 (by omega)))
          go_wp2
          go_roundw
          case rel =>
            refine ⟨k + 1, m + (enc (num * 2).toNat).length + (enc v).length, by omega, by go_num, ?_, hbel.trans l3⟩
            rw [Hrs.out, bytes_num Hg.out rfl]
            rw [show 2 * num.toNat = (num * 2).toNat from by omega]
            simpa using o3
          case measure => simp [intOf]; omega
      · have Hg := hide (show Fd.good ⟨num, text, v, a, fn, fc, fb⟩ = false by simpa using hgood)
        clear hgood
        go_wp2_with (fail)
        refine (good_is ⟨num, text, v, a, fn, fc, fb⟩ false Hg.out _).mono ?_
        rintro e w1 ⟨rfl, hb1⟩
        have o1 := own_below (hown.alloc _) hb1
        have l1 : Below w.heap.size wr w1 := ((Below.refl _ _).alloc hsz _).trans (hb1.mono (by simp; omega))
        go_wp2
        go_roundw
        case rel =>
          refine ⟨k + 1, m, by omega, by go_num, ?_, hbel.trans l1⟩
          rw [Hrs.out, bytes_not Hg.out]
          simpa using o1
        case measure => simp [intOf]; omega
    · have Hk : Hid (fs.take k = fs) := by
        show _ = _
        exact List.take_of_length_le (by have := HF.out.1; omega)
      go_wp2
      go_ret
      rw [Hk.out] at hown
      exact ⟨_, m, rfl, hown, hbel⟩

theorem write_any (A : Option Addr) (n c : Nat) (fs : List Fd) (w : World) (hf : FHolds w w.heap.size A n fs) (hroom : room fs ≤ 1099511627000) (hn : n ≤ 1099511627000) :
    Calls Tryz.prog 65 #[.slice A n c] w fun e w' => ∃ v m, e = .returned v ∧ w'.ownsRow w.heap.size 5 1 v m (bvs (recOf fs)) ∧ Below w.heap.size w w' := by
  have HF := hide hf
  clear hf
  go_enter Tryz.func65, Tryz.ntmps65
  go_wp2_with (go_at_call 97; refine (record_any A n c fs _ HF.out hroom hn).mono ?_; rintro e w1 ⟨v1, m, rfl, o1, b1⟩)
  go_ret
  exact ⟨v1, m, rfl, o1, b1⟩
theorem write_new (A : Option Addr) (n c : Nat) (fs : List Fd) (w : World) (hf : FHolds w w.heap.size A n fs) (hroom : room fs ≤ 1099511627000) (hn : n ≤ 1099511627000) :
    Calls Tryz.prog 65 #[.slice A n c] w (NewBytes w (recOf fs)) :=
  (write_any A n c fs w hf hroom hn).mono fun e w' ⟨v, m, he, ho, hb⟩ => by
    subst he
    exact newBytes_of ho hf.small hb
end Go.Proofs.YtehiaeihkdfclaaGreatDoor
/- The walk over note.write: the record of what parts have. -/
namespace Go.Proofs.YtehiaeihkdfclaaGreatDoor
open Go.RowKit

/-- A row of the call's own has grown: what was there has not turned. -/
theorem later_grown2 {w w1 w2 : World} {e size n : Nat} {v : Value} {xs : List Value} (hl : Later w w1) (ho : w1.ownsRow w.heap.size e size v n xs) (hg : w1.grownBy w2 v.ownBlock) : Later w w2 :=
  Below.trans hl ((Below.refl _ _).grown hg (Below.size hl) fun k hk => (ho.lt k hk).1)

theorem Tryz.infoFd9 : (Tryz.prog.info? 140).map (fun i => (i.zero, i.size, i.bytes)) = some (some (.agg #[.int .i64 0, .bool false, .int .u64 0, .slice none 0 0]), 4, 48) := by kernel_rfl

set_option maxHeartbeats 1000000 in
set_option maxRecDepth 100000 in
theorem nwrite_any {a b : Nat} {w0 w : World} {St : World → Prop} {A : Option Addr} {n c : Nat} {ps : List PartV} {fss : List (List PF)} (hp : PartsAt a b w (.slice A n c) ps) (hn : n = ps.length) (hs : Stay a b w0 w) (hst : St w)
    (hup : ∀ w w', St w → Later w w' → St w') (hw : WrAll a b w0 St ps fss) (hroom : proom fss.flatten ≤ 1000000000) :
    Calls Tryz.prog 31 #[.slice A n c] w (NewBytes w (prec fss.flatten)) := by
  obtain ⟨i0, hi, hz0, hz1, hz2⟩ := info_parts Tryz.infoFd9
  have hlen := all2_len hw
  have HP := hide hp
  have HS := hide hs
  have HST := hide hst
  have HUP := hide hup
  have HW := hide hw
  have HR := hide hroom
  have hnb : n ≤ 9223372036854775807 := by
    obtain ⟨_, _, hv, h1, h2, _⟩ := FlatAt.shape hp
    injection hv with _ e2 e3
    unfold maxLen at h2
    omega
  have HN := hide hn
  have HL0 := hide hlen
  clear hp hs hst hup hw hroom hn hlen
  go_enter Tryz.func31, Tryz.ntmps31
  go_wp2
  go_loopw [3, 8] (fun lv i wr => ∃ (k : Nat) (fds : List Fd), k ≤ n ∧ i = .int .i64 (k : Int) ∧ wr.ownsRow w.heap.size 140 4 lv fds.length (fcells fds) ∧ (∀ f ∈ fds, FdAt wr f) ∧ fds.map Fd.pf = (fss.take k).flatten ∧ Later w wr) (fun _ i _ => n - (intOf i).toNat)
  case atStart => exact ⟨0, [], by omega, rfl, by simpa [fcells] using World.ownsRow_nil _ _ _ _, by simp, by simp, Later.refl _⟩
  case round =>
    obtain ⟨k, fds, hk, rfl, hown, hoks, hpf, hlat⟩ := hrel
    have HO := hide hown
    have HK := hide hoks
    have HF := hide hpf
    have HL := hide hlat
    clear hown hoks hpf hlat
    by_cases hlt : k < n
    · obtain ⟨p, g, off, c', hpk, hv, _, hgw, q0, q1, q2⟩ := (HP.out.stay ((Stay.refl HS.out.1).later HL.out) (Below.size HL.out)).at_ (i := k) (by rw [← HN.out]; exact hlt)
      obtain ⟨rfl, rfl⟩ : A = some ⟨g, off, none⟩ ∧ c = c' := by injection hv with e1 _ e3; exact ⟨e1, e3⟩
      obtain ⟨fs, hfs, hwr⟩ := all2_at HW.out hpk
      obtain ⟨num, wf, wc, rf, rc⟩ := p
      simp only at q0 q1 q2
      have C := hide (fun w' (hl : Later w w') => hwr.2 w' (HS.out.later hl) (HUP.out _ _ HST.out hl))
      have eg := hwr.1
      have HFS := hide hfs
      clear hv hpk hwr hfs
      simp only at C eg
      unfold Enters at eg
      go_wp2_with (fail)
      refine (C.out _ (HL.out.trans (Later.alloc _ _))).mono ?_
      rintro e w1 ⟨A1, n1, c1, gds, rfl, hfh, hfo, hgp, hnc1, hl1⟩
      have HL1 := hide ((HL.out.trans (Later.alloc _ _)).trans hl1)
      have O1 := hide (own_below_any HO.out ((Later.alloc _ _).trans hl1))
      have K1 := hide (fun f hf => ((HK.out f hf).below ((Later.alloc _ _).trans hl1)))
      have HFH := hide hfh
      have HFO := hide hfo
      have HGP := hide hgp
      have hcount : fds.length + n1 ≤ 50000000 := by
        have h1 := take_flat_room fss (k + 1)
        have h2 := proom_count (fss.take (k + 1)).flatten
        have h3 := HR.out
        have h4 : (fss.take (k + 1)).flatten.length = fds.length + n1 := by
          rw [take_flat HFS.out, List.length_append, ← HF.out, ← hgp, List.length_map, List.length_map, hfh.1]
        omega
      clear hfh hfo hgp hl1 C eg
      go_wp2_with (at_builtin; refine wpList_append_fields _ rfl (.tmp 12) (.tmp 15) 106 rfl w.heap.size 140 i0 _ Tryz.underlying106 hi hz0 hz1 hz2 rfl _ fds.length fds rfl O1.out w1.heap.size A1 n1 c1 gds rfl HFH.out (by omega) (Below.size HL1.out) ?_; intro v2 w2 o2 g2)
      have O2 := hide o2
      have G2 := hide g2
      clear o2 g2
      go_roundw
      case rel =>
        refine ⟨k + 1, fds ++ gds, by omega, by go_num, ?_, ?_, ?_, ?_⟩
        · rw [List.length_append, HFH.out.1]
          exact O2.out
        · intro f hf
          rcases List.mem_append.1 hf with hf | hf
          · exact (K1.out f hf).kept O1.out G2.out (by decide)
          · exact (HFO.out f hf).kept O1.out G2.out (by decide)
        · rw [List.map_append, HF.out, HGP.out, take_flat HFS.out]
        · exact later_grown2 HL1.out O1.out G2.out
      case measure => simp [intOf]; omega
    · obtain rfl : k = n := by omega
      have hall : fds.map Fd.pf = fss.flatten := by rw [HF.out, List.take_of_length_le (by have := HL0.out; have := HN.out; omega)]
      obtain ⟨A', c1, hv, h1, h2⟩ := FHolds.of_own HO.out fun f hf => (HK.out f hf).ok
      subst hv
      have hrm : room fds ≤ 1000000000 := by rw [room_pf fds h2.lens, hall]; exact HR.out
      have hct : fds.length ≤ 1000000000 := by
        have h3 := proom_count (fds.map Fd.pf)
        have h5 : fds.length = (fds.map Fd.pf).length := by simp
        rw [hall] at h3 h5
        have := HR.out
        omega
      have hrec : recOf fds = prec fss.flatten := by rw [recOf_pf fds h2.lens, hall]
      have C := hide (write_new A' fds.length c1 fds wr h2 (by omega) (by omega))
      rw [hrec] at C
      clear hall h1 h2 hrm hct hrec
      go_wp2_with (fail)
      refine C.out.mono ?_
      rintro e w1 ⟨A2, n2, c2, rfl, h1, h2, h3, h4⟩
      have H1 := hide (own_base h1 (Below.size HL.out))
      have H2 := hide h2
      have H4 := hide (HL.out.trans h4)
      clear h1 h2 h4 C
      go_wp2
      go_ret
      exact ⟨A2, n2, c2, rfl, H1.out, H2.out, h3, H4.out⟩
end Go.Proofs.YtehiaeihkdfclaaGreatDoor
/- The walk over note.read: what a record has, put where its parts say. -/
namespace Go.Proofs.YtehiaeihkdfclaaGreatDoor
open Go.RowKit

/-- Parts of numbers of their own: at most one of them takes a field. -/
theorem rd1_before {S : Type} {s : S} {f : PF} : ∀ (l : Parts S), (∀ q ∈ l, q.1 ≠ f.1) → rd1 l s f = s
  | [], _ => rfl
  | q :: r, h => by
    have ih := rd1_before (s := s) r fun x hx => h x (by simp [hx])
    unfold rd1 at ih ⊢
    rw [List.foldl_cons, if_neg (h q (by simp)), ih]
theorem rd1_snoc {S : Type} (l : Parts S) (q : Int × (S → PF → S)) (s : S) (f : PF) : rd1 (l ++ [q]) s f = if q.1 = f.1 then q.2 (rd1 l s f) f else rd1 l s f := by
  unfold rd1
  rw [List.foldl_append, List.foldl_cons, List.foldl_nil]
theorem nodup_take {S : Type} {acts : Parts S} (hd : (acts.map (·.1)).Nodup) {j : Nat} {q : Int × (S → PF → S)} (hq : acts[j]? = some q) : ∀ x ∈ acts.take j, x.1 ≠ q.1 := by
  intro x hx e
  obtain ⟨i, hi, rfl⟩ := List.getElem_of_mem hx
  have hij : i < j := by rw [List.length_take] at hi; omega
  have hj : j < acts.length := (List.getElem?_eq_some_iff.1 hq).1
  have h1 := List.pairwise_iff_getElem.1 hd i j (by simp; omega) (by simp; omega) hij
  apply h1
  simp only [List.getElem_map]
  rw [List.getElem_take] at e
  rw [e]
  have := (List.getElem?_eq_some_iff.1 hq).2
  rw [this]
/-- Growth of one step. -/
theorem rd1_grow {S : Type} {acts : Parts S} {sz : S → Nat} (hd : (acts.map (·.1)).Nodup) (hg : ∀ q ∈ acts, ∀ s p, sz (q.2 s p) ≤ sz s + 1 + p.2.2.2.length) (s : S) (f : PF) :
    ∀ j, sz (rd1 (acts.take j) s f) ≤ sz s + 1 + f.2.2.2.length ∧ ((∀ x ∈ acts.take j, x.1 ≠ f.1) → rd1 (acts.take j) s f = s)
  | 0 => ⟨by simp [rd1]; omega, fun _ => by simp [rd1]⟩
  | j + 1 => by
    obtain ⟨h1, h2⟩ := rd1_grow hd hg s f j
    rcases hq : acts[j]? with _ | q
    · rw [List.take_add_one, hq]
      simpa using ⟨h1, fun h => rd1_before _ (by simpa using h)⟩
    · rw [List.take_add_one, hq]
      simp only [Option.toList_some, rd1_snoc]
      have hn := nodup_take hd hq
      refine ⟨?_, fun h => ?_⟩
      · split
        · rename_i e
          rw [h2 (by rw [← e]; exact hn)]
          exact hg q (List.mem_of_getElem? hq) s f
        · exact h1
      · have hx := h q (by simp)
        rw [if_neg hx]
        exact h2 fun x hx' => h x (by simp [hx'])
/-- Growth of all. -/
def fsum (l : List PF) : Nat := (l.map fun p => 1 + p.2.2.2.length).sum
theorem rdL_grow {S : Type} {acts : Parts S} {sz : S → Nat} (hd : (acts.map (·.1)).Nodup) (hg : ∀ q ∈ acts, ∀ s p, sz (q.2 s p) ≤ sz s + 1 + p.2.2.2.length) : ∀ (l : List PF) (s : S), sz (rdL acts s l) ≤ sz s + fsum l
  | [], s => by simp [rdL]
  | f :: r, s => by
    have h1 := (rd1_grow hd hg s f acts.length).1
    rw [List.take_of_length_le (Nat.le_refl _)] at h1
    have h2 := rdL_grow hd hg r (rd1 acts s f)
    unfold rdL at h2 ⊢
    rw [List.foldl_cons]
    simp only [fsum, List.map_cons, List.sum_cons] at *
    omega
theorem num_min : ∀ (l : List Nat) (i a : Nat), (num l i a).2.2 = 0 → i + 1 ≤ (num l i a).2.1
  | [], i, a, h => by simp [num] at h
  | c :: r, i, a, h => by
    unfold num at h ⊢
    split at h
    · simp at h
    · rename_i h1
      rw [if_neg h1]
      split at h
      · rename_i h2
        rw [if_pos h2]
        exact Nat.le_refl _
      · rename_i h2
        rw [if_neg h2]
        have := num_min r (i + 1) _ h
        omega
theorem pfirst_len (l : List Nat) (h : (pfirst l).1 = 0) : 1 + (pfirst l).2.1.2.2.2.length ≤ (pfirst l).2.2 ∧ (pfirst l).2.2 ≤ l.length := by
  unfold pfirst at h ⊢
  split at h
  · rename_i h0; exact absurd h h0
  · rename_i h0
    split at h
    · simp at h
    · rename_i h1
      split at h
      · rename_i h2; exact absurd h h2
      · rename_i h2
        rw [if_neg h0, if_neg h1, if_neg h2]
        have m1 := num_min l 0 0 (by simpa using h0)
        have m2 := num_min (l.drop (num l 0 0).2.1) 0 0 (by simpa using h2)
        have b1 := (num_bound l 0 0).1
        have b2 := (num_bound (l.drop (num l 0 0).2.1) 0 0).1
        rw [List.length_drop] at b2
        split at h
        · rename_i h3
          rw [if_pos h3]
          simp only [List.length_nil]
          omega
        · rename_i h3
          split at h
          · simp at h
          · rename_i h4
            rw [if_neg h3, if_neg h4]
            simp only [List.length_take, List.length_drop]
            omega
theorem fsum_preadF : ∀ (k : Nat) (l : List Nat), fsum (preadF k l).2 ≤ l.length
  | 0, l => by unfold preadF; split <;> simp [fsum]
  | k + 1, l => by
    unfold preadF
    split
    · simp [fsum]
    · split
      · simp [fsum]
      · rename_i h1
        split
        · simp [fsum]
        · have h2 := pfirst_len l (by simpa using h1)
          have h3 := fsum_preadF k (l.drop (pfirst l).2.2)
          rw [List.length_drop] at h3
          simp only [fsum, List.map_cons, List.sum_cons] at *
          omega
theorem fsum_pread (l : List Nat) : fsum (pread l).2 ≤ l.length := fsum_preadF _ _
theorem rdB_grow {S : Type} {acts : Parts S} {sz : S → Nat} (hd : (acts.map (·.1)).Nodup) (hg : ∀ q ∈ acts, ∀ s p, sz (q.2 s p) ≤ sz s + 1 + p.2.2.2.length) (l : List Nat) (s : S) : sz (rdB acts s l) ≤ sz s + l.length :=
  Nat.le_trans (rdL_grow hd hg _ s) (Nat.add_le_add_left (fsum_pread l) _)
theorem fsum_take (l : List PF) {k : Nat} {f : PF} (h : l[k]? = some f) : fsum (l.take k) + (1 + f.2.2.2.length) ≤ fsum l := by
  have e : l = l.take k ++ l.drop k := (List.take_append_drop k l).symm
  have e2 : l.drop k = f :: l.drop (k + 1) := by
    have hk : k < l.length := (List.getElem?_eq_some_iff.1 h).1
    rw [List.drop_eq_getElem_cons hk, (List.getElem?_eq_some_iff.1 h).2]
  have : fsum l = fsum (l.take k) + fsum (l.drop k) := by
    have hap : ∀ a b : List PF, fsum (a ++ b) = fsum a + fsum b := fun a b => by simp [fsum]
    rw [← hap, List.take_append_drop]
  rw [this, e2]
  simp [fsum]
theorem rdL_snoc {S : Type} (ps : Parts S) (s : S) (l : List PF) {k : Nat} {f : PF} (h : l[k]? = some f) : rdL ps s (l.take (k + 1)) = rd1 ps (rdL ps s (l.take k)) f := by
  rw [List.take_add_one, h]
  simp only [Option.toList_some, rdL_append]
  rfl

/-- Blocks of an object alone, and such as are new from w1 on. -/
def Fresh (P : Nat → Prop) (w w1 : World) (k : Nat) : Prop := (P k ∧ k < w.heap.size) ∨ w1.heap.size ≤ k

set_option maxHeartbeats 4000000 in
set_option maxRecDepth 100000 in
theorem nread_any {S : Type} {Inv : (Nat → Prop) → S → World → Prop} {sz : S → Nat} {a b : Nat} {w0 w : World} {P : Nat → Prop} {s : S} {A : Option Addr} {n c : Nat} {l : List Nat} {B : Option Addr} {m d : Nat} {ps : List PartV} {acts : Parts S}
    (hI : InvOK Inv) (hp : PartsAt a b w (.slice B m d) ps) (hm : m = ps.length) (hs : Stay a b w0 w) (hr : RdAll a b w0 Inv sz ps acts) (hd : (acts.map (·.1)).Nodup)
    (hg : ∀ q ∈ acts, ∀ s p, sz (q.2 s p) ≤ sz s + 1 + p.2.2.2.length) (hP1 : ∀ k, a ≤ k → k < b → ¬ P k) (hP2 : ∀ k, w.heap.size ≤ k → P k) (hinv : Inv P s w)
    (hl : Holds w w.heap.size A n l) (hn : n ≤ 1000000) (hc : n ≤ c) (hsz : sz s + n ≤ 1000000) :
    Calls Tryz.prog 44 #[.slice A n c, .slice B m d] w fun e w' => e = .returned (.int .i64 ((pread l).1 : Nat)) ∧ Inv P (rdB acts s l) w' ∧ Turned P w w' := by
  have hfs := hide (fsum_pread l)
  have hll := hide hl.1
  have HI := hide hI
  have HP := hide hp
  have HS := hide hs
  have HR := hide hr
  have HLn := hide (all2_len hr)
  have HD := hide hd
  have HG := hide hg
  have HP1 := hide hP1
  have HP2 := hide hP2
  have HV := hide hinv
  have HM := hide hm
  have C := hide (read_any A n c l w hl (by omega) hc)
  have HSZ := hide hsz
  have hmb : m ≤ 9223372036854775807 := by
    obtain ⟨_, _, hv, h1, h2, _⟩ := FlatAt.shape hp
    injection hv with _ e2 e3
    unfold maxLen at h2
    omega
  clear hp hs hr hd hg hP1 hP2 hinv hl hm hI hsz
  go_enter Tryz.func44, Tryz.ntmps44
  go_wp2_with (fail)
  refine C.out.mono ?_
  rintro e w1 ⟨A1, n1, c1, fs, rfl, hpf, hfh, hnc, hb, hown, hfo⟩
  have HPF := hide hpf
  have hn1 : n1 ≤ 1000000 := by
    have h1 := hfs.out
    have h2 : (pread l).2.length ≤ fsum (pread l).2 := by
      generalize (pread l).2 = L
      induction L with
      | nil => simp
      | cons x r ih => simp only [fsum, List.map_cons, List.sum_cons, List.length_cons] at *; omega
    have h3 : fs.length = (pread l).2.length := by rw [← hpf, List.length_map]
    have h4 := hfh.1
    have h5 := hll.out
    omega
  have HB := hide hb
  have HFL := hide hfh.1
  have HOW := hide hown
  have HFO := hide hfo
  have hsw := hb.size
  have HSW := hide hsw
  have HV1 : Hid (Inv (Fresh P w w1) s w1) :=
    HI.out.mono _ _ s w1 (fun k _ h => Or.inl h) (HI.out.keep (fun k => P k ∧ k < w.heap.size) s w w1 (Kept.of_below hb _) (HI.out.mono P _ s w (fun k hk h => ⟨h, hk⟩) HV.out))
  have HF1 : Hid (∀ k, w.heap.size ≤ k → k < w1.heap.size → ¬ Fresh P w w1 k) := fun k h1 h2 h => by rcases h with ⟨_, h⟩ | h <;> omega
  have HF2 : Hid (∀ k, a ≤ k → k < b → ¬ Fresh P w w1 k) := fun k h1 h2 h => by
    rcases h with ⟨h, _⟩ | h
    · exact HP1.out k h1 h2 h
    · have := HS.out.1
      omega
  have HF3 : Hid (∀ k, w1.heap.size ≤ k → Fresh P w w1 k) := fun k h => Or.inr h
  have HS1 := hide (HS.out.later (show Later w w1 from hb))
  have HPA := hide (HP.out.stay ((Stay.refl HS.out.1).later (show Later w w1 from hb)) hsw)
  clear hb hown hfo hsw C hpf hfh
  go_wp2
  go_loopw [18] (fun i wr => ∃ k : Nat, k ≤ n1 ∧ i = .int .i64 (k : Int) ∧ Inv (Fresh P w w1) (rdL acts s ((pread l).2.take k)) wr ∧ Turned (Fresh P w w1) w1 wr) (fun i _ => n1 - (intOf i).toNat)
  case atStart => exact ⟨0, by omega, rfl, by simpa [rdL] using HV1.out, Turned.refl _ _⟩
  case round =>
    obtain ⟨k, hk, rfl, hv, ht⟩ := hrel
    have HVR := hide hv
    have HT := hide ht
    have hsr := ht.size
    clear hv ht
    by_cases hlt : k < n1
    · have ho2 := own_same_low HOW.out fun g h1 h2 => HT.out.block g h2 (HF1.out g h1 h2)
      have hf2 : ∀ f ∈ fs, FdOwn wr w.heap.size f := fun f hf => (HFO.out f hf).low fun g h1 h2 => HT.out.block g h2 (HF1.out g h1 h2)
      obtain ⟨A', c', hv', _, hfh⟩ := FHolds.of_own ho2 fun f hf => (hf2 f hf).ok
      obtain ⟨rfl, rfl⟩ : A1 = A' ∧ c1 = c' := by injection hv' with e1 _ e3; exact ⟨e1, e3⟩
      obtain ⟨f, b', off, hfk, hok, rfl, hbB, q0, q1, q2, q3, htk⟩ := hfh.at_ hlt
      obtain ⟨num, text, v, fa, fn, fc, fb⟩ := f
      simp only at q0 q1 q2 q3
      have HOK := hide hok
      have HFK := hide (HFO.out _ (List.mem_of_getElem? hfk))
      have hpk : (pread l).2[k]? = some (Fd.pf ⟨num, text, v, fa, fn, fc, fb⟩) := by rw [← HPF.out, List.getElem?_map, hfk]; rfl
      have HPK := hide hpk
      clear ho2 hf2 hv' hfh hfk hok htk hpk
      go_wp2
      have hW : Hid (Later wr (wr.alloc (.cells #[.int .i64 num, .bool text, .int .u64 v, .slice fa fn fc] 140 (0, 0)))) := Later.alloc _ _
      have hX : Hid ((wr.alloc (.cells #[.int .i64 num, .bool text, .int .u64 v, .slice fa fn fc] 140 (0, 0))).heap[wr.heap.size]? = some (.cells #[.int .i64 num, .bool text, .int .u64 v, .slice fa fn fc] 140 (0, 0))) := heap_alloc_new _ _
      have hZ : Hid ((wr.alloc (.cells #[.int .i64 num, .bool text, .int .u64 v, .slice fa fn fc] 140 (0, 0))).heap.size = wr.heap.size + 1) := World.size_alloc _ _
      generalize wr.alloc (.cells #[.int .i64 num, .bool text, .int .u64 v, .slice fa fn fc] 140 (0, 0)) = W8 at hW hX hZ ⊢
      obtain ⟨sk, hsk⟩ : ∃ q, q = rdL acts s ((pread l).2.take k) := ⟨_, rfl⟩
      rw [← hsk] at HVR
      have HSK := hide hsk
      have hszk : sz sk + 1 + fn ≤ 1000000 := by
        have h1 := rdL_grow HD.out HG.out ((pread l).2.take k) s
        rw [← hsk] at h1
        have h2 := fsum_take (pread l).2 HPK.out
        have h3 := hfs.out
        have h4 := hll.out
        have h5 := HSZ.out
        have h6 : fb.length = fn := HOK.out.2.2.2.1
        simp only [Fd.pf] at h2
        omega
      have HSZK := hide hszk
      have HV3 : Hid (Inv (fun q => Fresh P w w1 q ∧ q ≠ wr.heap.size) sk W8) :=
        HI.out.mono _ _ sk W8 (fun q _ h => h) (HI.out.keep _ sk wr W8 (Kept.of_below hW.out _) (HI.out.mono _ _ sk wr (fun q hq h => ⟨h, by omega⟩) HVR.out))
      have HT8 : Hid (Turned (Fresh P w w1) w1 W8) := HT.out.trans (Turned.of_below hW.out _)
      have hgr : w1.heap.size ≤ wr.heap.size := hsr
      have hHV3 : Inv (fun q => Fresh P w w1 q ∧ q ≠ wr.heap.size) sk W8 := HV3.out
      clear hsk hszk HV3 HVR HT hW hsr
      have hX' := hX.out
      have hZ' := hZ.out
      clear hX hZ
      generalize wr.heap.size = g8 at hgr hHV3 hX' hZ' ⊢
      have HGR := hide hgr
      have HV3 := hide hHV3
      have hX := hide hX'
      have hZ := hide hZ'
      clear hgr hHV3 hX' hZ' HOK
      go_loopw [24] (fun j wx => ∃ q : Nat, q ≤ m ∧ j = .int .i64 (q : Int) ∧ Inv (fun q => Fresh P w w1 q ∧ q ≠ g8) (rd1 (acts.take q) sk (Fd.pf ⟨num, text, v, fa, fn, fc, fb⟩)) wx ∧ Turned (fun q => Fresh P w w1 q ∧ q ≠ g8) W8 wx) (fun j _ => m - (intOf j).toNat)
      case atStart => exact ⟨0, by omega, rfl, by simpa [rd1] using HV3.out, Turned.refl _ _⟩
      case round =>
        obtain ⟨q, hq, rfl, hv, ht⟩ := hrel
        rename_i wx
        have HVX := hide hv
        have HTX := hide ht
        clear hv ht
        by_cases hqm : q < m
        · have hx8 : wr.heap[g8]? = some (.cells #[.int .i64 num, .bool text, .int .u64 v, .slice fa fn fc] 140 (0, 0)) := (HTX.out.block _ (by rw [hZ.out]; omega) (fun h => h.2 rfl)).trans hX.out
          have hg8 : g8 < wr.heap.size := lt_of_block hx8
          have d0 := cell_of_row wr g8 0 _ _ _ hx8
          have d1 := cell_of_row wr g8 1 _ _ _ hx8
          have d2 := cell_of_row wr g8 2 _ _ _ hx8
          have d3 := cell_of_row wr g8 3 _ _ _ hx8
          simp only [List.getElem?_toArray, List.getElem?_cons_succ, List.getElem?_cons_zero] at d0 d1 d2 d3
          obtain ⟨p, g, po, c', hpq, hv, _, hgw, e0, e1, e2⟩ := (HPA.out.stay (((Stay.refl HS1.out.1).turned HT8.out HF2.out).turned (HTX.out.mono fun _ h => h.1) HF2.out) (Nat.le_trans HT8.out.size HTX.out.size)).at_ (i := q) (by rw [← HM.out]; exact hqm)
          obtain ⟨rfl, rfl⟩ : B = some ⟨g, po, none⟩ ∧ d = c' := by injection hv with e1 _ e3; exact ⟨e1, e3⟩
          obtain ⟨⟨qn, act⟩, hqa, hnum, hent, hrd⟩ := all2_at HR.out hpq
          obtain ⟨pnum', wf, wc, rf, rc⟩ := p
          simp only at e0 e1 e2 hnum hent hrd
          subst hnum
          have HQA := hide hqa
          have eg := hent
          unfold Enters at eg
          by_cases hmt : pnum' = num
          · subst hmt
            have hone : rd1 (acts.take q) sk (Fd.pf ⟨pnum', text, v, fa, fn, fc, fb⟩) = sk := rd1_before _ (nodup_take HD.out hqa)
            rw [hone] at HVX
            have hnext : rd1 (acts.take (q + 1)) sk (Fd.pf ⟨pnum', text, v, fa, fn, fc, fb⟩) = act sk (Fd.pf ⟨pnum', text, v, fa, fn, fc, fb⟩) := by
              rw [List.take_add_one, hqa]
              simp only [Option.toList_some, rd1_snoc]
              exact (if_pos rfl).trans (by rw [hone])
            have HNX := hide hnext
            have C := hide (fun (wx : World) (hl : Later wr wx) => hrd (fun k => Fresh P w w1 k ∧ k ≠ g8) sk wx ⟨pnum', text, v, fa, fn, fc, fb⟩
              ((((HS1.out.turned HT8.out HF2.out).turned (HTX.out.mono fun _ h => h.1) HF2.out)).later hl) (fun k h1 h2 h => HF2.out k h1 h2 h.1)
              (fun k h => by
                have h1 := HTX.out.size
                have h2 := hZ.out
                have h3 := HGR.out
                have h4 := Below.size hl
                exact ⟨HF3.out k (by omega), by omega⟩) (HI.out.keep _ sk wr wx (Kept.of_below hl _) HVX.out)
              (((HFK.out.low fun g h1 h2 => (HT8.out.trans (HTX.out.mono fun _ h => h.1)).block g h2 (HF1.out g h1 h2)).below hl).ok) HSZK.out)
            simp only [Fd.val, Fd.cells] at C
            clear hv hpq hqa hent hrd hone hnext hx8
            go_wp2_with (fail)
            refine (C.out _ (Later.alloc _ _)).mono ?_
            rintro e w2 ⟨rfl, hv2, ht2⟩
            have HV2 := hide hv2
            have HT2 := hide ht2
            clear hv2 ht2 C eg d0 d1 d2 d3
            go_wp2
            go_roundw
            case rel => exact ⟨q + 1, by omega, by go_num, by rw [HNX.out]; exact HV2.out, (HTX.out.trans (Turned.of_below (Later.alloc _ _) _)).trans HT2.out⟩
            case measure => simp [intOf]; omega
          · have hnext : rd1 (acts.take (q + 1)) sk (Fd.pf ⟨num, text, v, fa, fn, fc, fb⟩) = rd1 (acts.take q) sk (Fd.pf ⟨num, text, v, fa, fn, fc, fb⟩) := by
              rw [List.take_add_one, hqa]
              simp only [Option.toList_some, rd1_snoc]
              exact if_neg hmt
            have HNX := hide hnext
            clear hv hpq hqa hent hrd hnext hx8 eg
            go_wp2
            go_roundw
            case rel => exact ⟨q + 1, by omega, by go_num, by rw [HNX.out]; exact HI.out.keep _ _ wr _ (Kept.of_below (Later.alloc _ _) _) HVX.out, HTX.out.trans (Turned.of_below (Later.alloc _ _) _)⟩
            case measure => simp [intOf]; omega
        · have hall : rd1 acts sk (Fd.pf ⟨num, text, v, fa, fn, fc, fb⟩) = rd1 (acts.take q) sk (Fd.pf ⟨num, text, v, fa, fn, fc, fb⟩) := by
            rw [List.take_of_length_le (by have := HLn.out; have := HM.out; omega)]
          have HALL := hide hall
          clear hall
          go_wp2
          go_roundw
          case rel =>
            refine ⟨k + 1, by omega, by go_num, ?_, HT8.out.trans (HTX.out.mono fun _ h => h.1)⟩
            rw [rdL_snoc acts s _ HPK.out, ← HSK.out, HALL.out]
            exact HI.out.mono _ _ _ _ (fun _ _ h => h.1) HVX.out
          case measure => simp [intOf]; omega
    · have hall : (pread l).2.take k = (pread l).2 := List.take_of_length_le (by
        have h3 : fs.length = (pread l).2.length := by rw [← HPF.out, List.length_map]
        have h4 : fs.length = n1 := by have := HFL.out; omega
        omega)
      rw [hall] at HVR
      clear hall
      go_wp2
      go_ret
      refine ⟨rfl, HI.out.mono _ _ _ _ (fun q _ h => ?_) HVR.out, ?_⟩
      · rcases h with h | h
        · exact h.1
        · exact HP2.out q (by have := HSW.out; omega)
      · refine (Turned.of_below HB.out P).trans (HT.out.mono fun q h => ?_)
        rcases h with h | h
        · exact h.1
        · exact HP2.out q (by have := HSW.out; omega)
end Go.Proofs.YtehiaeihkdfclaaGreatDoor
/- The parts of records: how they are written, how they are read. -/
namespace Go.Proofs.YtehiaeihkdfclaaGreatDoor
open Go.RowKit

set_option maxHeartbeats 2000000 in
set_option maxRecDepth 100000 in
theorem recw_any {a b : Nat} {w0 w : World} {St : World → Prop} {A : Option Addr} {n c bp bq : Nat} {num : Int} {ps : List PartV} {fss : List (List PF)} (h1 : w.heap[bp]? = some (.cells #[.slice A n c] 63 (0, 0))) (h2 : w.heap[bq]? = some (.cells #[.int .i64 num] 3 (0, 0)))
    (hn : I64 num) (hp : PartsAt a b w (.slice A n c) ps) (hl : n = ps.length) (hs : Stay a b w0 w) (hst : St w)
    (hup : ∀ w w', St w → Later w w' → St w') (hw : WrAll a b w0 St ps fss) (hroom : proom fss.flatten ≤ 1000000000) :
    Calls Tryz.prog 104 #[.pointer (some ⟨bp, 0, none⟩), .pointer (some ⟨bq, 0, none⟩)] w (FieldsIs (ptext num (prec fss.flatten)) w) := by
  have hx1 := cell_of_row w bp 0 _ _ _ h1
  simp only [List.getElem?_toArray, List.getElem?_cons_zero] at hx1
  have HB2 : Hid (∀ w', Later w w' → w'.cell? ⟨bq, 0, none⟩ = some (.int .i64 num)) := fun w' h => cell_of_row w' bq 0 _ _ _ ((Below.block h bq (lt_of_block h2)).trans h2)
  have HN := hide hn
  have C := hide (nwrite_any hp hl hs hst hup hw hroom)
  clear h1 h2 hn hp hl hs hst hup hw hroom
  generalize prec fss.flatten = L at C ⊢
  go_enter Tryz.func104, Tryz.ntmps104
  go_wp2_with (fail)
  refine C.out.mono ?_
  rintro e w1 ⟨A2, n2, c2, rfl, ho, hh, hc2, hb⟩
  have HO := hide ho
  have HL := hide (show Later w w1 from hb)
  have hlen := hh.1
  have HS := hide hh.2.1
  have hx2 := HB2.out w1 hb
  clear ho hh hb C hx1
  by_cases h0 : n2 = 0
  · subst h0
    have hnil : L = [] := List.eq_nil_of_length_eq_zero hlen
    subst hnil
    go_wp2
    go_ret
    exact ⟨none, 0, 0, [], rfl, FHolds.nil_ _ _, by simp, rfl, Nat.le_refl _, HL.out⟩
  · have hnn : L ≠ [] := by intro e; rw [e] at hlen; exact h0 hlen.symm
    have HNN := hide hnn
    have H0 : ((n2 : Int) == 0) = false := by simpa using h0
    clear hnn hlen
    go_wp2
    go_ret
    exact fields_one (p := (num, true, 0, L)) (f := ⟨num, true, 0, A2, n2, c2, L⟩) (by unfold ptext; rw [if_neg HNN.out]) rfl HL.out (FdOwn.at_ (base := w.heap.size) ⟨HN.out, by simp, HS.out, HO.out⟩)

set_option maxHeartbeats 2000000 in
set_option maxRecDepth 100000 in
theorem recr_any {S : Type} {Inv : (Nat → Prop) → S → World → Prop} {sz : S → Nat} {a b : Nat} {w0 w : World} {P : Nat → Prop} {s : S} {A : Option Addr} {n c bp : Nat} {ps : List PartV} {acts : Parts S} {f : Fd}
    (h1 : w.heap[bp]? = some (.cells #[.slice A n c] 63 (0, 0))) (hI : InvOK Inv) (hp : PartsAt a b w (.slice A n c) ps) (hl : n = ps.length) (hs : Stay a b w0 w) (hr : RdAll a b w0 Inv sz ps acts) (hd : (acts.map (·.1)).Nodup)
    (hg : ∀ q ∈ acts, ∀ s p, sz (q.2 s p) ≤ sz s + 1 + p.2.2.2.length) (hP1 : ∀ k, a ≤ k → k < b → ¬ P k) (hP2 : ∀ k, w.heap.size ≤ k → P k) (hinv : Inv P s w) (hf : f.ok w w.heap.size) (hsz : sz s + 1 + f.n ≤ 1000000) :
    Calls Tryz.prog 105 #[f.val, .pointer (some ⟨bp, 0, none⟩)] w fun e w' => e = .returned (.tuple #[]) ∧ Inv P (rdB acts s f.pf.2.2.2) w' ∧ Turned P w w' := by
  obtain ⟨fnum, ftext, fv, fa, fn, fc, fb⟩ := f
  have hbl := lt_of_block h1
  have c1 := cell_of_row w bp 0 _ _ _ h1
  simp only [List.getElem?_toArray, List.getElem?_cons_zero] at c1
  have hL : Later w (w.alloc (.cells #[.int .i64 fnum, .bool ftext, .int .u64 fv, .slice fa fn fc] 140 (0, 0))) := Later.alloc _ _
  have HL := hide hL
  simp only at hsz
  have hfn : fn ≤ 1000000 := by omega
  have C := hide (nread_any (A := fa) (n := fn) (c := fc) (l := fb) hI (hp.stay ((Stay.refl hs.1).later hL) (Below.size hL)) hl (hs.later hL) hr hd hg hP1 (fun k hk => hP2 k (Nat.le_trans (Below.size hL) hk)) (hI.keep P s w _ (Kept.of_below hL _) hinv)
    ((hf.2.2.2.below hL).more (Below.size hL)) hfn hf.2.2.1 (by omega))
  clear hI hp hl hs hr hd hg hP1 hP2 hinv hf hsz h1 hL
  simp only [Fd.val, Fd.cells, Fd.pf]
  go_enter Tryz.func105, Tryz.ntmps105
  go_wp2_with (fail)
  refine C.out.mono ?_
  rintro e w2 ⟨rfl, hv, ht⟩
  have HV := hide hv
  have HT := hide ht
  clear hv ht C
  go_wp2
  go_end0
  exact ⟨rfl, HV.out, (Turned.of_below HL.out P).trans HT.out⟩

/-- What a record's part is, its own parts being ps, in the stretch from a to b. -/
def RecIs (num : Int) (a b : Nat) (ps : List PartV) (w : World) (e : Ending) (w' : World) : Prop :=
  ∃ p : PartV, e = .returned (.agg p.cells.toArray) ∧ p.num = num ∧ Later w w' ∧
    (∀ (St : World → Prop) (fss : List (List PF)), (∀ w w', St w → Later w w' → St w') → WrAll a b w St ps fss → proom fss.flatten ≤ 1000000000 → WrOK a w'.heap.size w' St p (ptext num (prec fss.flatten))) ∧
    (∀ (S : Type) (Inv : (Nat → Prop) → S → World → Prop) (sz : S → Nat) (acts : Parts S), InvOK Inv → RdAll a b w Inv sz ps acts → (acts.map (·.1)).Nodup → (∀ q ∈ acts, ∀ s p, sz (q.2 s p) ≤ sz s + 1 + p.2.2.2.length) →
      RdOK a w'.heap.size w' Inv sz p fun s f => rdB acts s f.2.2.2)
set_option maxHeartbeats 2000000 in
set_option maxRecDepth 100000 in
theorem enters_rec : Enters 104 ∧ Enters 105 := ⟨fun args w => by go_simp, fun args w => by go_simp⟩
set_option maxHeartbeats 2000000 in
set_option maxRecDepth 100000 in
theorem record_any9 {w : World} {num : Int} {A : Option Addr} {n c a b : Nat} {ps : List PartV} (hn : I64 num) (hp : PartsAt a b w (.slice A n c) ps) (hl : n = ps.length) (ha : a ≤ w.heap.size) (hb : b ≤ w.heap.size) :
    Calls Tryz.prog 68 #[.int .i64 num, .slice A n c] w (RecIs num a b ps w) := by
  have HN := hide hn
  have HP := hide hp
  have HA := hide ha
  have HB := hide hb
  have HL := hide hl
  clear hn hp ha hb hl
  go_enter Tryz.func68, Tryz.ntmps68
  go_wp2
  have h3 := heap_third w (.cells #[.int .i64 num] 3 (0, 0)) (.cells #[.slice A n c] 63 (0, 0)) (.cells #[.int .i64 num, .func (.func 104) #[] #[.pointer (some ⟨w.heap.size + 1, 0, none⟩), .pointer (some ⟨w.heap.size, 0, none⟩)], .func (.func 105) #[] #[.pointer (some ⟨w.heap.size + 1, 0, none⟩)]] 110 (0, 0))
  refine bodyPost_ret (results_cell_row Tryz.results68 _ _ (w.heap.size + 1 + 1) 110 _ (0, 0) _ (by rfl) h3 Tryz.underlying110 (by rfl) (by kernel_rfl)) (by rfl) ?_
  have hl : Later w (((w.alloc (.cells #[.int .i64 num] 3 (0, 0))).alloc (.cells #[.slice A n c] 63 (0, 0))).alloc (.cells #[.int .i64 num, .func (.func 104) #[] #[.pointer (some ⟨w.heap.size + 1, 0, none⟩), .pointer (some ⟨w.heap.size, 0, none⟩)], .func (.func 105) #[] #[.pointer (some ⟨w.heap.size + 1, 0, none⟩)]] 110 (0, 0))) :=
    ((Later.alloc w _).trans (Later.alloc _ _)).trans (Later.alloc _ _)
  obtain ⟨x1, x2, hz⟩ := (heap_firsts w (.cells #[.int .i64 num] 3 (0, 0)) (.cells #[.slice A n c] 63 (0, 0)) (.cells #[.int .i64 num, .func (.func 104) #[] #[.pointer (some ⟨w.heap.size + 1, 0, none⟩), .pointer (some ⟨w.heap.size, 0, none⟩)], .func (.func 105) #[] #[.pointer (some ⟨w.heap.size + 1, 0, none⟩)]] 110 (0, 0)))
  refine ⟨⟨num, 104, #[.pointer (some ⟨w.heap.size + 1, 0, none⟩), .pointer (some ⟨w.heap.size, 0, none⟩)], 105, #[.pointer (some ⟨w.heap.size + 1, 0, none⟩)]⟩, rfl, rfl, hl, ?_, ?_⟩
  · intro St fss hup hw hroom
    refine ⟨enters_rec.1, fun wx hs hst => ?_⟩
    have hs2 : Stay a b w wx := hs.part (Nat.le_refl _) (by have := HB.out; omega) HB.out hl
    exact recw_any ((hs.2 _ (by have := HA.out; omega) (by omega)).trans x2) ((hs.2 _ HA.out (by omega)).trans x1) HN.out (HP.out.stay hs2 (by have := hs.1; omega)) HL.out hs2 hst hup hw hroom
  · intro S Inv sz acts hI hr hd hg
    refine ⟨enters_rec.2, fun P s wx f hs hP hP2 hinv hf hsz => ?_⟩
    have hs2 : Stay a b w wx := hs.part (Nat.le_refl _) (by have := HB.out; omega) HB.out hl
    exact recr_any ((hs.2 _ (by have := HA.out; omega) (by omega)).trans x2) hI (HP.out.stay hs2 (by have := hs.1; omega)) HL.out hs2 hr hd hg (fun k h1 h2 => hP k h1 (by have := HB.out; omega)) hP2 hinv hf hsz
end Go.Proofs.YtehiaeihkdfclaaGreatDoor
/- A slice of one struct, made by a literal. -/
namespace Go.Proofs.YtehiaeihkdfclaaGreatDoor
open Go.RowKit

theorem fold_put : ∀ (vs : List Value) (n : Nat) (Z : Array Value), (vs.zipIdx n).foldl (fun cs (x : Value × Nat) => cs.setIfInBounds x.2 x.1) Z = putAt Z n vs
  | [], _, _ => rfl
  | v :: r, n, Z => by rw [List.zipIdx_cons, List.foldl_cons, fold_put r (n + 1), putAt]
theorem put_whole (cells Z : Array Value) (h : Z.size = cells.size) : putAt Z 0 cells.toList = cells := by
  apply Array.ext'
  rw [putAt_toList _ _ _ (by simp; omega)]
  simp [h]

section
variable {P : Program} {w : World}
theorem run_buildSlice_one (t e : TypeId) (i : TypeInfo) (z : Value) (k : Nat) (ht : P.underlying t = some (.slice e)) (hi : P.info? e = some i) (hz : i.zero = some z) (hs : i.size = k) (hk : 0 < k) (hk2 : k ≤ 16777216)
    (cells : Array Value) (hc : cells.size = k) :
    (Instr.buildSlice t 1 #[(0, .agg cells)]).run P w = .ok (.slice (some ⟨w.heap.size, 0, none⟩) 1 1) (w.alloc (.cells cells e (0, 0))) := by
  subst hs
  have hne : ¬ (i.size = 0) := by omega
  have hbig : ¬ (16777216 < i.size) := by omega
  have hfold : ∀ Z : Array Value, Z.size = i.size → Array.foldl (fun cs (x : Value × Nat) => cs.setIfInBounds x.2 x.1) Z cells.zipIdx 0 i.size = cells := fun Z hZ => by
    have h1 := fold_put cells.toList 0 Z
    rw [put_whole cells Z (by omega)] at h1
    rw [show i.size = cells.zipIdx.size from by simp [hc], ← Array.foldl_toList]
    simpa using h1
  simp [Instr.buildSlice, run_underlying ht, sizeOf, typeInfo, hi, hne, hbig, zeroValue, hz, Instr.fill, Value.cells, hc, newRow]
  rw [hfold _ (by simp)]

theorem wpList_buildSlice_one {ops : Array Oper} {rest : List Oper} {op : Oper} {a : Act} {Q : Exit → Act → World → Prop} (hgd : op.guard = none) (t e : TypeId) (x : Operand) (ho : op.op = .buildSlice t 1 #[(0, x)]) (i : TypeInfo) (z : Value) (k : Nat) (ht : P.underlying t = some (.slice e)) (hi : P.info? e = some i) (hz : i.zero = some z) (hs : i.size = k) (hk : 0 < k) (hk2 : k ≤ 16777216)
    (cells : Array Value) (hx : a.eval x = .agg cells) (hc : cells.size = k)
    (h : wpList P ops Q rest (a.put op.dst (.slice (some ⟨w.heap.size, 0, none⟩) 1 1)) (w.alloc (.cells cells e (0, 0)))) : wpList P ops Q (op :: rest) a w := by
  refine wpList_plain hgd fun K hK => ?_
  have hr := run_buildSlice_one (P := P) (w := w) t e i z k ht hi hz hs hk hk2 cells hc
  unfold Oper.wp
  simp [execOp, ho, hx, hr, Result.andThen]
  exact hK _ _ h
end
end Go.Proofs.YtehiaeihkdfclaaGreatDoor
/- A slice of two structs, made by a literal. -/
namespace Go.Proofs.YtehiaeihkdfclaaGreatDoor
open Go.RowKit
theorem fold_put_at (m : Nat) : ∀ (vs : List Value) (n : Nat) (Z : Array Value), (vs.zipIdx n).foldl (fun cs (x : Value × Nat) => cs.setIfInBounds (m + x.2) x.1) Z = putAt Z (m + n) vs
  | [], _, _ => rfl
  | v :: r, n, Z => by rw [List.zipIdx_cons, List.foldl_cons, fold_put_at m r (n + 1), putAt]; rfl

section
variable {P : Program} {w : World}
theorem run_buildSlice_two (t e : TypeId) (i : TypeInfo) (z : Value) (k : Nat) (ht : P.underlying t = some (.slice e)) (hi : P.info? e = some i) (hz : i.zero = some z) (hs : i.size = k) (hk : 0 < k) (hk2 : 2 * k ≤ 16777216)
    (cells cells2 : Array Value) (hc : cells.size = k) (hc2 : cells2.size = k) :
    (Instr.buildSlice t 2 #[(0, .agg cells), (1, .agg cells2)]).run P w = .ok (.slice (some ⟨w.heap.size, 0, none⟩) 2 2) (w.alloc (.cells (cells ++ cells2) e (0, 0))) := by
  subst hs
  have hbig : ¬ (16777216 < 2 * i.size) := by omega
  have h0 : ¬ (2 * i.size = 0) := by omega
  have h1 : ¬ (2 * i.size < i.size) := by omega
  have hf1 : ∀ Z : Array Value, Array.foldl (fun cs (x : Value × Nat) => cs.setIfInBounds x.2 x.1) Z cells.zipIdx 0 i.size = putAt Z 0 cells.toList := fun Z => by
    have h1 := fold_put cells.toList 0 Z
    rw [show i.size = cells.zipIdx.size from by simp [hc], ← Array.foldl_toList]
    simpa using h1
  have hf2 : ∀ Z : Array Value, Array.foldl (fun cs (x : Value × Nat) => cs.setIfInBounds (i.size + x.2) x.1) Z cells2.zipIdx 0 i.size = putAt Z i.size cells2.toList := fun Z => by
    have h1 := fold_put_at i.size cells2.toList 0 Z
    conv => lhs; rw [show (0 : Nat) = 0 from rfl]
    have h2 : Array.foldl (fun cs (x : Value × Nat) => cs.setIfInBounds (i.size + x.2) x.1) Z cells2.zipIdx 0 cells2.zipIdx.size = putAt Z i.size cells2.toList := by
      rw [← Array.foldl_toList]
      simpa using h1
    simpa [hc2] using h2
  have hsz : ∀ Z : Array Value, Z.size = 2 * i.size → (putAt Z 0 cells.toList).size = 2 * i.size := fun Z hZ => by rw [putAt_size, hZ]
  have hall : ∀ Z : Array Value, Z.size = 2 * i.size → putAt (putAt Z 0 cells.toList) i.size cells2.toList = cells ++ cells2 := fun Z hZ => by
    apply Array.ext'
    rw [putAt_toList _ _ _ (by rw [hsz Z hZ]; simp; omega), putAt_toList _ _ _ (by rw [hZ]; simp; omega)]
    have e1 : cells.toList.length = i.size := by simp [hc]
    have e2 : Z.toList.length = 2 * i.size := by simp [hZ]
    have e3 : cells2.toList.length = i.size := by simp [hc2]
    simp only [List.take_zero, List.nil_append, Array.toList_append]
    rw [List.take_left' e1, List.drop_eq_nil_of_le (by simp; omega), List.append_nil]
  simp [Instr.buildSlice, run_underlying ht, sizeOf, typeInfo, hi, hbig, hz, zeroValue, Instr.fill, Value.cells, hc, hc2, newRow, h0, h1, hf1, hf2]
  rw [if_neg (by rw [hsz _ (by simp)]; omega), hall _ (by simp)]
  rfl

theorem wpList_buildSlice_two {ops : Array Oper} {rest : List Oper} {op : Oper} {a : Act} {Q : Exit → Act → World → Prop} (hgd : op.guard = none) (t e : TypeId) (x y : Operand) (ho : op.op = .buildSlice t 2 #[(0, x), (1, y)]) (i : TypeInfo) (z : Value) (k : Nat) (ht : P.underlying t = some (.slice e)) (hi : P.info? e = some i) (hz : i.zero = some z) (hs : i.size = k) (hk : 0 < k) (hk2 : 2 * k ≤ 16777216)
    (cells cells2 : Array Value) (hx : a.eval x = .agg cells) (hy : a.eval y = .agg cells2) (hc : cells.size = k) (hc2 : cells2.size = k)
    (h : wpList P ops Q rest (a.put op.dst (.slice (some ⟨w.heap.size, 0, none⟩) 2 2)) (w.alloc (.cells (cells ++ cells2) e (0, 0)))) : wpList P ops Q (op :: rest) a w := by
  refine wpList_plain hgd fun K hK => ?_
  have hr := run_buildSlice_two (P := P) (w := w) t e i z k ht hi hz hs hk hk2 cells cells2 hc hc2
  unfold Oper.wp
  simp [execOp, ho, hx, hy, hr, Result.andThen]
  exact hK _ _ h
end
end Go.Proofs.YtehiaeihkdfclaaGreatDoor
/- A slice of some structs, made by a literal. -/
namespace Go.Proofs.YtehiaeihkdfclaaGreatDoor
open Go.RowKit

theorem putAt_append : ∀ (a b : List Value) (o : Nat) (Z : Array Value), putAt Z o (a ++ b) = putAt (putAt Z o a) (o + a.length) b
  | [], b, o, Z => by simp [putAt]
  | v :: r, b, o, Z => by
    rw [List.cons_append, putAt, putAt_append r b (o + 1), putAt]
    congr 1
    simp; omega
/-- The cells of structs, one behind the other. -/
def flatC (vs : List (Array Value)) : List Value := vs.flatMap (·.toList)
theorem flatC_len {k : Nat} : ∀ (vs : List (Array Value)), (∀ v ∈ vs, v.size = k) → (flatC vs).length = vs.length * k
  | [], _ => by simp [flatC]
  | v :: r, h => by
    have h1 := h v (by simp)
    have h2 := flatC_len r fun x hx => h x (by simp [hx])
    simp only [flatC, List.flatMap_cons, List.length_append, List.length_cons, Array.length_toList] at *
    rw [h1, h2, Nat.add_mul]
    omega
theorem fill_many (k : Nat) : ∀ (vs : List (Array Value)) (n : Nat) (Z : Array Value), (∀ v ∈ vs, v.size = k) → Z.size = (n + vs.length) * k →
    Instr.fill (fun i => some (i * k, k)) Z ((vs.zipIdx n).map fun p => (p.2, Value.agg p.1)) = some (putAt Z (n * k) (flatC vs))
  | [], _, _, _, _ => by simp [Instr.fill, flatC, putAt]
  | v :: r, n, Z, h, hZ => by
    have hv := h v (by simp)
    rw [List.zipIdx_cons, List.map_cons, Instr.fill]
    have hc : (Value.agg v).cells = v := rfl
    simp only [hc, hv]
    have hle : n * k + k ≤ Z.size := by
      rw [hZ, List.length_cons, Nat.add_mul]
      have : 1 * k ≤ (r.length + 1) * k := Nat.mul_le_mul_right _ (by omega)
      omega
    rw [if_neg (by simp; omega)]
    have hf : Array.foldl (fun (cs : Array Value) (x : Value × Nat) => cs.setIfInBounds (n * k + x.2) x.1) Z v.zipIdx = putAt Z (n * k) v.toList := by
      rw [← Array.foldl_toList]
      have := fold_put_at (n * k) v.toList 0 Z
      simpa using this
    have ih := fill_many k r (n + 1) (putAt Z (n * k) v.toList) (fun x hx => h x (by simp [hx])) (by rw [putAt_size, hZ, List.length_cons]; congr 1; omega)
    rw [hf, ih]
    have e : (n + 1) * k = n * k + v.toList.length := by rw [Nat.add_mul, Array.length_toList, hv]; omega
    rw [e, ← putAt_append]
    rfl

section
variable {P : Program} {w : World}
theorem run_buildSlice_many (t e : TypeId) (i : TypeInfo) (z : Value) (k n : Nat) (ht : P.underlying t = some (.slice e)) (hi : P.info? e = some i) (hz : i.zero = some z) (hs : i.size = k) (hk : 0 < k) (hn : 0 < n) (hk2 : n * k ≤ 16777216)
    (parts : Array (Nat × Value)) (vs : List (Array Value)) (hp : parts.toList = (vs.zipIdx 0).map fun p => (p.2, Value.agg p.1)) (hl : vs.length = n) (hc : ∀ v ∈ vs, v.size = k) :
    (Instr.buildSlice t n parts).run P w = .ok (.slice (some ⟨w.heap.size, 0, none⟩) n n) (w.alloc (.cells (flatC vs).toArray e (0, 0))) := by
  subst hs
  have hbig : ¬ (16777216 < n * i.size) := by omega
  have h0 : ¬ (n * i.size = 0) := by
    intro h
    rcases Nat.mul_eq_zero.1 h with h | h <;> omega
  have hw : ∀ Z : Array Value, Z.size = n * i.size → Instr.fill (fun j => some (j * i.size, i.size)) Z parts.toList = some (flatC vs).toArray := fun Z hZ => by
    rw [hp, fill_many i.size vs 0 Z hc (by rw [hZ, hl]; simp), Nat.zero_mul]
    have := put_whole (flatC vs).toArray Z (by rw [hZ]; simp [flatC_len vs hc, hl])
    rw [show (flatC vs).toArray.toList = flatC vs from rfl] at this
    rw [this]
  simp only [Instr.buildSlice, Sem.run_bind, run_underlying ht, Sem.run_pure, Result.andThen_ok, sizeOf, typeInfo]
  simp [hbig, h0, hz, zeroValue, typeInfo, hi, newRow]
  rw [hw _ (by simp)]
  simp

theorem wp_buildSlice_many {op : Oper} {a : Act} {K : Act → World → Prop} {Q : Exit → Act → World → Prop} (t e : TypeId) (xs : Array (Nat × Operand)) (n : Nat) (ho : op.op = .buildSlice t n xs) (i : TypeInfo) (z : Value) (k : Nat) (ht : P.underlying t = some (.slice e)) (hi : P.info? e = some i) (hz : i.zero = some z) (hs : i.size = k) (hk : 0 < k) (hn : 0 < n) (hk2 : n * k ≤ 16777216)
    (vs : List (Array Value)) (hp : (xs.toList.map fun q => (q.1, a.eval q.2)) = (vs.zipIdx 0).map fun p => (p.2, Value.agg p.1)) (hl : vs.length = n) (hc : ∀ v ∈ vs, v.size = k)
    (h : K (a.put op.dst (.slice (some ⟨w.heap.size, 0, none⟩) n n)) (w.alloc (.cells (flatC vs).toArray e (0, 0)))) : op.wp P a w K Q := by
  have hr := run_buildSlice_many (P := P) (w := w) t e i z k n ht hi hz hs hk hn hk2 (xs.map fun q => (q.1, a.eval q.2)) vs (by rw [Array.toList_map]; exact hp) hl hc
  unfold Oper.wp
  simp only [execOp, ho, Sem.run_bind, hr, Result.andThen_ok, Sem.run_pure]
  exact h
end
end Go.Proofs.YtehiaeihkdfclaaGreatDoor
/- Where an object's parts lie: a step, a definition, an operation, a message inside an object; the parts of a list. -/
namespace Go.Proofs.YtehiaeihkdfclaaGreatDoor
open Go.RowKit

def Lens.comp {S X Y : Type} (L : Lens S X) (M : Lens X Y) : Lens S Y :=
  ⟨fun s => M.get (L.get s), fun s y => L.set s (M.set (L.get s) y), fun s y => by rw [L.get_set, M.get_set], fun s x y => by rw [L.get_set, M.set_set, L.set_set], fun s => by rw [M.set_get, L.set_get]⟩

/-- An object's list at this address: one more behind it, made of cells that E says. -/
def RowPl {S α : Type} (Inv : (Nat → Prop) → S → World → Prop) (sz : S → Nat) (e k : Nat) (E : Nat → World → α → List Value → Prop) (g o : Nat) (push : S → α → S) : Prop :=
  ∀ P s w, Inv P s w → (∀ k, w.heap.size ≤ k → P k) → P g ∧ g < w.heap.size ∧ ∃ v n xs, w.cell? ⟨g, o, none⟩ = some v ∧ w.frozen? ⟨g, o, none⟩ = false ∧ w.ownsRow 0 e k v n xs ∧ n ≤ sz s ∧ (∀ q, v.ownBlock = some q → P q ∧ q ≠ g) ∧
    ∀ w2 w3 v' y cells, Later w w2 → w2.grownBy w3 v.ownBlock → w3.ownsRow 0 e k v' (n + 1) (xs ++ cells) → (v'.ownBlock = v.ownBlock ∨ v'.ownBlock = some w2.heap.size) → E w.heap.size w3 y cells → Inv P (push s y) (w3.setCell ⟨g, o, none⟩ v')

theorem own_blk {w w' : World} {base e k n : Nat} {v : Value} {xs : List Value} (h : w.ownsRow base e k v n xs) (hk : ∀ q, v.ownBlock = some q → w'.heap[q]? = w.heap[q]?) : w'.ownsRow base e k v n xs := by
  refine ⟨h.1, ?_⟩
  rcases h.2 with hn | ⟨g, cap, cur, rfl, hb, hg, rest⟩
  · exact .inl hn
  · exact .inr ⟨g, cap, cur, rfl, hb, (hk g (by simp [Value.ownBlock])).trans hg, rest⟩
theorem own_lt {w : World} {base e k n q : Nat} {v : Value} {xs : List Value} (h : w.ownsRow base e k v n xs) (hq : v.ownBlock = some q) : q < w.heap.size ∧ ∃ cs, w.heap[q]? = some (.cells cs e (0, 0)) := by
  rcases h.2 with ⟨rfl, _⟩ | ⟨g, cap, cur, rfl, hb, hg, rest⟩
  · simp [Value.ownBlock] at hq
  · obtain rfl : g = q := by simpa [Value.ownBlock] using hq
    exact ⟨lt_of_block hg, cur, hg⟩
theorem own_not {w : World} {base e k n g t : Nat} {v : Value} {xs : List Value} {cs : Array Value} {fr : Nat × Nat} (h : w.ownsRow base e k v n xs) (hg : w.heap[g]? = some (.cells cs t fr)) (hne : e ≠ t) : v.ownBlock ≠ some g := fun hq => by
  obtain ⟨_, cs2, h2⟩ := own_lt h hq
  rw [hg] at h2
  injection h2 with h2
  injection h2 with _ h3
  exact hne h3.symm
theorem own_shape {w : World} {base e k n : Nat} {v : Value} {xs : List Value} (h : w.ownsRow base e k v n xs) : ∃ A c, v = .slice A n c := by
  rcases h.2 with ⟨rfl, rfl⟩ | ⟨g, cap, cur, rfl, _⟩
  · exact ⟨none, 0, rfl⟩
  · exact ⟨_, cap, rfl⟩
theorem own_flat {w : World} {base e k n : Nat} {v : Value} {xs : List Value} {F : Nat → Prop} (h : w.ownsRow base e k v n xs) (h1 : ∀ u ∈ xs, u.oneCell' = true) (hF : ∀ q, v.ownBlock = some q → F q) : FlatAt F w k v n xs := by
  refine ⟨h.1, h1, ?_⟩
  rcases h.2 with ⟨rfl, rfl⟩ | ⟨g, cap, cur, rfl, hb, hg, hnc, hm, _, _⟩
  · exact ⟨none, 0, rfl, Nat.le_refl _, by unfold maxLen; omega, fun _ => rfl, fun h => by omega⟩
  · refine ⟨some ⟨g, 0, none⟩, cap, rfl, hnc, hm, (fun h => by cases h), fun _ => ⟨g, 0, rfl, hF g (by simp [Value.ownBlock]), lt_of_block hg, fun j u hj => ?_⟩⟩
    have := h.cells (g := g) rfl j u hj
    rwa [Addr.add_lit] at this
/-- Steps of an object's own. -/
def OwnSteps (P : Nat → Prop) (w : World) (sv : Value) (l : List StepD) : Prop :=
  w.ownsRow 0 68 6 sv l.length (l.flatMap StepD.cells) ∧ (∀ q, sv.ownBlock = some q → P q) ∧ ∀ s ∈ l, s.wf
theorem OwnSteps.mono {P Q : Nat → Prop} {w : World} {sv : Value} {l : List StepD} (h : OwnSteps P w sv l) (hq : ∀ k, k < w.heap.size → P k → Q k) : OwnSteps Q w sv l := ⟨h.1, fun q e => hq q (own_lt h.1 e).1 (h.2.1 q e), h.2.2⟩
theorem OwnSteps.blk {P : Nat → Prop} {w w' : World} {sv : Value} {l : List StepD} (h : OwnSteps P w sv l) (hk : ∀ q, sv.ownBlock = some q → w'.heap[q]? = w.heap[q]?) : OwnSteps P w' sv l := ⟨own_blk h.1 hk, h.2⟩
theorem OwnSteps.keep {P : Nat → Prop} {w w' : World} {sv : Value} {l : List StepD} (h : OwnSteps P w sv l) (hk : Kept P w w') : OwnSteps P w' sv l := h.blk fun q e => hk.2 q (own_lt h.1 e).1 (h.2.1 q e)
theorem OwnSteps.flat {P F : Nat → Prop} {w : World} {sv : Value} {l : List StepD} (h : OwnSteps P w sv l) (hF : ∀ q, P q → F q) : StepsAt F w sv l := own_flat h.1 (fun u hu => by obtain ⟨s, _, hs⟩ := List.mem_flatMap.1 hu; exact s.one u hs) fun q e => hF q (h.2.1 q e)
theorem OwnSteps.nil_ (P : Nat → Prop) (w : World) : OwnSteps P w (.slice none 0 0) [] := ⟨World.ownsRow_nil _ _ _ _, fun q e => by simp [Value.ownBlock] at e, by simp⟩
/-- One more. -/
theorem OwnSteps.push {P : Nat → Prop} {w w2 w3 : World} {sv v' : Value} {l : List StepD} {y : StepD} {cells : List Value} (h : OwnSteps P w sv l) (hP2 : ∀ k, w.heap.size ≤ k → P k) (hl : Later w w2) (ho : w3.ownsRow 0 68 6 v' (l.length + 1) (l.flatMap StepD.cells ++ cells))
    (ha : v'.ownBlock = sv.ownBlock ∨ v'.ownBlock = some w2.heap.size) (he : cells = y.cells ∧ y.wf) : OwnSteps P w3 v' (l ++ [y]) := by
  refine ⟨?_, fun q e => ?_, fun s hs => ?_⟩
  · rw [List.length_append, List.flatMap_append]
    simpa [he.1] using ho
  · rcases ha with ha | ha
    · exact h.2.1 q (ha ▸ e)
    · rw [ha] at e
      obtain rfl := Option.some.inj e
      exact hP2 _ (Below.size hl)
  · rcases List.mem_append.1 hs with hs | hs
    · exact h.2.2 s hs
    · obtain rfl : s = y := by simpa using hs
      exact he.2

/-- The elements that are steps, operations, numbers. -/
def StepE (_ : Nat) (_ : World) (y : StepD) (cells : List Value) : Prop := cells = y.cells ∧ y.wf
def OpE (B : Nat) (w : World) (y : OpD) (cells : List Value) : Prop := ∃ sv, cells = y.cells sv ∧ y.wf ∧ OwnSteps (B ≤ ·) w sv y.steps
def IntE (_ : Nat) (_ : World) (y : Int) (cells : List Value) : Prop := cells = [.int .i64 y] ∧ I64 y

/-- A step, a definition, an operation at this address of an object. -/
structure StepPl {S : Type} (Inv : (Nat → Prop) → S → World → Prop) (L : Lens S StepD) (g o : Nat) : Prop where
  name : TextPl Inv g o fun s x => L.set s { L.get s with name := x }
  stub : NumPl Inv g (o + 1) fun s x => L.set s { L.get s with stub := x }
  retry : NumPl Inv g (o + 2) fun s x => L.set s { L.get s with retry := x }
  wait : NumPl Inv g (o + 3) fun s x => L.set s { L.get s with wait := x }
  undo : FlagPl Inv g (o + 4) fun s x => L.set s { L.get s with undo := x }
  pivot : FlagPl Inv g (o + 5) fun s x => L.set s { L.get s with pivot := x }
structure DefPl {S : Type} (Inv : (Nat → Prop) → S → World → Prop) (sz : S → Nat) (L : Lens S DefD) (g o : Nat) : Prop where
  name : TextPl Inv g o fun s x => L.set s { L.get s with name := x }
  steps : RowPl Inv sz 68 6 StepE g (o + 1) fun s y => L.set s { L.get s with steps := (L.get s).steps ++ [y] }
  grow : ∀ s d j, d.steps.length ≤ (L.get s).steps.length + j → sz (L.set s d) ≤ sz s + j
structure OpPl {S : Type} (Inv : (Nat → Prop) → S → World → Prop) (sz : S → Nat) (L : Lens S OpD) (g o : Nat) : Prop where
  kind : NumPl Inv g o fun s x => L.set s { L.get s with kind := x }
  client : NumPl Inv g (o + 1) fun s x => L.set s { L.get s with client := x }
  request : NumPl Inv g (o + 2) fun s x => L.set s { L.get s with request := x }
  defn : DefPl Inv sz (L.comp opDef) g (o + 3)
  saga : NumPl Inv g (o + 5) fun s x => L.set s { L.get s with saga := x }
  step : NumPl Inv g (o + 6) fun s x => L.set s { L.get s with step := x }
  try_ : NumPl Inv g (o + 7) fun s x => L.set s { L.get s with try_ := x }
  back : FlagPl Inv g (o + 8) fun s x => L.set s { L.get s with back := x }
  good : FlagPl Inv g (o + 9) fun s x => L.set s { L.get s with good := x }
  grow : ∀ s x j, x.steps.length ≤ (L.get s).steps.length + j → sz (L.set s x) ≤ sz s + j

theorem RdOK.same {S : Type} {a b : Nat} {w0 : World} {Inv : (Nat → Prop) → S → World → Prop} {sz : S → Nat} {p : PartV} {act act' : S → PF → S} (h : RdOK a b w0 Inv sz p act) (he : ∀ s f, act s f = act' s f) : RdOK a b w0 Inv sz p act' := by
  rw [show act' = act from funext fun s => funext fun f => (he s f).symm]
  exact h
theorem lift_mem {S X : Type} {L : Lens S X} {ps : Parts X} {Q : (Int × (S → PF → S)) → Prop} (h : ∀ p ∈ ps, Q (L.part p)) : ∀ q ∈ L.lift ps, Q q := fun q hq => by
  obtain ⟨p, hp, rfl⟩ := List.mem_map.1 hq
  exact h p hp
/-- How much definitions and operations grow. -/
theorem def_grow0 : ∀ q ∈ defPs, ∀ (d : DefD) (p : PF), (q.2 d p).steps.length ≤ d.steps.length + (1 + p.2.2.2.length) := by
  intro q hq d p
  simp only [defPs, List.mem_cons, List.not_mem_nil, or_false] at hq
  rcases hq with rfl | rfl <;> simp <;> omega
theorem def_grow {S : Type} {Inv : (Nat → Prop) → S → World → Prop} {sz : S → Nat} {L : Lens S DefD} {g o : Nat} (h : DefPl Inv sz L g o) : ∀ q ∈ L.lift defPs, ∀ s p, sz (q.2 s p) ≤ sz s + 1 + p.2.2.2.length :=
  lift_mem fun q hq s p => by
    have := h.grow s (q.2 (L.get s) p) _ (def_grow0 q hq (L.get s) p)
    simp only [Lens.part]
    omega
theorem lift_nodup {S X : Type} (L : Lens S X) {ps : Parts X} (h : (ps.map (·.1)).Nodup) : ((L.lift ps).map (·.1)).Nodup := by
  have e : (L.lift ps).map (·.1) = ps.map (·.1) := by simp [Lens.lift, Lens.part]
  rw [e]
  exact h
theorem defPs_own : (defPs.map (·.1)).Nodup := by decide
theorem op_grow0 : ∀ q ∈ opPs, ∀ (x : OpD) (p : PF), (q.2 x p).steps.length ≤ x.steps.length + (1 + p.2.2.2.length) := by
  intro q hq x p
  simp only [opPs, List.mem_cons, List.not_mem_nil, or_false] at hq
  rcases hq with rfl | rfl | rfl | rfl | rfl | rfl | rfl | rfl | rfl
  all_goals try (simp only; omega)
  have h := rdB_grow (sz := fun d : DefD => d.steps.length) defPs_own (fun q hq s p => by have := def_grow0 q hq s p; omega) p.2.2.2 x.defn
  simp only [OpD.putDef]
  have e : x.defn.steps.length = x.steps.length := rfl
  omega
theorem op_grow {S : Type} {Inv : (Nat → Prop) → S → World → Prop} {sz : S → Nat} {L : Lens S OpD} {g o : Nat} (h : OpPl Inv sz L g o) : ∀ q ∈ L.lift opPs, ∀ s p, sz (q.2 s p) ≤ sz s + 1 + p.2.2.2.length :=
  lift_mem fun q hq s p => by
    have := h.grow s (q.2 (L.get s) p) _ (op_grow0 q hq (L.get s) p)
    simp only [Lens.part]
    omega
/-- The fields of a step, a definition, an operation, part by part. -/
def stepFs (s : StepD) : List (List PF) := [ptext 1 (nums s.name), pnum 2 s.stub, pnum 3 s.retry, pnum 4 s.wait, pflag 5 s.undo, pflag 6 s.pivot]
theorem stepFs_flat (s : StepD) : (stepFs s).flatten = stepF s := rfl
def defFs (d : DefD) : List (List PF) := [ptext 1 (nums d.name), d.steps.map fun s => prow 2 (stepB s)]
theorem defFs_flat (d : DefD) : (defFs d).flatten = defF d := rfl
def opFs (o : OpD) : List (List PF) :=
  [pnum 1 o.kind, pnum 2 o.client, pnum 3 o.request, ptext 4 (prec (defFs o.defn).flatten), pnum 5 o.saga, pnum 6 o.step, pnum 7 o.try_, pflag 8 o.back, pflag 9 o.good]
theorem opFs_flat (o : OpD) : (opFs o).flatten = opF o := rfl

/-- What a list of parts is: n of them, in new memory, W of them. -/
def PartsIs (n : Nat) (W : Nat → Nat → World → List PartV → Prop) (w : World) (e : Ending) (w' : World) : Prop :=
  ∃ A ps, e = .returned (.slice A n n) ∧ ps.length = n ∧ PartsAt w.heap.size w'.heap.size w' (.slice A n n) ps ∧ Later w w' ∧ W w.heap.size w'.heap.size w' ps

theorem flatC_parts (ps : List PartV) : flatC (ps.map fun p => p.cells.toArray) = ps.flatMap PartV.cells := by
  induction ps with
  | nil => rfl
  | cons p r ih => simp only [flatC, List.map_cons, List.flatMap_cons] at *; rw [ih]
theorem parts_new (a n : Nat) (w : World) (ps : List PartV) (hn : ps.length = n) (ha : a ≤ w.heap.size) (hm : n ≤ 1000) :
    PartsAt a (w.alloc (.cells (flatC (ps.map fun p => p.cells.toArray)).toArray 110 (0, 0))).heap.size (w.alloc (.cells (flatC (ps.map fun p => p.cells.toArray)).toArray 110 (0, 0))) (.slice (some ⟨w.heap.size, 0, none⟩) n n) ps := by
  have hb : (w.alloc (.cells (flatC (ps.map fun p => p.cells.toArray)).toArray 110 (0, 0))).heap[w.heap.size]? = some (.cells (flatC (ps.map fun p => p.cells.toArray)).toArray 110 (0, 0)) := heap_alloc_new _ _
  rw [flatC_parts] at hb ⊢
  refine ⟨flat_len PartV.cells 3 ps fun y _ => y.len, fun u hu => ?_, some ⟨w.heap.size, 0, none⟩, n, by rw [hn], by omega, by unfold maxLen; omega, (fun h => by cases h), fun _ => ⟨w.heap.size, 0, rfl, ⟨ha, by rw [World.size_alloc]; omega⟩, by rw [World.size_alloc]; omega, fun j u hj => ?_⟩⟩
  · obtain ⟨p, _, hp⟩ := List.mem_flatMap.1 hu
    exact p.one u hp
  · rw [cell_of_row _ _ _ _ _ _ hb, Nat.zero_add]
    simpa using hj
theorem Tryz.infoPart : (Tryz.prog.info? 110).map (fun i => (i.zero, i.size, i.bytes)) = some (some (.agg #[.int .i64 0, .nilFunc, .nilFunc]), 3, 24) := by kernel_rfl
theorem one_i64 {n : Int} (h1 : 0 ≤ n) (h2 : n ≤ 1000) : I64 n := ⟨by omega, by omega⟩
end Go.Proofs.YtehiaeihkdfclaaGreatDoor
/- The parts of a step. -/
namespace Go.Proofs.YtehiaeihkdfclaaGreatDoor
open Go.RowKit

/-- What a step's parts do. -/
def StepW (g o a b : Nat) (w' : World) (ps : List PartV) : Prop :=
  (∀ (St : World → Prop) (s : StepD), s.wf → (∀ w, St w → w.rangeAt g o s.cells) → WrAll a b w' St ps (stepFs s)) ∧
  (∀ (S : Type) (Inv : (Nat → Prop) → S → World → Prop) (sz : S → Nat) (L : Lens S StepD), InvOK Inv → StepPl Inv L g o → RdAll a b w' Inv sz ps (L.lift stepPs))

set_option maxHeartbeats 8000000 in
set_option maxRecDepth 100000 in
theorem stepParts_any {w : World} {g o : Nat} (hg : g < w.heap.size) : Calls Tryz.prog 83 #[.pointer (some ⟨g, o, none⟩)] w (PartsIs 6 (StepW g o) w) := by
  obtain ⟨i0, hi, hz0, hz1, _⟩ := info_parts Tryz.infoPart
  have HG := hide hg
  have L0 : Hid (Later w w.drew) := Later.drew w
  clear hg
  go_enter Tryz.func83, Tryz.ntmps83
  go_wp2
  refine wp_region_L (by kernel_rfl) ?_
  refine wpAnyL_take (i := 0) (d := some 3) (v := ?vas0) rfl rfl (by kernel_rfl) (by kernel_rfl) (by kernel_rfl) (fun _ _ _ h => h) (by rfl) ?yas0 ?_
  case yas0 => (intro w' hw'; go_simp; try (with_reducible rfl))
  simp only [Act.put]; try simp only [List.setIfInBounds_toArray]; try simp only [List.set_cons_zero, List.set_cons_succ]
  refine wpAnyL_take (i := 1) (d := some 4) (v := ?vas1) rfl rfl (by kernel_rfl) (by kernel_rfl) (by kernel_rfl) (fun _ _ _ h => h) (by rfl) ?yas1 ?_
  case yas1 => (intro w' hw'; go_simp; try (with_reducible rfl))
  simp only [Act.put]; try simp only [List.setIfInBounds_toArray]; try simp only [List.set_cons_zero, List.set_cons_succ]
  refine wpAnyL_take (i := 2) (d := some 5) (v := ?vas2) rfl rfl (by kernel_rfl) (by kernel_rfl) (by kernel_rfl) (fun _ _ _ h => h) (by rfl) ?yas2 ?_
  case yas2 => (intro w' hw'; go_simp; try (with_reducible rfl))
  simp only [Act.put]; try simp only [List.setIfInBounds_toArray]; try simp only [List.set_cons_zero, List.set_cons_succ]
  refine wpAnyL_take (i := 4) (d := some 7) (v := ?vas4) rfl rfl (by kernel_rfl) (by kernel_rfl) (by kernel_rfl) (fun _ _ _ h => h) (by rfl) ?yas4 ?_
  case yas4 => (intro w' hw'; go_simp; try (with_reducible rfl))
  simp only [Act.put]; try simp only [List.setIfInBounds_toArray]; try simp only [List.set_cons_zero, List.set_cons_succ]
  refine wpAnyL_take (i := 5) (d := some 8) (v := ?vas5) rfl rfl (by kernel_rfl) (by kernel_rfl) (by kernel_rfl) (fun _ _ _ h => h) (by rfl) ?yas5 ?_
  case yas5 => (intro w' hw'; go_simp; try (with_reducible rfl))
  simp only [Act.put]; try simp only [List.setIfInBounds_toArray]; try simp only [List.set_cons_zero, List.set_cons_succ]
  refine wpAnyL_take (i := 6) (d := some 9) (v := ?vas6) rfl rfl (by kernel_rfl) (by kernel_rfl) (by kernel_rfl) (fun _ _ _ h => h) (by rfl) ?yas6 ?_
  case yas6 => (intro w' hw'; go_simp; try (with_reducible rfl))
  simp only [Act.put]; try simp only [List.setIfInBounds_toArray]; try simp only [List.set_cons_zero, List.set_cons_succ]
  refine wpAnyL_take (i := 8) (d := some 11) (v := ?vas8) rfl rfl (by kernel_rfl) (by kernel_rfl) (by kernel_rfl) (fun _ _ _ h => h) (by rfl) ?yas8 ?_
  case yas8 => (intro w' hw'; go_simp; try (with_reducible rfl))
  simp only [Act.put]; try simp only [List.setIfInBounds_toArray]; try simp only [List.set_cons_zero, List.set_cons_succ]
  refine wpAnyL_take (i := 9) (d := some 12) (v := ?vas9) rfl rfl (by kernel_rfl) (by kernel_rfl) (by kernel_rfl) (fun _ _ _ h => h) (by rfl) ?yas9 ?_
  case yas9 => (intro w' hw'; go_simp; try (with_reducible rfl))
  simp only [Act.put]; try simp only [List.setIfInBounds_toArray]; try simp only [List.set_cons_zero, List.set_cons_succ]
  refine wpAnyL_take (i := 10) (d := some 13) (v := ?vas10) rfl rfl (by kernel_rfl) (by kernel_rfl) (by kernel_rfl) (fun _ _ _ h => h) (by rfl) ?yas10 ?_
  case yas10 => (intro w' hw'; go_simp; try (with_reducible rfl))
  simp only [Act.put]; try simp only [List.setIfInBounds_toArray]; try simp only [List.set_cons_zero, List.set_cons_succ]
  refine wpAnyL_take (i := 12) (d := some 15) (v := ?vas12) rfl rfl (by kernel_rfl) (by kernel_rfl) (by kernel_rfl) (fun _ _ _ h => h) (by rfl) ?yas12 ?_
  case yas12 => (intro w' hw'; go_simp; try (with_reducible rfl))
  simp only [Act.put]; try simp only [List.setIfInBounds_toArray]; try simp only [List.set_cons_zero, List.set_cons_succ]
  refine wpAnyL_take (i := 13) (d := some 16) (v := ?vas13) rfl rfl (by kernel_rfl) (by kernel_rfl) (by kernel_rfl) (fun _ _ _ h => h) (by rfl) ?yas13 ?_
  case yas13 => (intro w' hw'; go_simp; try (with_reducible rfl))
  simp only [Act.put]; try simp only [List.setIfInBounds_toArray]; try simp only [List.set_cons_zero, List.set_cons_succ]
  refine wpAnyL_take (i := 14) (d := some 17) (v := ?vas14) rfl rfl (by kernel_rfl) (by kernel_rfl) (by kernel_rfl) (fun _ _ _ h => h) (by rfl) ?yas14 ?_
  case yas14 => (intro w' hw'; go_simp; try (with_reducible rfl))
  simp only [Act.put]; try simp only [List.setIfInBounds_toArray]; try simp only [List.set_cons_zero, List.set_cons_succ]
  refine wpAnyL_take (i := 16) (d := some 19) (v := ?vas16) rfl rfl (by kernel_rfl) (by kernel_rfl) (by kernel_rfl) (fun _ _ _ h => h) (by rfl) ?yas16 ?_
  case yas16 => (intro w' hw'; go_simp; try (with_reducible rfl))
  simp only [Act.put]; try simp only [List.setIfInBounds_toArray]; try simp only [List.set_cons_zero, List.set_cons_succ]
  refine wpAnyL_take (i := 17) (d := some 20) (v := ?vas17) rfl rfl (by kernel_rfl) (by kernel_rfl) (by kernel_rfl) (fun _ _ _ h => h) (by rfl) ?yas17 ?_
  case yas17 => (intro w' hw'; go_simp; try (with_reducible rfl))
  simp only [Act.put]; try simp only [List.setIfInBounds_toArray]; try simp only [List.set_cons_zero, List.set_cons_succ]
  refine wpAnyL_take (i := 18) (d := some 21) (v := ?vas18) rfl rfl (by kernel_rfl) (by kernel_rfl) (by kernel_rfl) (fun _ _ _ h => h) (by rfl) ?yas18 ?_
  case yas18 => (intro w' hw'; go_simp; try (with_reducible rfl))
  simp only [Act.put]; try simp only [List.setIfInBounds_toArray]; try simp only [List.set_cons_zero, List.set_cons_succ]
  refine wpAnyL_take (i := 20) (d := some 23) (v := ?vas20) rfl rfl (by kernel_rfl) (by kernel_rfl) (by kernel_rfl) (fun _ _ _ h => h) (by rfl) ?yas20 ?_
  case yas20 => (intro w' hw'; go_simp; try (with_reducible rfl))
  simp only [Act.put]; try simp only [List.setIfInBounds_toArray]; try simp only [List.set_cons_zero, List.set_cons_succ]
  refine wpAnyL_take (i := 21) (d := some 24) (v := ?vas21) rfl rfl (by kernel_rfl) (by kernel_rfl) (by kernel_rfl) (fun _ _ _ h => h) (by rfl) ?yas21 ?_
  case yas21 => (intro w' hw'; go_simp; try (with_reducible rfl))
  simp only [Act.put]; try simp only [List.setIfInBounds_toArray]; try simp only [List.set_cons_zero, List.set_cons_succ]
  refine wpAnyL_take (i := 22) (d := some 25) (v := ?vas22) rfl rfl (by kernel_rfl) (by kernel_rfl) (by kernel_rfl) (fun _ _ _ h => h) (by rfl) ?yas22 ?_
  case yas22 => (intro w' hw'; go_simp; try (with_reducible rfl))
  simp only [Act.put]; try simp only [List.setIfInBounds_toArray]; try simp only [List.set_cons_zero, List.set_cons_succ]
  refine wpAnyL_only (i := 3) rfl (by kernel_rfl) (by rfl) fun K hK => ?_
  go_simp
  refine (text_any (num := 1) (g := g) (o := o) (one_i64 (by omega) (by omega)) (by have h2 := HG.out; exact h2)).mono ?_
  rintro e w1 ⟨p1, rfl, hn, l1, hw1, hr1⟩
  refine hK.out _ _ l1 ?_
  have W1 := hide hw1
  have R1 := hide hr1
  have N1 := hide hn
  have K1 := hide l1
  have A1 := hide ((Later.drew w).trans l1)
  clear hn hw1 hr1 l1
  clear hK K
  try (simp only [Act.put]; try simp only [List.setIfInBounds_toArray]; try simp only [List.set_cons_zero, List.set_cons_succ])
  refine wpAnyL_only (i := 7) rfl (by kernel_rfl) (by rfl) fun K hK => ?_
  go_simp
  refine (num_any9 (num := 2) (g := g) (o := (o + 1)) (one_i64 (by omega) (by omega)) (by have h1 := Below.size A1.out; have h2 := HG.out; omega)).mono ?_
  rintro e w2 ⟨p2, rfl, hn, l2, hw2, hr2⟩
  refine hK.out _ _ l2 ?_
  have W2 := hide hw2
  have R2 := hide hr2
  have N2 := hide hn
  have K2 := hide l2
  have A2 := hide (A1.out.trans l2)
  clear hn hw2 hr2 l2
  clear hK K
  try (simp only [Act.put]; try simp only [List.setIfInBounds_toArray]; try simp only [List.set_cons_zero, List.set_cons_succ])
  refine wpAnyL_only (i := 11) rfl (by kernel_rfl) (by rfl) fun K hK => ?_
  go_simp
  refine (num_any9 (num := 3) (g := g) (o := (o + 2)) (one_i64 (by omega) (by omega)) (by have h1 := Below.size A2.out; have h2 := HG.out; omega)).mono ?_
  rintro e w3 ⟨p3, rfl, hn, l3, hw3, hr3⟩
  refine hK.out _ _ l3 ?_
  have W3 := hide hw3
  have R3 := hide hr3
  have N3 := hide hn
  have K3 := hide l3
  have A3 := hide (A2.out.trans l3)
  clear hn hw3 hr3 l3
  clear hK K
  try (simp only [Act.put]; try simp only [List.setIfInBounds_toArray]; try simp only [List.set_cons_zero, List.set_cons_succ])
  refine wpAnyL_only (i := 15) rfl (by kernel_rfl) (by rfl) fun K hK => ?_
  go_simp
  refine (num_any9 (num := 4) (g := g) (o := (o + 3)) (one_i64 (by omega) (by omega)) (by have h1 := Below.size A3.out; have h2 := HG.out; omega)).mono ?_
  rintro e w4 ⟨p4, rfl, hn, l4, hw4, hr4⟩
  refine hK.out _ _ l4 ?_
  have W4 := hide hw4
  have R4 := hide hr4
  have N4 := hide hn
  have K4 := hide l4
  have A4 := hide (A3.out.trans l4)
  clear hn hw4 hr4 l4
  clear hK K
  try (simp only [Act.put]; try simp only [List.setIfInBounds_toArray]; try simp only [List.set_cons_zero, List.set_cons_succ])
  refine wpAnyL_only (i := 19) rfl (by kernel_rfl) (by rfl) fun K hK => ?_
  go_simp
  refine (flag_any (num := 5) (g := g) (o := (o + 4)) (one_i64 (by omega) (by omega)) (by have h1 := Below.size A4.out; have h2 := HG.out; omega)).mono ?_
  rintro e w5 ⟨p5, rfl, hn, l5, hw5, hr5⟩
  refine hK.out _ _ l5 ?_
  have W5 := hide hw5
  have R5 := hide hr5
  have N5 := hide hn
  have K5 := hide l5
  have A5 := hide (A4.out.trans l5)
  clear hn hw5 hr5 l5
  clear hK K
  try (simp only [Act.put]; try simp only [List.setIfInBounds_toArray]; try simp only [List.set_cons_zero, List.set_cons_succ])
  refine wpAnyL_only (i := 23) rfl (by kernel_rfl) (by rfl) fun K hK => ?_
  go_simp
  refine (flag_any (num := 6) (g := g) (o := (o + 5)) (one_i64 (by omega) (by omega)) (by have h1 := Below.size A5.out; have h2 := HG.out; omega)).mono ?_
  rintro e w6 ⟨p6, rfl, hn, l6, hw6, hr6⟩
  refine hK.out _ _ l6 ?_
  have W6 := hide hw6
  have R6 := hide hr6
  have N6 := hide hn
  have K6 := hide l6
  have A6 := hide (A5.out.trans l6)
  clear hn hw6 hr6 l6
  clear hK K
  try (simp only [Act.put]; try simp only [List.setIfInBounds_toArray]; try simp only [List.set_cons_zero, List.set_cons_succ])
  refine wpAnyL_only (i := 24) rfl (by kernel_rfl) (by rfl) fun K hK => ?_
  refine wp_buildSlice_many 63 110 _ 6 (by rfl) i0 _ 3 Tryz.underlying63 hi hz0 hz1 (by omega) (by omega) (by omega) [p1.cells.toArray, p2.cells.toArray, p3.cells.toArray, p4.cells.toArray, p5.cells.toArray, p6.cells.toArray] (by rfl) (by rfl) (by intro v hv; simp only [List.mem_cons, List.not_mem_nil, or_false] at hv; rcases hv with rfl | rfl | rfl | rfl | rfl | rfl <;> rfl) ?_
  refine hK.out _ _ (show Later w6 (w6.alloc (.cells (flatC [p1.cells.toArray, p2.cells.toArray, p3.cells.toArray, p4.cells.toArray, p5.cells.toArray, p6.cells.toArray]).toArray 110 (0, 0))) from Later.alloc _ _) (?_ : wpAnyL _ _ _ _ _ _ (Act.put _ (some 27) _) _)
  clear hK K
  try (simp only [Act.put]; try simp only [List.setIfInBounds_toArray]; try simp only [List.set_cons_zero, List.set_cons_succ])
  refine wpAnyL_take (i := 25) (d := some 2) (v := ?vas25) rfl rfl (by kernel_rfl) (by kernel_rfl) (by kernel_rfl) (fun _ _ _ h => h) (by rfl) ?yas25 ?_
  case yas25 => (intro w' hw'; go_simp; try (with_reducible rfl))
  simp only [Act.put]; try simp only [List.setIfInBounds_toArray]; try simp only [List.set_cons_zero, List.set_cons_succ]
  refine wpAnyL_done (by kernel_rfl) ?_ _
  go_wp2
  go_ret
  have hz : (w6.alloc (.cells (flatC [p1.cells.toArray, p2.cells.toArray, p3.cells.toArray, p4.cells.toArray, p5.cells.toArray, p6.cells.toArray]).toArray 110 (0, 0))).heap.size = w6.heap.size + 1 := World.size_alloc _ _
  have T6 : Later w6 (w6.alloc (.cells (flatC [p1.cells.toArray, p2.cells.toArray, p3.cells.toArray, p4.cells.toArray, p5.cells.toArray, p6.cells.toArray]).toArray 110 (0, 0))) := Later.alloc _ _
  have T5 := K6.out.trans T6
  have T4 := K5.out.trans T5
  have T3 := K4.out.trans T4
  have T2 := K3.out.trans T3
  have T1 := K2.out.trans T2
  have z1 := Below.size T1
  have z2 := Below.size T2
  have z3 := Below.size T3
  have z4 := Below.size T4
  have z5 := Below.size T5
  have z6 := Below.size T6
  have zd : w.drew.heap.size = w.heap.size := rfl
  have y1 := Below.size A1.out
  have y2 := Below.size A2.out
  have y3 := Below.size A3.out
  have y4 := Below.size A4.out
  have y5 := Below.size A5.out
  have y6 := Below.size A6.out
  refine ⟨_, [p1, p2, p3, p4, p5, p6], rfl, rfl, parts_new _ 6 _ _ rfl (Below.size A6.out) (by omega), (A6.out).trans T6, ?_, ?_⟩
  · intro St s hwf hc
    exact (All2.cons (WrOK.part (W1.out St s.name (fun w hw => (range_step (hc w hw)).1)) (by omega) (by omega) (Nat.le_refl _) T1) (All2.cons (WrOK.part (W2.out St s.stub hwf.2.1 (fun w hw => (range_step (hc w hw)).2.1)) (by omega) (by omega) (Nat.le_refl _) T2) (All2.cons (WrOK.part (W3.out St s.retry hwf.2.2.1 (fun w hw => (range_step (hc w hw)).2.2.1)) (by omega) (by omega) (Nat.le_refl _) T3) (All2.cons (WrOK.part (W4.out St s.wait hwf.2.2.2 (fun w hw => (range_step (hc w hw)).2.2.2.1)) (by omega) (by omega) (Nat.le_refl _) T4) (All2.cons (WrOK.part (W5.out St s.undo (fun w hw => (range_step (hc w hw)).2.2.2.2.1)) (by omega) (by omega) (Nat.le_refl _) T5) (All2.cons (WrOK.part (W6.out St s.pivot (fun w hw => (range_step (hc w hw)).2.2.2.2.2)) (by omega) (by omega) (Nat.le_refl _) T6) All2.nil))))))
  · intro S Inv sz L hI hpl
    exact (All2.cons ⟨N1.out, RdOK.part (R1.out S Inv sz _ hI hpl.name) (by omega) (by omega) (Nat.le_refl _) T1⟩ (All2.cons ⟨N2.out, RdOK.part (R2.out S Inv sz _ hI hpl.stub) (by omega) (by omega) (Nat.le_refl _) T2⟩ (All2.cons ⟨N3.out, RdOK.part (R3.out S Inv sz _ hI hpl.retry) (by omega) (by omega) (Nat.le_refl _) T3⟩ (All2.cons ⟨N4.out, RdOK.part (R4.out S Inv sz _ hI hpl.wait) (by omega) (by omega) (Nat.le_refl _) T4⟩ (All2.cons ⟨N5.out, RdOK.part (R5.out S Inv sz _ hI hpl.undo) (by omega) (by omega) (Nat.le_refl _) T5⟩ (All2.cons ⟨N6.out, RdOK.part (R6.out S Inv sz _ hI hpl.pivot) (by omega) (by omega) (Nat.le_refl _) T6⟩ All2.nil))))))
end Go.Proofs.YtehiaeihkdfclaaGreatDoor
/- A literal slice of one struct, and append of such a slice to a row, at an operation of a region that draws its order. -/
namespace Go.Proofs.YtehiaeihkdfclaaGreatDoor
open Go.RowKit

section
variable {P : Program} {w : World} {op : Oper} {a : Act} {K : Act → World → Prop} {Q : Exit → Act → World → Prop}
theorem wp_buildSlice_one (t e : TypeId) (x : Operand) (ho : op.op = .buildSlice t 1 #[(0, x)]) (i : TypeInfo) (z : Value) (k : Nat) (ht : P.underlying t = some (.slice e)) (hi : P.info? e = some i) (hz : i.zero = some z) (hs : i.size = k) (hk : 0 < k) (hk2 : k ≤ 16777216)
    (cells : Array Value) (hx : a.eval x = .agg cells) (hc : cells.size = k)
    (h : K (a.put op.dst (.slice (some ⟨w.heap.size, 0, none⟩) 1 1)) (w.alloc (.cells cells e (0, 0)))) : op.wp P a w K Q := by
  have hr := run_buildSlice_one (P := P) (w := w) t e i z k ht hi hz hs hk hk2 cells hc
  unfold Oper.wp
  simp [execOp, ho, hx, hr, Result.andThen]
  exact h
/-- A literal slice of one struct is a slice of it, in a new block. -/
theorem flat_one (w : World) (e k : Nat) (cells : Array Value) (hc : cells.size = k) (h1 : ∀ u ∈ cells.toList, u.oneCell' = true) (F : Nat → Prop) (hF : F w.heap.size) :
    FlatAt F (w.alloc (.cells cells e (0, 0))) k (.slice (some ⟨w.heap.size, 0, none⟩) 1 1) 1 cells.toList := by
  have hb : (w.alloc (.cells cells e (0, 0))).heap[w.heap.size]? = some (.cells cells e (0, 0)) := heap_alloc_new _ _
  refine ⟨by simp [hc], h1, some ⟨w.heap.size, 0, none⟩, 1, rfl, Nat.le_refl _, by unfold maxLen; omega, (fun h => by cases h), fun _ => ⟨w.heap.size, 0, rfl, hF, lt_of_block hb, fun j u hj => ?_⟩⟩
  rw [cell_of_row _ _ _ _ _ _ hb, Nat.zero_add]
  simpa using hj
theorem wp_append_flat (s x : Operand) (t : TypeId)
    (ho : op.op = .call { callee := .builtin .append, args := #[s, x], argTypes := #[t, t] })
    (base : Nat) (e : TypeId) (i : TypeInfo) (z : Value) (k bytes : Nat) (ht : P.underlying t = some (.slice e)) (hi : P.info? e = some i) (hz : i.zero = some z)
    (hsize : i.size = k) (hby : i.bytes = bytes) (hzs : z.cells.size = k) (hk : 0 < k)
    (v : Value) (n : Nat) (xs : List Value) (hs : a.eval s = v) (hown : w.ownsRow base e k v n xs)
    (g c m : Nat) (ys : List Value) (hx : a.eval x = .slice (some ⟨g, 0, none⟩) m c) (F : Nat → Prop) (hl : FlatAt F w k (.slice (some ⟨g, 0, none⟩) m c) m ys) (hm : 0 < m) (hroom : n + m ≤ maxLen) (hbytes : (n + m) * bytes ≤ 140737488355328) (hbase : base ≤ w.heap.size)
    (h : ∀ v' w', w'.ownsRow base e k v' (n + m) (xs ++ ys) → w.grownBy w' v.ownBlock → (v'.ownBlock = v.ownBlock ∨ v'.ownBlock = some w.heap.size) → K (a.put op.dst v') w') : op.wp P a w K Q := by
  obtain ⟨hlen, h1, A', c', hv, h3, h4, h5, h6⟩ := hl
  obtain ⟨rfl, rfl⟩ : some ⟨g, 0, none⟩ = A' ∧ c = c' := by injection hv with e1 _ e3; exact ⟨e1, e3⟩
  obtain ⟨v', w', hr, h2, h3, _, h5⟩ := run_append_own_at (P := P) w base t op.type e i z k bytes ht hi hz hsize hby hzs hk v n xs hown ⟨g, 0, none⟩ m c ys hlen
      (fun j u hu => by
        obtain ⟨b, off, h, _, _, hr⟩ := h6 hm
        injection h with h
        injection h with e1 e2
        subst e1 e2
        rw [Addr.add_lit]
        exact hr j u hu) h1 hroom hbytes hbase
  unfold Oper.wp execOp
  simp only [ho, resolve, invoke, builtin, Sem.run_bind, Sem.run_pure, Result.andThen_ok, List.map_toArray, List.map_cons, List.map_nil, hs, hx, hr]
  exact h v' w' h2 h3 h5
end
end Go.Proofs.YtehiaeihkdfclaaGreatDoor
/- The parts of lists of steps: how they are written. -/
namespace Go.Proofs.YtehiaeihkdfclaaGreatDoor
open Go.RowKit

theorem pre_below (B : Nat) : Pre (fun a c => Below B a c) := ⟨fun _ => Below.refl _ _, fun h k => Below.trans h k⟩
theorem StepD.sm.wf {k : Nat} {s : StepD} (h : s.sm k) (hk : k ≤ 5000) : s.wf := ⟨Nat.le_trans h.1 (by omega), h.2⟩
theorem range_block {w : World} {g : Nat} {cs : List Value} {t : TypeId} (h : w.heap[g]? = some (.cells cs.toArray t (0, 0))) : w.rangeAt g 0 cs := fun j u hj => by
  rw [cell_of_row w g (0 + j) _ t (0, 0) h, Nat.zero_add]
  simpa using hj

set_option maxHeartbeats 8000000 in
set_option maxRecDepth 100000 in
theorem recsSw_any {w : World} {bl bq bf g o m c k : Nat} {A : Option Addr} {num : Int} {F : Nat → Prop} {l : List StepD} (h1 : w.heap[bl]? = some (.cells #[.pointer (some ⟨g, o, none⟩)] 134 (0, 0))) (h2 : w.heap[bq]? = some (.cells #[.int .i64 num] 3 (0, 0)))
    (h3 : w.heap[bf]? = some (.cells #[.func (.func 83) #[] #[]] 135 (0, 0))) (hc : w.cell? ⟨g, o, none⟩ = some (.slice A m c)) (hl : StepsAt F w (.slice A m c) l) (hm : m = l.length) (hsm : ∀ s ∈ l, s.sm k) (hk : k ≤ 5000) (hml : m ≤ 100000) (hn : I64 num) :
    Calls Tryz.prog 117 #[.pointer (some ⟨bl, 0, none⟩), .pointer (some ⟨bq, 0, none⟩), .pointer (some ⟨bf, 0, none⟩)] w (FieldsIs (l.map fun s => prow num (stepB s)) w) := by
  obtain ⟨i0, hi, hz0, hz1, hz2⟩ := info_parts Tryz.infoFd9
  have hx1 := cell_of_row w bl 0 _ _ _ h1
  simp only [List.getElem?_toArray, List.getElem?_cons_zero] at hx1
  have HB2 : Hid (∀ w', Below w.heap.size w w' → w'.cell? ⟨bq, 0, none⟩ = some (.int .i64 num)) := fun w' h => cell_of_row w' bq 0 _ _ _ ((h.block bq (lt_of_block h2)).trans h2)
  have HB3 : Hid (∀ w', Below w.heap.size w w' → w'.cell? ⟨bf, 0, none⟩ = some (.func (.func 83) #[] #[])) := fun w' h => cell_of_row w' bf 0 _ _ _ ((h.block bf (lt_of_block h3)).trans h3)
  have HLL := hide hl
  have HM := hide hm
  have HSM := hide hsm
  have HKK := hide hk
  have HN := hide hn
  clear h1 h2 h3 hl hm hsm hk hn
  go_enter Tryz.func117, Tryz.ntmps117
  go_wp2
  clear hc hx1
  go_loopw [4, 11] (fun lv i wr => ∃ (q : Nat) (fds : List Fd), q ≤ m ∧ i = .int .i64 (q : Int) ∧ wr.ownsRow w.heap.size 140 4 lv q (fcells fds) ∧ (∀ f ∈ fds, FdAt wr f) ∧ fds.map Fd.pf = (l.take q).map (fun s => prow num (stepB s)) ∧ Later w wr) (fun _ i _ => m - (intOf i).toNat)
  case atStart => exact ⟨0, [], by omega, rfl, by simpa [fcells] using World.ownsRow_nil _ _ _ _, by simp, by simp, Later.refl _⟩
  case round =>
    obtain ⟨q, fds, hq, rfl, hown, hoks, hpf, hlat⟩ := hrel
    have HO := hide hown
    have HK := hide hoks
    have HF := hide hpf
    have HL := hide hlat
    clear hown hoks hpf hlat
    by_cases hlt : q < m
    · obtain ⟨s, b, off, c', hsk, hv, _, _, hbw, hr⟩ := StepsAt.at_ (HLL.out.kept (Kept.of_below HL.out F)) (i := q) (by rw [← HM.out]; exact hlt)
      obtain ⟨rfl, rfl⟩ : A = some ⟨b, off, none⟩ ∧ c = c' := by injection hv with e1 _ e3; exact ⟨e1, e3⟩
      obtain ⟨r0, r1, r2, r3, r4, r5⟩ := range_step hr
      have HSK := hide hsk
      skip
      have HW8 : Hid (Later wr (wr.alloc (.cells #[.string s.name, .int .i64 s.stub, .int .i64 s.retry, .int .i64 s.wait, .bool s.undo, .bool s.pivot] 68 (0, 0)))) := Later.alloc _ _
      have HX8 : Hid ((wr.alloc (.cells #[.string s.name, .int .i64 s.stub, .int .i64 s.retry, .int .i64 s.wait, .bool s.undo, .bool s.pivot] 68 (0, 0))).heap[wr.heap.size]? = some (.cells #[.string s.name, .int .i64 s.stub, .int .i64 s.retry, .int .i64 s.wait, .bool s.undo, .bool s.pivot] 68 (0, 0))) := heap_alloc_new _ _
      have HZ8 : Hid (wr.heap.size < (wr.alloc (.cells #[.string s.name, .int .i64 s.stub, .int .i64 s.retry, .int .i64 s.wait, .bool s.undo, .bool s.pivot] 68 (0, 0))).heap.size) := by show _ < _; rw [World.size_alloc]; omega
      clear hsk hv hr
      go_wp2
      generalize wr.alloc (.cells #[.string s.name, .int .i64 s.stub, .int .i64 s.retry, .int .i64 s.wait, .bool s.undo, .bool s.pivot] 68 (0, 0)) = W8 at HW8 HX8 HZ8 ⊢
      have HT0 := hide (show Below w.heap.size w W8.drew from (HL.out.trans HW8.out).trans (Later.drew W8))
      refine wp_region_R (R := fun a c => Below w.heap.size a c) (by kernel_rfl) ?_
      refine wpAnyR_take (pre_below w.heap.size) (i := 0) (d := some 15) (v := ?vaw0) rfl rfl (by kernel_rfl) (by kernel_rfl) (by kernel_rfl) (fun _ _ _ h => h) (by rfl) ?yaw0 ?_
      case yaw0 => (intro w' hw'; go_simp; try (with_reducible rfl))
      simp only [Act.put]; try simp only [List.setIfInBounds_toArray]; try simp only [List.set_cons_zero, List.set_cons_succ]
      refine wpAnyR_take (pre_below w.heap.size) (i := 1) (d := some 16) (v := .int .i64 num) rfl rfl (by kernel_rfl) (by kernel_rfl) (by kernel_rfl) (fun _ _ _ h => h) (by rfl) ?yaw1 ?_
      case yaw1 => (intro w' hw'; have hx2 := HB2.out w' (HT0.out.trans hw'); go_simp; try (with_reducible rfl))
      simp only [Act.put]; try simp only [List.setIfInBounds_toArray]; try simp only [List.set_cons_zero, List.set_cons_succ]
      refine wpAnyR_take (pre_below w.heap.size) (i := 2) (d := some 17) (v := .func (.func 83) #[] #[]) rfl rfl (by kernel_rfl) (by kernel_rfl) (by kernel_rfl) (fun _ _ _ h => h) (by rfl) ?yaw2 ?_
      case yaw2 => (intro w' hw'; have hx3 := HB3.out w' (HT0.out.trans hw'); go_simp; try (with_reducible rfl))
      simp only [Act.put]; try simp only [List.setIfInBounds_toArray]; try simp only [List.set_cons_zero, List.set_cons_succ]
      refine wpAnyR_only (i := 3) rfl (by kernel_rfl) (by rfl) fun K hK => ?_
      go_simp
      refine (stepParts_any (w := W8.drew) (g := wr.heap.size) (o := 0) HZ8.out).mono ?_
      rintro e w1 ⟨A1, ps, rfl, hlen, hpa, l1, hsub⟩
      have K1 := hide l1
      have HT1 := hide (HT0.out.trans (show Below w.heap.size W8.drew w1 from Below.mono l1 HT0.out.size))
      have C := hide (nwrite_any (St := (fun wx => wr.heap.size < wx.heap.size ∧ wx.heap[wr.heap.size]? = some (.cells #[.string s.name, .int .i64 s.stub, .int .i64 s.retry, .int .i64 s.wait, .bool s.undo, .bool s.pivot] 68 (0, 0)))) hpa hlen.symm (Stay.refl (Nat.le_refl _)) ⟨by have h0 : W8.drew.heap.size = W8.heap.size := rfl; have := Below.size l1; have := HZ8.out; omega, (Below.block l1 _ HZ8.out).trans HX8.out⟩ (fun wa wb h hl => ⟨by have := Below.size hl; omega, (Below.block hl _ h.1).trans h.2⟩) (hsub.1 (fun wx => wr.heap.size < wx.heap.size ∧ wx.heap[wr.heap.size]? = some (.cells #[.string s.name, .int .i64 s.stub, .int .i64 s.retry, .int .i64 s.wait, .bool s.undo, .bool s.pivot] 68 (0, 0))) s ((HSM.out s (List.mem_of_getElem? HSK.out)).wf HKK.out) (fun wx h => range_block h.2)) (by have h1 := stepF_room s; have h2 := (HSM.out s (List.mem_of_getElem? HSK.out)).1; have h3 := HKK.out; rw [stepFs_flat]; omega))
      refine hK.out _ _ (show Below w.heap.size W8.drew w1 from Below.mono l1 HT0.out.size) ?_
      clear hlen hpa l1 hsub
      clear hK K
      try (simp only [Act.put]; try simp only [List.setIfInBounds_toArray]; try simp only [List.set_cons_zero, List.set_cons_succ])
      refine wpAnyR_only (i := 4) rfl (by kernel_rfl) (by rfl) fun K hK => ?_
      go_simp
      refine C.out.mono ?_
      rintro e w2 ⟨A2, n2, c2, rfl, ho2, hh2, hnc2, hb2⟩
      have K2 := hide (show Later w1 w2 from hb2)
      have HT2 := hide (HT1.out.trans (show Below w.heap.size w1 w2 from Below.mono hb2 HT1.out.size))
      have HO2 := hide ho2
      have HS2 := hide hh2.2.1
      have HN2 := hide hh2.1
      refine hK.out _ _ (show Below w.heap.size w1 w2 from Below.mono hb2 HT1.out.size) ?_
      clear ho2 hh2 hb2 C
      clear hK K
      try (simp only [Act.put]; try simp only [List.setIfInBounds_toArray]; try simp only [List.set_cons_zero, List.set_cons_succ])
      refine wpAnyR_take (pre_below w.heap.size) (i := 5) (d := some 20) (v := ?vaw5) rfl rfl (by kernel_rfl) (by kernel_rfl) (by kernel_rfl) (fun _ _ _ h => h) (by rfl) ?yaw5 ?_
      case yaw5 => (intro w' hw'; go_simp; try (with_reducible rfl))
      simp only [Act.put]; try simp only [List.setIfInBounds_toArray]; try simp only [List.set_cons_zero, List.set_cons_succ]
      refine wpAnyR_only (i := 6) rfl (by kernel_rfl) (by rfl) fun K hK => ?_
      go_simp
      have HT3 : Hid (Below w.heap.size w (w2.alloc (.cells #[.int .i64 num, .bool true, .int .u64 0, .slice A2 n2 c2] 140 (0, 0)))) := HT2.out.alloc HT2.out.size _
      have O3 := hide (own_below_any HO.out (((HW8.out.trans (Later.drew W8)).trans (K1.out.trans K2.out)).trans (Later.alloc w2 (.cells #[.int .i64 num, .bool true, .int .u64 0, .slice A2 n2 c2] 140 (0, 0)))))
      have F3 := hide (flat_one w2 140 4 #[.int .i64 num, .bool true, .int .u64 0, .slice A2 n2 c2] rfl (by intro u hu; simp at hu; rcases hu with rfl | rfl | rfl | rfl <;> rfl) (fun _ => True) trivial)
      refine hK.out _ _ (show Below w.heap.size w2 (w2.alloc (.cells #[.int .i64 num, .bool true, .int .u64 0, .slice A2 n2 c2] 140 (0, 0))) from (Below.refl _ _).alloc HT2.out.size _) ?_
      clear hK K
      try (simp only [Act.put]; try simp only [List.setIfInBounds_toArray]; try simp only [List.set_cons_zero, List.set_cons_succ])
      refine wpAnyR_only (i := 7) rfl (by kernel_rfl) (by rfl) fun K hK => ?_
      refine wp_append_flat _ _ 106 (by rfl) w.heap.size 140 i0 _ 4 48 Tryz.underlying106 hi hz0 hz1 hz2 rfl (by omega) _ q (fcells fds) (by rfl) O3.out w2.heap.size 1 1 [.int .i64 num, .bool true, .int .u64 0, .slice A2 n2 c2] (by rfl) _ F3.out (by omega) (by unfold maxLen; omega) (by omega) HT3.out.size ?_
      intro v4 w4 o4 g4 _
      have O4 := hide o4
      have G4 := hide g4
      have hb4 : Below w.heap.size (w2.alloc (.cells #[.int .i64 num, .bool true, .int .u64 0, .slice A2 n2 c2] 140 (0, 0))) w4 := (Below.refl _ _).grown g4 HT3.out.size fun g hg => (O3.out.lt g hg).1
      have HT4 := hide (HT3.out.trans hb4)
      refine hK.out _ _ hb4 (?_ : wpAnyR _ _ _ _ _ _ _ (Act.put _ (some 22) _) _)
      clear o4 g4 hb4
      clear hK K
      try (simp only [Act.put]; try simp only [List.setIfInBounds_toArray]; try simp only [List.set_cons_zero, List.set_cons_succ])
      refine wpAnyR_take (pre_below w.heap.size) (i := 8) (d := some 4) (v := ?vaw8) rfl rfl (by kernel_rfl) (by kernel_rfl) (by kernel_rfl) (fun _ _ _ h => h) (by rfl) ?yaw8 ?_
      case yaw8 => (intro w' hw'; go_simp; try (with_reducible rfl))
      simp only [Act.put]; try simp only [List.setIfInBounds_toArray]; try simp only [List.set_cons_zero, List.set_cons_succ]
      refine wpAnyR_done (by kernel_rfl) ?_ _
      go_wp2
      go_roundw
      case rel =>
        have hpf9 : Fd.pf ⟨num, true, 0, A2, n2, c2, stepB s⟩ = prow num (stepB s) := rfl
        refine ⟨q + 1, fds ++ [⟨num, true, 0, A2, n2, c2, stepB s⟩], by omega, by go_num, ?_, ?_, ?_, ?_⟩
        · rw [fcells_snoc]
          exact O4.out
        · intro f hf
          rcases List.mem_append.1 hf with hf | hf
          · exact (((HK.out f hf).below (HW8.out.trans (Later.drew W8))).below ((K1.out.trans K2.out).trans (Later.alloc _ _))).kept O3.out G4.out (by decide)
          · obtain rfl : f = _ := by simpa using hf
            exact (((FdOwn.at_ (base := 0) (f := ⟨num, true, 0, A2, n2, c2, stepB s⟩) ⟨HN.out, by simp, HS2.out, own_base HO2.out (Nat.zero_le _)⟩)).below (Later.alloc _ _)).kept O3.out G4.out (by decide)
        · rw [List.map_append, HF.out, List.take_add_one, HSK.out]
          simp only [Option.toList_some, List.map_append, List.map_cons, List.map_nil, hpf9]
        · exact HT4.out
      case measure => simp [intOf]; omega
    · obtain rfl : q = m := by omega
      obtain ⟨A', c1, hv, h1, h2⟩ := FHolds.of_own (by rw [show q = fds.length from by have h3 := HF.out; have h4 := congrArg List.length h3; simp only [List.length_map, List.length_take] at h4; have := HM.out; omega] at HO; exact HO.out) fun f hf => (HK.out f hf).ok
      subst hv
      have H2 := hide h2
      have hall : fds.map Fd.pf = l.map (fun s => prow num (stepB s)) := by rw [HF.out, List.take_of_length_le (by have := HM.out; omega)]
      have HALL := hide hall
      clear h2 hall
      go_wp2
      go_ret
      exact ⟨A', _, c1, fds, rfl, H2.out, HK.out, HALL.out, h1, HL.out⟩
end Go.Proofs.YtehiaeihkdfclaaGreatDoor
/- Steps, definitions and operations in blocks of their own, to be read into. -/
namespace Go.Proofs.YtehiaeihkdfclaaGreatDoor
open Go.RowKit

theorem box_set {w : World} {g t : Nat} {cs cs' : Array Value} (h : w.heap[g]? = some (.cells cs t (0, 0))) (i : Nat) (v : Value) (hcs : cs.setIfInBounds i v = cs') : (w.setCell ⟨g, i, none⟩ v).heap[g]? = some (.cells cs' t (0, 0)) := by
  rw [← hcs]
  exact heap_setCell_same w g i cs t v h
theorem set_other {w : World} {g i q : Nat} {v : Value} (h : q ≠ g) : (w.setCell ⟨g, i, none⟩ v).heap[q]? = w.heap[q]? := heap_setCell_other _ _ _ _ h
theorem box_at {w : World} {g t : Nat} {cs : Array Value} (h : w.heap[g]? = some (.cells cs t (0, 0))) (i : Nat) (u : Value) (hu : cs[i]? = some u) : w.cell? ⟨g, i, none⟩ = some u := (cell_of_row w g i cs t (0, 0) h).trans hu

/-- A step in the block g. -/
def InvStep (g : Nat) (P : Nat → Prop) (s : StepD) (w : World) : Prop := P g ∧ w.heap[g]? = some (.cells s.cells.toArray 68 (0, 0)) ∧ s.sm 1000000
theorem invstep_ok (g : Nat) : InvOK (InvStep g) :=
  ⟨fun _ _ _ _ h ⟨h1, h2, h3⟩ => ⟨h g (lt_of_block h2) h1, h2, h3⟩, fun _ _ _ _ hk ⟨h1, h2, h3⟩ => ⟨h1, (hk.2 g (lt_of_block h2) h1).trans h2, h3⟩⟩
theorem i64_zero : I64 0 := ⟨by decide, by decide⟩
theorem StepD.sm_zero (k : Nat) : StepD.zero.sm k := ⟨Nat.zero_le _, i64_zero, i64_zero, i64_zero⟩
theorem invstep_zero {g : Nat} {P : Nat → Prop} {w : World} (hp : P g) (h : w.heap[g]? = some (.cells #[.string ⟨#[]⟩, .int .i64 0, .int .i64 0, .int .i64 0, .bool false, .bool false] 68 (0, 0))) : InvStep g P .zero w := ⟨hp, h, StepD.sm_zero _⟩
theorem invstep_pl (g : Nat) : StepPl (InvStep g) (Lens.id StepD) g 0 where
  name := fun _ _ _ ⟨h1, h2, h3⟩ => ⟨h1, lt_of_block h2, ⟨_, box_at h2 0 _ rfl⟩, box_free h2 _, fun _ hx => ⟨h1, box_set h2 _ _ rfl, hx, h3.2⟩⟩
  stub := fun _ _ _ ⟨h1, h2, h3⟩ => ⟨h1, lt_of_block h2, ⟨_, box_at h2 1 _ rfl⟩, box_free h2 _, fun _ hx => ⟨h1, box_set h2 _ _ rfl, h3.1, hx, h3.2.2⟩⟩
  retry := fun _ _ _ ⟨h1, h2, h3⟩ => ⟨h1, lt_of_block h2, ⟨_, box_at h2 2 _ rfl⟩, box_free h2 _, fun _ hx => ⟨h1, box_set h2 _ _ rfl, h3.1, h3.2.1, hx, h3.2.2.2⟩⟩
  wait := fun _ _ _ ⟨h1, h2, h3⟩ => ⟨h1, lt_of_block h2, ⟨_, box_at h2 3 _ rfl⟩, box_free h2 _, fun _ hx => ⟨h1, box_set h2 _ _ rfl, h3.1, h3.2.1, h3.2.2.1, hx⟩⟩
  undo := fun _ _ _ ⟨h1, h2, h3⟩ => ⟨h1, lt_of_block h2, ⟨_, box_at h2 4 _ rfl⟩, box_free h2 _, fun _ => ⟨h1, box_set h2 _ _ rfl, h3⟩⟩
  pivot := fun _ _ _ ⟨h1, h2, h3⟩ => ⟨h1, lt_of_block h2, ⟨_, box_at h2 5 _ rfl⟩, box_free h2 _, fun _ => ⟨h1, box_set h2 _ _ rfl, h3⟩⟩

/-- A definition in the block g. -/
def InvDef (g : Nat) (P : Nat → Prop) (d : DefD) (w : World) : Prop := P g ∧ d.name.size ≤ 1000000 ∧ ∃ sv, w.heap[g]? = some (.cells #[.string d.name, sv] 24 (0, 0)) ∧ OwnSteps P w sv d.steps
theorem invdef_ok (g : Nat) : InvOK (InvDef g) :=
  ⟨fun _ _ _ _ h ⟨h1, h2, sv, h3, h4⟩ => ⟨h g (lt_of_block h3) h1, h2, sv, h3, h4.mono h⟩, fun _ _ _ _ hk ⟨h1, h2, sv, h3, h4⟩ => ⟨h1, h2, sv, (hk.2 g (lt_of_block h3) h1).trans h3, h4.keep hk⟩⟩
theorem invdef_zero {g : Nat} {P : Nat → Prop} {w : World} (hp : P g) (h : w.heap[g]? = some (.cells #[.string ⟨#[]⟩, .slice none 0 0] 24 (0, 0))) : InvDef g P .zero w := ⟨hp, Nat.zero_le _, _, h, OwnSteps.nil_ _ _⟩
def defSz (d : DefD) : Nat := d.steps.length
theorem invdef_pl (g : Nat) : DefPl (InvDef g) defSz (Lens.id DefD) g 0 where
  name := fun _ _ _ ⟨h1, h2, sv, h3, h4⟩ => ⟨h1, lt_of_block h3, ⟨_, box_at h3 0 _ rfl⟩, box_free h3 _, fun _ hx => ⟨h1, hx, sv, box_set h3 _ _ rfl, h4.blk fun q e => set_other (fun he => own_not h4.1 h3 (by decide) (he ▸ e))⟩⟩
  steps := fun _ d _ ⟨h1, h2, sv, h3, h4⟩ hP2 => ⟨h1, lt_of_block h3, sv, _, _, box_at h3 1 _ rfl, box_free h3 _, h4.1, Nat.le_refl _, fun q e => ⟨h4.2.1 q e, fun he => own_not h4.1 h3 (by decide) (he ▸ e)⟩,
    fun w2 w3 v' y cells hl hg ho ha he => by
      have hg3 : w3.heap[g]? = some (.cells #[.string d.name, sv] 24 (0, 0)) :=
        (hg.block g (Nat.lt_of_lt_of_le (lt_of_block h3) (Below.size hl)) (fun e => own_not h4.1 h3 (by decide) e.symm)).trans ((Below.block hl g (lt_of_block h3)).trans h3)
      exact ⟨h1, h2, v', box_set hg3 _ _ rfl, (h4.push hP2 hl ho ha he).blk fun q e => set_other (fun hq => own_not ho hg3 (by decide) (hq ▸ e))⟩⟩
  grow := fun _ _ _ h => h

/-- An operation in the block g. -/
def opNum (o : OpD) : Prop := I64 o.kind ∧ I64 o.client ∧ I64 o.request ∧ o.name.size ≤ 1000000 ∧ I64 o.saga ∧ I64 o.step ∧ I64 o.try_
def InvOp (g : Nat) (P : Nat → Prop) (o : OpD) (w : World) : Prop := P g ∧ opNum o ∧ ∃ sv, w.heap[g]? = some (.cells (o.cells sv).toArray 26 (0, 0)) ∧ OwnSteps P w sv o.steps
theorem invop_ok (g : Nat) : InvOK (InvOp g) :=
  ⟨fun _ _ _ _ h ⟨h1, h2, sv, h3, h4⟩ => ⟨h g (lt_of_block h3) h1, h2, sv, h3, h4.mono h⟩, fun _ _ _ _ hk ⟨h1, h2, sv, h3, h4⟩ => ⟨h1, h2, sv, (hk.2 g (lt_of_block h3) h1).trans h3, h4.keep hk⟩⟩
theorem invop_zero {g : Nat} {P : Nat → Prop} {w : World} (hp : P g) (h : w.heap[g]? = some (.cells #[.int .i64 0, .int .i64 0, .int .i64 0, .string ⟨#[]⟩, .slice none 0 0, .int .i64 0, .int .i64 0, .int .i64 0, .bool false, .bool false] 26 (0, 0))) : InvOp g P .zero w :=
  ⟨hp, ⟨i64_zero, i64_zero, i64_zero, Nat.zero_le _, i64_zero, i64_zero, i64_zero⟩, _, h, OwnSteps.nil_ _ _⟩
def opSz (o : OpD) : Nat := o.steps.length
theorem invop_set {g : Nat} {P : Nat → Prop} {o o' : OpD} {w : World} (h : InvOp g P o w) (i : Nat) (v : Value) (hc : ∀ sv, (o.cells sv).toArray.setIfInBounds i v = (o'.cells sv).toArray) (hs : o'.steps = o.steps) (hn : opNum o') : InvOp g P o' (w.setCell ⟨g, i, none⟩ v) := by
  obtain ⟨h1, h2, sv, h3, h4⟩ := h
  refine ⟨h1, hn, sv, box_set h3 _ _ (hc sv), ?_⟩
  rw [hs]
  exact h4.blk fun q e => set_other (fun he => own_not h4.1 h3 (by decide) (he ▸ e))
theorem invop_pl (g : Nat) : OpPl (InvOp g) opSz (Lens.id OpD) g 0 where
  kind := fun _ _ _ h => let ⟨h1, h2, sv, h3, h4⟩ := h; ⟨h1, lt_of_block h3, ⟨_, box_at h3 0 _ rfl⟩, box_free h3 _, fun _ hx => invop_set h _ _ (fun _ => rfl) rfl ⟨hx, h2.2⟩⟩
  client := fun _ _ _ h => let ⟨h1, h2, sv, h3, h4⟩ := h; ⟨h1, lt_of_block h3, ⟨_, box_at h3 1 _ rfl⟩, box_free h3 _, fun _ hx => invop_set h _ _ (fun _ => rfl) rfl ⟨h2.1, hx, h2.2.2⟩⟩
  request := fun _ _ _ h => let ⟨h1, h2, sv, h3, h4⟩ := h; ⟨h1, lt_of_block h3, ⟨_, box_at h3 2 _ rfl⟩, box_free h3 _, fun _ hx => invop_set h _ _ (fun _ => rfl) rfl ⟨h2.1, h2.2.1, hx, h2.2.2.2⟩⟩
  defn :=
    { name := fun _ _ _ h => let ⟨h1, h2, sv, h3, h4⟩ := h; ⟨h1, lt_of_block h3, ⟨_, box_at h3 3 _ rfl⟩, box_free h3 _, fun _ hx => invop_set h _ _ (fun _ => rfl) rfl ⟨h2.1, h2.2.1, h2.2.2.1, hx, h2.2.2.2.2⟩⟩
      steps := fun _ o _ ⟨h1, h2, sv, h3, h4⟩ hP2 => ⟨h1, lt_of_block h3, sv, _, _, box_at h3 4 _ rfl, box_free h3 _, h4.1, Nat.le_refl _, fun q e => ⟨h4.2.1 q e, fun he => own_not h4.1 h3 (by decide) (he ▸ e)⟩,
        fun w2 w3 v' y cells hl hg ho ha he => by
          have hg3 : w3.heap[g]? = some (.cells (o.cells sv).toArray 26 (0, 0)) :=
            (hg.block g (Nat.lt_of_lt_of_le (lt_of_block h3) (Below.size hl)) (fun e => own_not h4.1 h3 (by decide) e.symm)).trans ((Below.block hl g (lt_of_block h3)).trans h3)
          exact ⟨h1, h2, v', box_set hg3 _ _ rfl, (h4.push hP2 hl ho ha he).blk fun q e => set_other (fun hq => own_not ho hg3 (by decide) (hq ▸ e))⟩⟩
      grow := fun _ _ _ h => h }
  saga := fun _ _ _ h => let ⟨h1, h2, sv, h3, h4⟩ := h; ⟨h1, lt_of_block h3, ⟨_, box_at h3 5 _ rfl⟩, box_free h3 _, fun _ hx => invop_set h _ _ (fun _ => rfl) rfl ⟨h2.1, h2.2.1, h2.2.2.1, h2.2.2.2.1, hx, h2.2.2.2.2.2⟩⟩
  step := fun _ _ _ h => let ⟨h1, h2, sv, h3, h4⟩ := h; ⟨h1, lt_of_block h3, ⟨_, box_at h3 6 _ rfl⟩, box_free h3 _, fun _ hx => invop_set h _ _ (fun _ => rfl) rfl ⟨h2.1, h2.2.1, h2.2.2.1, h2.2.2.2.1, h2.2.2.2.2.1, hx, h2.2.2.2.2.2.2⟩⟩
  try_ := fun _ _ _ h => let ⟨h1, h2, sv, h3, h4⟩ := h; ⟨h1, lt_of_block h3, ⟨_, box_at h3 7 _ rfl⟩, box_free h3 _, fun _ hx => invop_set h _ _ (fun _ => rfl) rfl ⟨h2.1, h2.2.1, h2.2.2.1, h2.2.2.2.1, h2.2.2.2.2.1, h2.2.2.2.2.2.1, hx⟩⟩
  back := fun _ _ _ h => let ⟨h1, h2, sv, h3, h4⟩ := h; ⟨h1, lt_of_block h3, ⟨_, box_at h3 8 _ rfl⟩, box_free h3 _, fun _ => invop_set h _ _ (fun _ => rfl) rfl h2⟩
  good := fun _ _ _ h => let ⟨h1, h2, sv, h3, h4⟩ := h; ⟨h1, lt_of_block h3, ⟨_, box_at h3 9 _ rfl⟩, box_free h3 _, fun _ => invop_set h _ _ (fun _ => rfl) rfl h2⟩
  grow := fun _ _ _ h => h

theorem stepPs_own : (stepPs.map (·.1)).Nodup := by decide
theorem opPs_own : (opPs.map (·.1)).Nodup := by decide
end Go.Proofs.YtehiaeihkdfclaaGreatDoor
/- Which messages may be, but for their length. -/
namespace Go.Proofs.YtehiaeihkdfclaaGreatDoor
open Go.RowKit

set_option maxHeartbeats 8000000 in
set_option maxRecDepth 100000 in
theorem goodmsg_any (F : Nat → Prop) (m : MsgD) (sA oA iA : Option Addr) (ns sc no oc ni ic : Nat) (ps : List (OpD × Value)) (w : World) (hs : ns = m.op.steps.length) (ho : no = m.ops.length) (hi : ni = m.incs.length) (h1 : StepsAt F w (.slice sA ns sc) m.op.steps) (hps : ps.map (·.1) = m.ops) (h2 : OpsIn F w (.slice oA no oc) ps) (h3 : IncsAt F w (.slice iA ni ic) m.incs) :
    Calls Tryz.prog 29 #[.agg #[.int .i64 m.kind, .int .i64 m.src, .int .i64 m.dst, .int .i64 m.view, .int .i64 m.last, .int .i64 m.num, .int .i64 m.commit, .int .i64 m.nonce, .int .i64 m.request, .bool m.lead, .bool m.good, .bool m.fenced, .int .i64 m.op.kind, .int .i64 m.op.client, .int .i64 m.op.request, .string m.op.name, .slice sA ns sc, .int .i64 m.op.saga, .int .i64 m.op.step, .int .i64 m.op.try_, .bool m.op.back, .bool m.op.good, .int .i64 m.rerr, .int .i64 m.rsaga, .int .i64 m.rstate, .int .i64 m.rstep, .int .i64 m.cview, .int .i64 m.cstub, .int .i64 m.csaga, .int .i64 m.cstep, .int .i64 m.ctry, .bool m.cback, .slice oA no oc, .slice iA ni ic]] w fun e w' => e = .returned (.bool (msgG0 m)) ∧ Later w w' := by
  have hl : Later w (w.alloc (.cells #[.int .i64 m.kind, .int .i64 m.src, .int .i64 m.dst, .int .i64 m.view, .int .i64 m.last, .int .i64 m.num, .int .i64 m.commit, .int .i64 m.nonce, .int .i64 m.request, .bool m.lead, .bool m.good, .bool m.fenced, .int .i64 m.op.kind, .int .i64 m.op.client, .int .i64 m.op.request, .string m.op.name, .slice sA ns sc, .int .i64 m.op.saga, .int .i64 m.op.step, .int .i64 m.op.try_, .bool m.op.back, .bool m.op.good, .int .i64 m.rerr, .int .i64 m.rsaga, .int .i64 m.rstate, .int .i64 m.rstep, .int .i64 m.cview, .int .i64 m.cstub, .int .i64 m.csaga, .int .i64 m.cstep, .int .i64 m.ctry, .bool m.cback, .slice oA no oc, .slice iA ni ic] 35 (0, 0))) := Later.alloc _ _
  have hx : (w.alloc (.cells #[.int .i64 m.kind, .int .i64 m.src, .int .i64 m.dst, .int .i64 m.view, .int .i64 m.last, .int .i64 m.num, .int .i64 m.commit, .int .i64 m.nonce, .int .i64 m.request, .bool m.lead, .bool m.good, .bool m.fenced, .int .i64 m.op.kind, .int .i64 m.op.client, .int .i64 m.op.request, .string m.op.name, .slice sA ns sc, .int .i64 m.op.saga, .int .i64 m.op.step, .int .i64 m.op.try_, .bool m.op.back, .bool m.op.good, .int .i64 m.rerr, .int .i64 m.rsaga, .int .i64 m.rstate, .int .i64 m.rstep, .int .i64 m.cview, .int .i64 m.cstub, .int .i64 m.csaga, .int .i64 m.cstep, .int .i64 m.ctry, .bool m.cback, .slice oA no oc, .slice iA ni ic] 35 (0, 0))).heap[w.heap.size]? = some (.cells #[.int .i64 m.kind, .int .i64 m.src, .int .i64 m.dst, .int .i64 m.view, .int .i64 m.last, .int .i64 m.num, .int .i64 m.commit, .int .i64 m.nonce, .int .i64 m.request, .bool m.lead, .bool m.good, .bool m.fenced, .int .i64 m.op.kind, .int .i64 m.op.client, .int .i64 m.op.request, .string m.op.name, .slice sA ns sc, .int .i64 m.op.saga, .int .i64 m.op.step, .int .i64 m.op.try_, .bool m.op.back, .bool m.op.good, .int .i64 m.rerr, .int .i64 m.rsaga, .int .i64 m.rstate, .int .i64 m.rstep, .int .i64 m.cview, .int .i64 m.cstub, .int .i64 m.csaga, .int .i64 m.cstep, .int .i64 m.ctry, .bool m.cback, .slice oA no oc, .slice iA ni ic] 35 (0, 0)) := heap_alloc_new _ _
  have HX : Hid (∀ w', Later (w.alloc (.cells #[.int .i64 m.kind, .int .i64 m.src, .int .i64 m.dst, .int .i64 m.view, .int .i64 m.last, .int .i64 m.num, .int .i64 m.commit, .int .i64 m.nonce, .int .i64 m.request, .bool m.lead, .bool m.good, .bool m.fenced, .int .i64 m.op.kind, .int .i64 m.op.client, .int .i64 m.op.request, .string m.op.name, .slice sA ns sc, .int .i64 m.op.saga, .int .i64 m.op.step, .int .i64 m.op.try_, .bool m.op.back, .bool m.op.good, .int .i64 m.rerr, .int .i64 m.rsaga, .int .i64 m.rstate, .int .i64 m.rstep, .int .i64 m.cview, .int .i64 m.cstub, .int .i64 m.csaga, .int .i64 m.cstep, .int .i64 m.ctry, .bool m.cback, .slice oA no oc, .slice iA ni ic] 35 (0, 0))) w' → w'.heap[w.heap.size]? = some (.cells #[.int .i64 m.kind, .int .i64 m.src, .int .i64 m.dst, .int .i64 m.view, .int .i64 m.last, .int .i64 m.num, .int .i64 m.commit, .int .i64 m.nonce, .int .i64 m.request, .bool m.lead, .bool m.good, .bool m.fenced, .int .i64 m.op.kind, .int .i64 m.op.client, .int .i64 m.op.request, .string m.op.name, .slice sA ns sc, .int .i64 m.op.saga, .int .i64 m.op.step, .int .i64 m.op.try_, .bool m.op.back, .bool m.op.good, .int .i64 m.rerr, .int .i64 m.rsaga, .int .i64 m.rstate, .int .i64 m.rstep, .int .i64 m.cview, .int .i64 m.cstub, .int .i64 m.csaga, .int .i64 m.cstep, .int .i64 m.ctry, .bool m.cback, .slice oA no oc, .slice iA ni ic] 35 (0, 0))) := fun w' h => (Below.block h _ (lt_of_block hx)).trans hx
  have HL := hide hl
  have CS : Hid (∀ w', Later w w' → Calls Tryz.prog 11 #[.agg #[.int .i64 m.op.kind, .int .i64 m.op.client, .int .i64 m.op.request, .string m.op.name, .slice sA ns sc, .int .i64 m.op.saga, .int .i64 m.op.step, .int .i64 m.op.try_, .bool m.op.back, .bool m.op.good]] w' fun e w'' => e = .returned (.bool (opG m.op)) ∧ Later w' w'') := fun w' h => goodop_any F m.op sA ns sc w' hs (h1.kept (Kept.of_below h F))
  have CO : Hid (∀ w', Later w w' → Calls Tryz.prog 61 #[.slice oA no oc, .func (.func 11) #[] #[]] w' fun e w'' => e = .returned (.bool (m.ops.all opG)) ∧ Later w' w'') := fun w' h => allO_any (h2.kept (Kept.of_below h F)) hps ho
  have CI : Hid (∀ w', Later w w' → Calls Tryz.prog 35 #[.slice iA ni ic] w' fun e w'' => e = .returned (.bool (m.incs.all mayB)) ∧ Later w' w'') := fun w' h => small_any (h3.kept (Kept.of_below h F)) hi
  obtain ⟨ta, hta⟩ : ∃ t, (mayB m.src && mayB m.dst && mayB m.view && mayB m.last && mayB m.num && mayB m.commit && mayB m.nonce && mayB m.request) = t := ⟨_, rfl⟩
  obtain ⟨tb, htb⟩ : ∃ t, replyG m = t := ⟨_, rfl⟩
  obtain ⟨tc, htc⟩ : ∃ t, cmdG m = t := ⟨_, rfl⟩
  obtain ⟨td, htd⟩ : ∃ t, opG m.op = t := ⟨_, rfl⟩
  obtain ⟨te, hte⟩ : ∃ t, m.ops.all opG = t := ⟨_, rfl⟩
  obtain ⟨tf, htf⟩ : ∃ t, m.incs.all mayB = t := ⟨_, rfl⟩
  have CA := hide (small_any (incs_new [m.src, m.dst, m.view, m.last, m.num, m.commit, m.nonce, m.request] (w.alloc (.cells #[.int .i64 m.kind, .int .i64 m.src, .int .i64 m.dst, .int .i64 m.view, .int .i64 m.last, .int .i64 m.num, .int .i64 m.commit, .int .i64 m.nonce, .int .i64 m.request, .bool m.lead, .bool m.good, .bool m.fenced, .int .i64 m.op.kind, .int .i64 m.op.client, .int .i64 m.op.request, .string m.op.name, .slice sA ns sc, .int .i64 m.op.saga, .int .i64 m.op.step, .int .i64 m.op.try_, .bool m.op.back, .bool m.op.good, .int .i64 m.rerr, .int .i64 m.rsaga, .int .i64 m.rstate, .int .i64 m.rstep, .int .i64 m.cview, .int .i64 m.cstub, .int .i64 m.csaga, .int .i64 m.cstep, .int .i64 m.ctry, .bool m.cback, .slice oA no oc, .slice iA ni ic] 35 (0, 0))) (by simp)) rfl)
  have ea : ([m.src, m.dst, m.view, m.last, m.num, m.commit, m.nonce, m.request].all mayB) = ta := by rw [← hta]; simp [Bool.and_assoc]
  rw [ea] at CA
  simp only [World.size_alloc] at CA
  have CB : Hid (∀ w', Calls Tryz.prog 59 #[.agg #[.int .i64 m.rerr, .int .i64 m.rsaga, .int .i64 m.rstate, .int .i64 m.rstep]] w' fun e w'' => e = .returned (.bool tb) ∧ Later w' w'') := fun w' => by rw [← htb]; exact goodreply_any m w'
  have CC : Hid (∀ w', Calls Tryz.prog 60 #[.agg #[.int .i64 m.cview, .int .i64 m.cstub, .int .i64 m.csaga, .int .i64 m.cstep, .int .i64 m.ctry, .bool m.cback]] w' fun e w'' => e = .returned (.bool tc) ∧ Later w' w'') := fun w' => by rw [← htc]; exact goodcmd_any m w'
  rw [htd] at CS
  rw [hte] at CO
  rw [htf] at CI
  have HTA := hide hta
  have HTB := hide htb
  have HTC := hide htc
  have HTD := hide htd
  have HTE := hide hte
  have HTF := hide htf
  have HI := hide hi
  clear hl hx hs ho hi h1 h2 h3 hps hta htb htc htd hte htf ea
  by_cases k0 : 1 ≤ m.kind
  · by_cases k1 : m.kind ≤ 14
    · have K0 := hide k0
      have K1 := hide k1
      go_enter Tryz.func29, Tryz.ntmps29
      go_wp2_with (fail)
      refine (CA.out).mono ?_
      rintro e w1 ⟨rfl, hl1⟩
      have M1 := hide ((Later.alloc (w.alloc (.cells #[.int .i64 m.kind, .int .i64 m.src, .int .i64 m.dst, .int .i64 m.view, .int .i64 m.last, .int .i64 m.num, .int .i64 m.commit, .int .i64 m.nonce, .int .i64 m.request, .bool m.lead, .bool m.good, .bool m.fenced, .int .i64 m.op.kind, .int .i64 m.op.client, .int .i64 m.op.request, .string m.op.name, .slice sA ns sc, .int .i64 m.op.saga, .int .i64 m.op.step, .int .i64 m.op.try_, .bool m.op.back, .bool m.op.good, .int .i64 m.rerr, .int .i64 m.rsaga, .int .i64 m.rstate, .int .i64 m.rstep, .int .i64 m.cview, .int .i64 m.cstub, .int .i64 m.csaga, .int .i64 m.cstep, .int .i64 m.ctry, .bool m.cback, .slice oA no oc, .slice iA ni ic] 35 (0, 0))) _).trans hl1)
      have c22 := box_at (HX.out w1 M1.out) 22 _ rfl
      have c23 := box_at (HX.out w1 M1.out) 23 _ rfl
      have c24 := box_at (HX.out w1 M1.out) 24 _ rfl
      have c25 := box_at (HX.out w1 M1.out) 25 _ rfl
      clear hl1 CA
      cases ta with
      | false =>
        clear c22 c23 c24 c25
        go_wp2
        go_ret
        exact ⟨ret_bool (by unfold msgG0; rw [HTA.out]; simp), HL.out.trans M1.out⟩
      | true =>
        go_wp2_with (fail)
        refine (CB.out _).mono ?_
        rintro e w2 ⟨rfl, hl2⟩
        have M2 := hide (M1.out.trans hl2)
        have c26 := box_at (HX.out w2 M2.out) 26 _ rfl
        have c27 := box_at (HX.out w2 M2.out) 27 _ rfl
        have c28 := box_at (HX.out w2 M2.out) 28 _ rfl
        have c29 := box_at (HX.out w2 M2.out) 29 _ rfl
        have c30 := box_at (HX.out w2 M2.out) 30 _ rfl
        have c31 := box_at (HX.out w2 M2.out) 31 _ rfl
        clear hl2 c22 c23 c24 c25
        cases tb with
        | false =>
          clear c26 c27 c28 c29 c30 c31
          go_wp2
          go_ret
          exact ⟨ret_bool (by unfold msgG0; rw [HTB.out]; simp), HL.out.trans M2.out⟩
        | true =>
          go_wp2_with (fail)
          refine (CC.out _).mono ?_
          rintro e w3 ⟨rfl, hl3⟩
          have M3 := hide (M2.out.trans hl3)
          have c12 := box_at (HX.out w3 M3.out) 12 _ rfl
          have c13 := box_at (HX.out w3 M3.out) 13 _ rfl
          have c14 := box_at (HX.out w3 M3.out) 14 _ rfl
          have c15 := box_at (HX.out w3 M3.out) 15 _ rfl
          have c16 := box_at (HX.out w3 M3.out) 16 _ rfl
          have c17 := box_at (HX.out w3 M3.out) 17 _ rfl
          have c18 := box_at (HX.out w3 M3.out) 18 _ rfl
          have c19 := box_at (HX.out w3 M3.out) 19 _ rfl
          have c20 := box_at (HX.out w3 M3.out) 20 _ rfl
          have c21 := box_at (HX.out w3 M3.out) 21 _ rfl
          clear hl3 c26 c27 c28 c29 c30 c31
          cases tc with
          | false =>
            clear c12 c13 c14 c15 c16 c17 c18 c19 c20 c21
            go_wp2
            go_ret
            exact ⟨ret_bool (by unfold msgG0; rw [HTC.out]; simp), HL.out.trans M3.out⟩
          | true =>
            go_wp2_with (fail)
            refine (CS.out _ (HL.out.trans M3.out)).mono ?_
            rintro e w4 ⟨rfl, hl4⟩
            have M4 := hide (M3.out.trans hl4)
            have c32 := box_at (HX.out w4 M4.out) 32 _ rfl
            clear hl4 c12 c13 c14 c15 c16 c17 c18 c19 c20 c21
            cases td with
            | false =>
              clear c32
              go_wp2
              go_ret
              exact ⟨ret_bool (by unfold msgG0; rw [HTD.out]; simp), HL.out.trans M4.out⟩
            | true =>
              go_wp2_with (fail)
              refine (CO.out _ (HL.out.trans M4.out)).mono ?_
              rintro e w5 ⟨rfl, hl5⟩
              have M5 := hide (M4.out.trans hl5)
              have c33 := box_at (HX.out w5 M5.out) 33 _ rfl
              clear hl5 c32
              cases te with
              | false =>
                clear c33
                go_wp2
                go_ret
                exact ⟨ret_bool (by unfold msgG0; rw [HTE.out]; simp), HL.out.trans M5.out⟩
              | true =>
                by_cases k5 : ni ≤ 5
                · have K5 : Hid (m.incs.length ≤ 5) := by show _ ≤ _; rw [← HI.out]; exact k5
                  go_wp2_with (fail)
                  refine (CI.out _ (HL.out.trans M5.out)).mono ?_
                  rintro e w6 ⟨rfl, hl6⟩
                  have M6 := hide (M5.out.trans hl6)
                  clear hl6 c33
                  go_wp2
                  go_ret
                  exact ⟨ret_bool (by unfold msgG0; rw [HTA.out, HTB.out, HTC.out, HTD.out, HTE.out, HTF.out]; simp [K0.out, K1.out, K5.out]), HL.out.trans M6.out⟩
                · have K5 : Hid (¬ m.incs.length ≤ 5) := by show ¬ _; rw [← HI.out]; exact k5
                  go_wp2
                  go_ret
                  exact ⟨ret_bool (by unfold msgG0; rw [decide_eq_false K5.out]; simp), HL.out.trans M5.out⟩
    · have K1 := hide k1
      go_enter Tryz.func29, Tryz.ntmps29
      go_wp2
      go_ret
      exact ⟨ret_bool (by unfold msgG0; rw [decide_eq_false (Int.not_le.2 K1.out)]; simp), HL.out⟩
  · have K0 := hide k0
    go_enter Tryz.func29, Tryz.ntmps29
    go_wp2
    go_ret
    exact ⟨ret_bool (by unfold msgG0; rw [decide_eq_false (Int.not_le.2 K0.out)]; simp), HL.out⟩
end Go.Proofs.YtehiaeihkdfclaaGreatDoor
