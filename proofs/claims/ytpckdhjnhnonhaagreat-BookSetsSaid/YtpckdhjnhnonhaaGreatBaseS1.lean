/- Texts merged: LexM, Math, Mem, Flat, Msgs, DefM, PlanM, SagM, MapHeld, BkM, Keep, Order, Shelf, Rune, Sets, Either, Grown, Box, Lit, Lit2, LitN, Parts, Parts2, PartI, Name, EqS, OrderT, SameDef, Equal, ChkA, CutRow, StepB, PlanA, PlanB, PlanD, SagA. -/
import Derived.Laws.Strings2
import Derived.WalkKit
import Derived.WalkSpells
import Derived.Deep.AppendLies
import Derived.Maps.AppendAt
import Derived.Deep.Draws
import Derived.Deep.MidRow
import Derived.Maps.OwnSet
import Derived.Shelf.SlIterI.Nil
import Derived.OrdersHeld
import Derived.Deep.RegionHeld3
import Derived.Shelf.Strings.Runes
import Derived.Shelf.Small.Utf8
import Derived.Ground.NamesProg
import Derived.Test.YtpckdhjnhnonhaaGreatProg
import Derived.Laws.Runes
import Derived.Lib.OthersKept
import Derived.WalkMore
import Derived.RegionTactic
import Derived.BigRegion
import Derived.Laws.EntriesVeiled
import Derived.LoopTactic
import Derived.OneCell
import Derived.OwnWalk
import Derived.Laws.StructEq
import Derived.Deep.QuietTactic
import Derived.BigQuiet
import Derived.Laws.Slices
import Derived.RangeFuncNested
import Derived.RangeFuncBound
import Derived.RangeFuncCalls
import Derived.RangeFuncLeaves
import Derived.Shelf.Abstract
import Derived.Shelf.RegionOpen
import Derived.OwnWalkIn
import Derived.TacticsInMore
import Derived.LoopNIn
import Derived.LoopIn
import Derived.Lib.MinMax
/- The words of a text, as data: kinds of bytes, tokens, texts of tokens, names. -/
namespace Go.Proofs.YtpckdhjnhnonhaaGreat
theorem sA_ {α : Type} {l : List α} {i : Nat} {a : α} : l.toArray.setIfInBounds i a = (l.set i a).toArray := by simp
theorem sZ_ {α : Type} {x a : α} {l : List α} : (x :: l).set 0 a = a :: l := rfl
theorem sS_ {α : Type} {x a : α} {l : List α} {i : Nat} : (x :: l).set (i + 1) a = x :: l.set i a := rfl

def smallB (b : Nat) : Bool := decide (97 ≤ b) && decide (b ≤ 122)
def digitB (b : Nat) : Bool := decide (48 ≤ b) && decide (b ≤ 57)
def partB (b : Nat) : Bool := smallB b || (digitB b || (b == 45 || b == 95))
def signB (b : Nat) : Bool := b == 123 || (b == 125 || b == 59)
def blankB (b : Nat) : Bool := b == 32 || (b == 9 || b == 10)
def kindB (b : Nat) : Nat := if smallB b then 1 else if digitB b then 2 else if signB b then 3 else if blankB b then 4 else if b == 35 then 5 else 0
def goB (k b : Nat) : Bool := if k = 1 then partB b else if k = 2 then digitB b else if k = 5 then b != 10 else false

structure Tok where
  k : Nat
  s : List UInt8
  n : Nat
  at_ : Nat
def valF (l : List UInt8) : Nat := l.foldl (fun n c => min 1000000 (10 * n + (c.toNat - 48))) 0

def more (k : Nat) (r : List UInt8) : List UInt8 := r.takeWhile (fun c => goB k c.toNat)
def rest (k : Nat) (r : List UInt8) : List UInt8 := r.dropWhile (fun c => goB k c.toNat)
theorem more_rest (k : Nat) (r : List UInt8) : more k r ++ rest k r = r := List.takeWhile_append_dropWhile ..
theorem rest_len (k : Nat) (r : List UInt8) : (more k r).length + (rest k r).length = r.length := by
  have := congrArg List.length (more_rest k r)
  simpa using this
def tokOf (k : Nat) (b : UInt8) (r : List UInt8) (a : Nat) : Tok := ⟨k, b :: more k r, if k = 2 then valF (b :: more k r) else 0, a⟩
def ahead (l : List Tok) (p : List Tok × Option Nat) : List Tok × Option Nat := match p.2 with
  | some e => ([], some e)
  | none => (l ++ p.1, none)

def toks (l : List UInt8) (a : Nat) : List Tok × Option Nat := match l with
  | [] => ([], none)
  | b :: r => if kindB b.toNat = 0 then ([], some a) else
    ahead (if kindB b.toNat ≤ 3 then [tokOf (kindB b.toNat) b r a] else []) (toks (rest (kindB b.toNat) r) (a + 1 + (more (kindB b.toNat) r).length))
termination_by l.length
decreasing_by
  have := rest_len (kindB b.toNat) r
  simp
  omega

theorem toks_nil (a : Nat) : toks [] a = ([], none) := by rw [toks]
theorem toks_bad {b : UInt8} (r : List UInt8) (a : Nat) (h : kindB b.toNat = 0) : toks (b :: r) a = ([], some a) := by rw [toks, if_pos h]
theorem toks_cons {b : UInt8} (r : List UInt8) (a : Nat) (h : kindB b.toNat ≠ 0) : toks (b :: r) a =
    ahead (if kindB b.toNat ≤ 3 then [tokOf (kindB b.toNat) b r a] else []) (toks (rest (kindB b.toNat) r) (a + 1 + (more (kindB b.toNat) r).length)) := by rw [toks, if_neg h]

theorem ahead_nil (p : List Tok × Option Nat) (h : p.2 ≠ none → p.1 = []) : ahead [] p = p := by
  obtain ⟨l, e⟩ := p
  cases e with
  | none => rfl
  | some x =>
    have : l = [] := h (by simp)
    rw [this]
    rfl
theorem ahead_err (l : List Tok) (p : List Tok × Option Nat) : (ahead l p).2 = p.2 := by
  obtain ⟨x, e⟩ := p
  cases e <;> rfl

theorem toks_none (l : List UInt8) (a : Nat) : (toks l a).2 ≠ none → (toks l a).1 = [] := by
  cases l with
  | nil => rw [toks_nil]; simp
  | cons b r =>
    by_cases h : kindB b.toNat = 0
    · rw [toks_bad r a h]; simp
    · rw [toks_cons r a h]
      intro h2
      rw [ahead_err] at h2
      unfold ahead
      cases hp : (toks (rest (kindB b.toNat) r) (a + 1 + (more (kindB b.toNat) r).length)).2 with
      | none => exact absurd hp h2
      | some _ => rfl

def Tok.wf (t : Tok) : Prop := ∃ b m, t.s = b :: m ∧ kindB b.toNat = t.k ∧ 1 ≤ t.k ∧ t.k ≤ 3 ∧ (∀ c ∈ m, goB t.k c.toNat = true) ∧ t.n = if t.k = 2 then valF t.s else 0

def Alike (a b : List Tok) : Prop := a.map (fun t => (t.k, t.s, t.n)) = b.map (fun t => (t.k, t.s, t.n))

theorem more_stop (k : Nat) (m r : List UInt8) (hm : ∀ c ∈ m, goB k c.toNat = true) (hr : ∀ c t, r = c :: t → goB k c.toNat = false) : more k (m ++ r) = m ∧ rest k (m ++ r) = r := by
  induction m with
  | nil =>
    cases r with
    | nil => exact ⟨rfl, rfl⟩
    | cons c t =>
      have := hr c t rfl
      simp [more, rest, this]
  | cons x m ih =>
    have hx := hm x (by simp)
    have ⟨i1, i2⟩ := ih (fun c hc => hm c (by simp [hc]))
    unfold more at i1
    unfold rest at i2
    unfold more rest
    simp [hx, i1, i2]

theorem tok_step {t : Tok} (h : t.wf) (r : List UInt8) (a : Nat) (hr : ∀ c u, r = c :: u → goB t.k c.toNat = false) : toks (t.s ++ r) a = ahead [{ t with at_ := a }] (toks r (a + t.s.length)) := by
  obtain ⟨b, m, hs, hk, h1, h3, hm, hn⟩ := h
  obtain ⟨k, s, n, at_⟩ := t
  simp only at hs hk h1 h3 hm hn hr ⊢
  subst hs hn
  have ⟨e1, e2⟩ := more_stop k m r hm hr
  rw [List.cons_append, toks_cons (m ++ r) a (by omega), hk, if_pos h3, e1, e2]
  simp only [tokOf, e1, List.length_cons]
  rw [show a + 1 + m.length = a + (m.length + 1) from by omega]

theorem goB_blank (k : Nat) (h1 : 1 ≤ k) (h3 : k ≤ 3) : goB k 32 = false := by
  have : k = 1 ∨ k = 2 ∨ k = 3 := by omega
  rcases this with rfl | rfl | rfl <;> decide
theorem blank_step (c : UInt8) (hc : kindB c.toNat = 4) (r : List UInt8) (a : Nat) : toks (c :: r) a = toks r (a + 1) := by
  have e1 : more 4 r = [] ∧ rest 4 r = r := by
    cases r <;> simp [more, rest, goB]
  rw [toks_cons r a (by omega), hc, e1.1, e1.2, if_neg (by omega), List.length_nil, Nat.add_zero]
  exact ahead_nil _ (toks_none _ _)

def textF : List Tok → List UInt8
  | [] => []
  | t :: r => t.s ++ r.flatMap (fun x => 32 :: x.s)

theorem back_go : ∀ (r : List Tok) (a : Nat), (∀ t ∈ r, t.wf) → (toks (r.flatMap (fun x => 32 :: x.s)) a).2 = none ∧ Alike (toks (r.flatMap (fun x => 32 :: x.s)) a).1 r
  | [], a, _ => by simp [toks_nil, Alike]
  | t :: r, a, h => by
    have ht := h t (by simp)
    obtain ⟨b, m, hs, hk, h1, h3, _⟩ := id ht
    have ih := back_go r (a + 1 + t.s.length) (fun x hx => h x (by simp [hx]))
    rw [List.flatMap_cons, List.cons_append, blank_step 32 (by decide), tok_step ht _ _ (by
      intro c u e
      cases r with
      | nil => simp at e
      | cons y r =>
        simp at e
        rw [← e.1]
        exact goB_blank t.k h1 h3)]
    unfold ahead
    simp only [ih.1]
    exact ⟨trivial, by unfold Alike at *; simp [ih.2]⟩
theorem back (ts : List Tok) (h : ∀ t ∈ ts, t.wf) : (toks (textF ts) 0).2 = none ∧ Alike (toks (textF ts) 0).1 ts := by
  cases ts with
  | nil => simp [textF, toks_nil, Alike]
  | cons t r =>
    have ht := h t (by simp)
    obtain ⟨b, m, hs, hk, h1, h3, _⟩ := id ht
    have ih := back_go r (0 + t.s.length) (fun x hx => h x (by simp [hx]))
    unfold textF
    rw [tok_step ht _ _ (by
      intro c u e
      cases r with
      | nil => simp at e
      | cons y r =>
        simp at e
        rw [← e.1]
        exact goB_blank t.k h1 h3)]
    unfold ahead
    simp only [ih.1]
    exact ⟨trivial, by unfold Alike at *; simpa using ih.2⟩
def nameF (l : List UInt8) : Bool := match l with
  | [] => false
  | b :: r => decide (r.length < 16) && (smallB b.toNat && r.all (fun c => partB c.toNat))
def answer (l : List UInt8) : List Tok × Nat × Nat :=
  if 400 < l.length then ([], 0, 12) else match (toks l 0).2 with
    | some e => ([], e, 11)
    | none => ((toks l 0).1, 0, 0)

end Go.Proofs.YtpckdhjnhnonhaaGreat
/- Plain facts on numbers in groups of seven bits, on lists of naturals alone: the bytes of a number, and the number that bytes begin with. -/
namespace Go.Proofs.YtpckdhjnhnonhaaGreat

def encF : Nat → Nat → List Nat
  | 0, v => [v % 128]
  | f + 1, v => if v / 128 = 0 then [v % 128] else (v % 128 + 128) :: encF f (v / 128)

def enc (v : Nat) : List Nat := encF 9 v

def num : List Nat → Nat → Nat → Nat × Nat × Nat
  | [], _, _ => (0, 0, 3)
  | c :: r, i, a =>
    if (i = 9 ∧ 1 < c) ∨ (0 < i ∧ c = 0) then (0, 0, 4)
    else if c < 128 then (a + c % 128 * 2 ^ (7 * i), i + 1, 0)
    else num r (i + 1) (a + c % 128 * 2 ^ (7 * i))

end Go.Proofs.YtpckdhjnhnonhaaGreat
/- What is said of memory: a slice of bytes that holds a list of naturals, nil and empty ones among them; a row of bytes that the call itself made. -/
namespace Go.Proofs.YtpckdhjnhnonhaaGreat
open Go.RowKit

theorem hide {p : Prop} (h : p) : Hid p := h

theorem ret_int {k : IntKind} {a b : Int} (h : a = b) : Ending.returned (.int k a) = .returned (.int k b) := by rw [h]

theorem ret_bool {a b : Bool} (h : a = b) : Ending.returned (.bool a) = .returned (.bool b) := by rw [h]

def bv (x : Nat) : Value := .int .u8 (x : Int)
def bvs (l : List Nat) : List Value := l.map bv

theorem bvs_len (l : List Nat) : (bvs l).length = l.length := by simp [bvs]
theorem bvs_get {l : List Nat} {i : Nat} (h : i < l.length) : (bvs l)[i]? = some (.int .u8 (l.getD i 0 : Nat)) := by
  simp [bvs, bv, h]

def Holds (w : World) (B : Nat) (A : Option Addr) (n : Nat) (l : List Nat) : Prop :=
  l.length = n ∧ (∀ x ∈ l, x < 256) ∧ (0 < n → ∃ b off, A = some ⟨b, off, none⟩ ∧ b < B ∧ ∀ i, i < n → w.cell? ⟨b, off + i, none⟩ = some (.int .u8 ((l.getD i 0 : Nat) : Int)))

section
variable {w w' : World} {B B' : Nat} {A : Option Addr} {n : Nat} {l : List Nat}

theorem Holds.nil_ (w : World) (B : Nat) : Holds w B none 0 [] := ⟨rfl, by simp, fun h => by omega⟩

theorem Holds.keep (h : Holds w B A n l) (hk : ∀ p : Addr, p.block < B → w'.cell? p = w.cell? p) : Holds w' B A n l :=
  ⟨h.1, h.2.1, fun hn => by
    obtain ⟨b, off, e, hb, hc⟩ := h.2.2 hn
    exact ⟨b, off, e, hb, fun i hi => (hk ⟨b, off + i, none⟩ hb).trans (hc i hi)⟩⟩
theorem Holds.below (h : Holds w B A n l) (hb : Below B w w') : Holds w' B A n l := h.keep fun _ hp => hb.cell hp
theorem Holds.more (h : Holds w B A n l) (hB : B ≤ B') : Holds w B' A n l :=
  ⟨h.1, h.2.1, fun hn => by
    obtain ⟨b, off, e, hb, hc⟩ := h.2.2 hn
    exact ⟨b, off, e, by omega, hc⟩⟩
theorem Holds.drew (h : Holds w B A n l) : Holds w.drew B A n l := h
theorem Holds.drewN (h : Holds w B A n l) (k : Nat) : Holds (w.drewN k) B A n l := h

theorem Holds.take (h : Holds w B A n l) {k : Nat} (hk : k ≤ n) : Holds w B A k (l.take k) :=
  ⟨by simp [h.1]; omega, fun x hx => h.2.1 x (List.mem_of_mem_take hx), fun hk0 => by
    obtain ⟨b, off, e, hb, hc⟩ := h.2.2 (by omega)
    refine ⟨b, off, e, hb, fun i hi => ?_⟩
    rw [hc i (by omega)]
    simp [hi]⟩

theorem Holds.drop (h : Holds w B A n l) {k cap : Nat} (hk : k ≤ n) (hc : n ≤ cap) (A' : Option Addr) (hA' : ¬ cap = k → A' = A.map (·.add k)) : Holds w B A' (n - k) (l.drop k) :=
  ⟨by simp [h.1], fun x hx => h.2.1 x (List.mem_of_mem_drop hx), fun hk0 => by
    obtain ⟨b, off, rfl, hb, hcell⟩ := h.2.2 (by omega)
    refine ⟨b, off + k, ?_, hb, fun i hi => ?_⟩
    · rw [hA' (by omega)]
      simp [Addr.add]
    · rw [show off + k + i = off + (k + i) from by omega, hcell (k + i) (by omega)]
      simp⟩

theorem Holds.of_own {base e : Nat} {v : Value} (h : w.ownsRow base e 1 v n (bvs l)) (hs : ∀ x ∈ l, x < 256) : ∃ A c, v = .slice A n c ∧ n ≤ c ∧ (A = none → c = 0) ∧ Holds w w.heap.size A n l := by
  have hl : l.length = n := by have := h.1; rw [bvs_len] at this; omega
  rcases h.2 with ⟨rfl, rfl⟩ | ⟨g, cap, cur, rfl, _, hg, hnc, _, _, _⟩
  · exact ⟨none, 0, rfl, Nat.le_refl _, fun _ => rfl, hl, hs, fun h => by omega⟩
  · refine ⟨some ⟨g, 0, none⟩, cap, rfl, hnc, (fun h => by cases h), hl, hs, fun hn => ⟨g, 0, rfl, ?_, fun i hi => ?_⟩⟩
    · exact (Array.getElem?_eq_some_iff.1 hg).1
    · have := h.cellAt i (by omega)
      rw [Nat.zero_add, this, bvs_get (by omega)]

end

theorem below_of_grown {w w' : World} {base e n : Nat} {v : Value} {xs : List Value} (ho : w.ownsRow base e 1 v n xs) (hb : base ≤ w.heap.size) (hg : w.grownBy w' v.ownBlock) : Below base w w' :=
  (Below.refl _ _).grown hg hb fun k hk => (ho.lt k hk).1

def Went (w : World) (r : Option Nat) (w' : World) (r' : Option Nat) : Prop := w.grownBy w' r ∧ (r' = r ∨ ∃ g, r' = some g ∧ w.heap.size ≤ g)

section
variable {w w1 w2 : World} {r r1 r2 : Option Nat}
theorem Went.refl (w : World) (r : Option Nat) : Went w r w r := ⟨World.grownBy.refl w r, .inl rfl⟩
theorem Went.size (h : Went w r w1 r1) : w.heap.size ≤ w1.heap.size := h.1.size
theorem Went.trans (h : Went w r w1 r1) (k : Went w1 r1 w2 r2) : Went w r w2 r2 := by
  refine ⟨⟨k.1.os.trans h.1.os, k.1.tape.trans h.1.tape, k.1.output.trans h.1.output, Nat.le_trans h.1.size k.1.size, fun i hi hne => ?_⟩, ?_⟩
  · refine (k.1.block i (Nat.lt_of_lt_of_le hi h.1.size) ?_).trans (h.1.block i hi hne)
    rcases h.2 with e | ⟨g, e, hg⟩
    · rw [e]; exact hne
    · rw [e]
      intro e2
      have := Option.some.inj e2
      omega
  · rcases k.2 with e | ⟨g, e, hg⟩
    · rw [e]; exact h.2
    · exact .inr ⟨g, e, Nat.le_trans h.1.size hg⟩
theorem Went.alloc (h : Went w r w1 r1) (o : Obj) : Went w r (w1.alloc o) r1 := h.trans ⟨World.grownBy_alloc w1 o r1, .inl rfl⟩
theorem Went.drew (h : Went w r w1 r1) : Went w r w1.drew r1 := h.trans ⟨⟨rfl, rfl, rfl, Nat.le_refl _, fun _ _ _ => rfl⟩, .inl rfl⟩
theorem Went.of_below (h : Below w.heap.size w w1) (r : Option Nat) : Went w r w1 r := ⟨⟨h.os, h.tape, h.output, h.size, fun k hk _ => h.block k hk⟩, .inl rfl⟩
theorem Went.other {base e t n : Nat} {v : Value} {xs : List Value} {cs : Array Value} {g : Nat} (h : Went w v.ownBlock w1 r1) (ho : w.ownsRow base e 1 v n xs) (hb : w.heap[g]? = some (.cells cs t (0, 0))) (hne : e ≠ t) :
    w1.heap[g]? = some (.cells cs t (0, 0)) := by
  rw [h.1.block g (Array.getElem?_eq_some_iff.1 hb).1]
  · exact hb
  · rcases ho.2 with ⟨rfl, _⟩ | ⟨g', cap, cur, rfl, _, hh, _⟩
    · simp [Value.ownBlock]
    · intro e2
      have e3 : g = g' := by simpa [Value.ownBlock] using e2
      rw [← e3, hb] at hh
      injection hh with hh
      injection hh with _ ht
      exact hne ht.symm
theorem Went.below {base e n : Nat} {v : Value} {xs : List Value} (h : Went w v.ownBlock w1 r1) (ho : w.ownsRow base e 1 v n xs) (hb : base ≤ w.heap.size) : Below base w w1 := below_of_grown ho hb h.1
end

section
variable {P : Program} (w : World)

end

end Go.Proofs.YtpckdhjnhnonhaaGreat
/- Slices whose elements take k cells each, wherever they lie: what such a slice holds, cell by cell; the blocks that it may lie in. -/
namespace Go.Proofs.YtpckdhjnhnonhaaGreat
open Go.RowKit

def FlatAt (F : Nat → Prop) (w : World) (k : Nat) (v : Value) (n : Nat) (xs : List Value) : Prop :=
  xs.length = n * k ∧ (∀ u ∈ xs, u.oneCell' = true) ∧ ∃ A c, v = .slice A n c ∧ n ≤ c ∧ c ≤ maxLen ∧ (A = none → c = 0) ∧
    (0 < n → ∃ b off, A = some ⟨b, off, none⟩ ∧ F b ∧ b < w.heap.size ∧ w.rangeAt b off xs)

def Kept (F : Nat → Prop) (w w' : World) : Prop := w.heap.size ≤ w'.heap.size ∧ ∀ i, i < w.heap.size → F i → w'.heap[i]? = w.heap[i]?

theorem Kept.refl (F : Nat → Prop) (w : World) : Kept F w w := ⟨Nat.le_refl _, fun _ _ _ => rfl⟩
theorem Kept.trans {F : Nat → Prop} {a b c : World} (h : Kept F a b) (k : Kept F b c) : Kept F a c :=
  ⟨Nat.le_trans h.1 k.1, fun i hi hf => (k.2 i (Nat.lt_of_lt_of_le hi h.1) hf).trans (h.2 i hi hf)⟩
theorem Kept.of_below {w w' : World} (h : Below w.heap.size w w') (F : Nat → Prop) : Kept F w w' := ⟨h.size, fun i hi _ => h.block i hi⟩
theorem Kept.of_grown {w w' : World} {r : Option Nat} (h : w.grownBy w' r) {F : Nat → Prop} (hr : ∀ g, r = some g → ¬ F g) : Kept F w w' :=
  ⟨h.size, fun i hi hf => h.block i hi (fun e => hr i e.symm hf)⟩
theorem Kept.mono {F G : Nat → Prop} {w w' : World} (h : Kept F w w') (hg : ∀ i, i < w.heap.size → G i → F i) : Kept G w w' := ⟨h.1, fun i hi hf => h.2 i hi (hg i hi hf)⟩
theorem Kept.drewN (F : Nat → Prop) (w : World) (n : Nat) : Kept F w (w.drewN n) := ⟨Nat.le_refl _, fun _ _ _ => rfl⟩
theorem Kept.drew (F : Nat → Prop) (w : World) : Kept F w w.drew := ⟨Nat.le_refl _, fun _ _ _ => rfl⟩
theorem Kept.cell {F : Nat → Prop} {w w' : World} (h : Kept F w w') {b o : Nat} (hb : b < w.heap.size) (hf : F b) : w'.cell? ⟨b, o, none⟩ = w.cell? ⟨b, o, none⟩ := World.cell?_of_block (h.2 b hb hf)

section
variable {F G : Nat → Prop} {w w' : World} {k n : Nat} {v : Value} {xs : List Value}

theorem FlatAt.kept (h : FlatAt F w k v n xs) (hk : Kept F w w') : FlatAt F w' k v n xs := by
  obtain ⟨h1, h2, A, c, hv, h3, h4, h5, h6⟩ := h
  refine ⟨h1, h2, A, c, hv, h3, h4, h5, fun hn => ?_⟩
  obtain ⟨b, off, hA, hf, hb, hr⟩ := h6 hn
  exact ⟨b, off, hA, hf, Nat.lt_of_lt_of_le hb hk.1, fun j u hj => (hk.cell hb hf).trans (hr j u hj)⟩
theorem FlatAt.mono (h : FlatAt F w k v n xs) (hg : ∀ i, i < w.heap.size → F i → G i) : FlatAt G w k v n xs := by
  obtain ⟨h1, h2, A, c, hv, h3, h4, h5, h6⟩ := h
  refine ⟨h1, h2, A, c, hv, h3, h4, h5, fun hn => ?_⟩
  obtain ⟨b, off, hA, hf, hb, hr⟩ := h6 hn
  exact ⟨b, off, hA, hg b hb hf, hb, hr⟩
theorem FlatAt.nil_ (F : Nat → Prop) (w : World) (k : Nat) : FlatAt F w k (.slice none 0 0) 0 [] :=
  ⟨by simp, by simp, none, 0, rfl, Nat.le_refl _, by unfold maxLen; omega, fun _ => rfl, fun h => by omega⟩
theorem FlatAt.of_own {base e : Nat} (h : w.ownsRow base e k v n xs) (h1 : ∀ u ∈ xs, u.oneCell' = true) : FlatAt (base ≤ ·) w k v n xs := by
  refine ⟨h.1, h1, ?_⟩
  rcases h.2 with ⟨rfl, rfl⟩ | ⟨g, cap, cur, rfl, hb, hg, hnc, hm, _, _⟩
  · exact ⟨none, 0, rfl, Nat.le_refl _, by unfold maxLen; omega, fun _ => rfl, fun h => by omega⟩
  · refine ⟨some ⟨g, 0, none⟩, cap, rfl, hnc, hm, (fun h => by cases h), fun _ => ⟨g, 0, rfl, hb, lt_of_block hg, fun j u hj => ?_⟩⟩
    have := h.cells (g := g) rfl j u hj
    rwa [Addr.add_lit] at this
theorem FlatAt.len (h : FlatAt F w k v n xs) : xs.length = n * k := h.1
theorem FlatAt.shape (h : FlatAt F w k v n xs) : ∃ A c, v = .slice A n c ∧ n ≤ c ∧ c ≤ maxLen ∧ (A = none → c = 0) := by
  obtain ⟨_, _, A, c, hv, h3, h4, h5, _⟩ := h
  exact ⟨A, c, hv, h3, h4, h5⟩
theorem FlatAt.elem (h : FlatAt F w k v n xs) {i : Nat} (hi : i < n) : ∃ b off c, v = .slice (some ⟨b, off, none⟩) n c ∧ n ≤ c ∧ F b ∧ b < w.heap.size ∧ w.rangeAt b (off + i * k) ((xs.drop (i * k)).take k) := by
  obtain ⟨h1, h2, A, c, hv, h3, h4, h5, h6⟩ := h
  obtain ⟨b, off, rfl, hf, hb, hr⟩ := h6 (by omega)
  refine ⟨b, off, c, hv, h3, hf, hb, fun j u hj => ?_⟩
  rw [Nat.add_assoc]
  apply hr
  have hjk : j < k := by
    have := (List.getElem?_eq_some_iff.1 hj).1
    rw [List.length_take] at this
    omega
  rw [List.getElem?_take_of_lt hjk, List.getElem?_drop] at hj
  exact hj
end

theorem flat_get {α : Type} (f : α → List Value) (k : Nat) : ∀ (l : List α) (i : Nat) (x : α), (∀ y ∈ l, (f y).length = k) → l[i]? = some x → ((l.flatMap f).drop (i * k)).take k = f x
  | [], _, _, _, h => by simp at h
  | y :: r, 0, x, hk, h => by
    have e : y = x := by simpa using h
    subst e
    have := hk y (by simp)
    simp [this.symm]
  | y :: r, i + 1, x, hk, h => by
    have h1 := hk y (by simp)
    have ih := flat_get f k r i x (fun z hz => hk z (by simp [hz])) (by simpa using h)
    rw [List.flatMap_cons, show (i + 1) * k = (f y).length + i * k from by rw [h1, Nat.add_mul]; omega, List.drop_append, List.drop_eq_nil_of_le (Nat.le_add_right _ _), Nat.add_sub_cancel_left]
    simpa using ih
theorem flat_len {α : Type} (f : α → List Value) (k : Nat) : ∀ (l : List α), (∀ y ∈ l, (f y).length = k) → (l.flatMap f).length = l.length * k
  | [], _ => by simp
  | y :: r, hk => by
    have ih := flat_len f k r (fun z hz => hk z (by simp [hz]))
    have h1 := hk y (by simp)
    rw [List.flatMap_cons, List.length_append, ih, h1, List.length_cons, Nat.add_mul]
    omega
section
variable {P : Program} (w : World)
theorem run_append_flat (base : Nat) (t ty e : TypeId) (i : TypeInfo) (z : Value) (k bytes : Nat) (ht : P.underlying t = some (.slice e)) (hi : P.info? e = some i) (hz : i.zero = some z)
    (hsize : i.size = k) (hby : i.bytes = bytes) (hzs : z.cells.size = k) (hk : 0 < k)
    (v : Value) (n : Nat) (xs : List Value) (hown : w.ownsRow base e k v n xs)
    (F : Nat → Prop) (A : Option Addr) (m c : Nat) (ys : List Value) (hl : FlatAt F w k (.slice A m c) m ys) (hroom : n + m ≤ maxLen) (hbytes : (n + m) * bytes ≤ 140737488355328) (hbase : base ≤ w.heap.size) :
    ∃ v' w', (Builtin.append_ #[t, t] ty #[v, .slice A m c]).run P w = .ok v' w' ∧ w'.ownsRow base e k v' (n + m) (xs ++ ys) ∧ w.grownBy w' v.ownBlock := by
  obtain ⟨hlen, h1, A', c', hv, h3, h4, h5, h6⟩ := hl
  obtain ⟨rfl, rfl⟩ : A = A' ∧ c = c' := by injection hv with e1 _ e3; exact ⟨e1, e3⟩
  rcases A with _ | ad
  · have hm : m = 0 := by
      rcases Nat.eq_zero_or_pos m with h | h
      · exact h
      · obtain ⟨_, _, h, _⟩ := h6 h
        cases h
    subst hm
    have : ys = [] := List.eq_nil_of_length_eq_zero (by simpa using hlen)
    subst this
    refine ⟨v, w, ?_, by simpa using hown, World.grownBy.refl w _⟩
    rcases hown.2 with ⟨rfl, rfl⟩ | ⟨g, cap, cur, rfl, _, _, hnc, _⟩
    · simp [Builtin.append_, run_underlying ht, sizeOf, typeInfo, hi, Builtin.lenOf, Builtin.firstCells]
    · simp [Builtin.append_, run_underlying ht, sizeOf, typeInfo, hi, Builtin.lenOf, Builtin.firstCells, hnc, storeCells]
  · obtain ⟨v', w', g1, g2, g3, _, _⟩ := run_append_own_at (P := P) w base t ty e i z k bytes ht hi hz hsize hby hzs hk v n xs hown ad m c ys hlen
      (fun j u hu => by
        have hj : j < ys.length := (List.getElem?_eq_some_iff.1 hu).1
        have hm : 0 < m := by
          rcases Nat.eq_zero_or_pos m with h | h
          · subst h
            omega
          · exact h
        obtain ⟨b, off, h, _, _, hr⟩ := h6 hm
        obtain rfl := Option.some.inj h
        rw [Addr.add_lit]
        exact hr j u hu) h1 hroom hbytes hbase
    exact ⟨v', w', g1, g2, g3⟩

theorem wpList_append_flat {ops : Array Oper} {rest : List Oper} {o : Oper} {a : Act} {Q : Exit → Act → World → Prop} (hgd : o.guard = none) (s x : Operand) (t : TypeId)
    (ho : o.op = .call { callee := .builtin .append, args := #[s, x], argTypes := #[t, t] })
    (base : Nat) (e : TypeId) (i : TypeInfo) (z : Value) (k bytes : Nat) (ht : P.underlying t = some (.slice e)) (hi : P.info? e = some i) (hz : i.zero = some z)
    (hsize : i.size = k) (hby : i.bytes = bytes) (hzs : z.cells.size = k) (hk : 0 < k)
    (v : Value) (n : Nat) (xs : List Value) (hs : a.eval s = v) (hown : w.ownsRow base e k v n xs)
    (F : Nat → Prop) (A : Option Addr) (m c : Nat) (ys : List Value) (hx : a.eval x = .slice A m c) (hl : FlatAt F w k (.slice A m c) m ys) (hroom : n + m ≤ maxLen) (hbytes : (n + m) * bytes ≤ 140737488355328) (hbase : base ≤ w.heap.size)
    (h : ∀ v' w', w'.ownsRow base e k v' (n + m) (xs ++ ys) → w.grownBy w' v.ownBlock → wpList P ops Q rest (a.put o.dst v') w') : wpList P ops Q (o :: rest) a w := by
  refine wpList_plain hgd fun K hK => ?_
  obtain ⟨v', w', hr, h2, h3⟩ := run_append_flat (P := P) w base t o.type e i z k bytes ht hi hz hsize hby hzs hk v n xs hown F A m c ys hl hroom hbytes hbase
  unfold Oper.wp execOp
  simp only [ho, resolve, invoke, builtin, Sem.run_bind, Sem.run_pure, Result.andThen_ok, List.map_toArray, List.map_cons, List.map_nil, hs, hx, hr]
  exact hK _ _ (h v' w' h2 h3)
end
theorem ownsRow_lit (w : World) (e k : Nat) : (w.alloc (.cells #[] e)).ownsRow w.heap.size e k (.slice (some ⟨w.heap.size, 0, none⟩) 0 0) 0 [] :=
  ⟨by simp, .inr ⟨w.heap.size, 0, #[], rfl, Nat.le_refl _, heap_alloc_new w _, Nat.le_refl _, Nat.zero_le _, by simp, by simp⟩⟩
theorem later_own {w w' : World} {base e size n : Nat} {v : Value} {xs : List Value} (ho : w.ownsRow base e size v n xs) (hb : base ≤ w.heap.size) (hg : w.grownBy w' v.ownBlock) : Below base w w' :=
  (Below.refl _ _).grown hg hb fun k hk => (ho.lt k hk).1
end Go.Proofs.YtpckdhjnhnonhaaGreat
/- Steps, operations and messages: what they say, and how they lie in memory. -/
namespace Go.Proofs.YtpckdhjnhnonhaaGreat
open Go.RowKit

structure StepD where
  name : ByteArray
  stub : Int
  retry : Int
  wait : Int
  undo : Bool
  pivot : Bool
  deriving DecidableEq
namespace StepD
def cells (s : StepD) : List Value := [.string s.name, .int .i64 s.stub, .int .i64 s.retry, .int .i64 s.wait, .bool s.undo, .bool s.pivot]
theorem len (s : StepD) : s.cells.length = 6 := rfl
theorem one (s : StepD) : ∀ u ∈ s.cells, u.oneCell' = true := by simp [cells, Value.oneCell']
end StepD

def I64 (x : Int) : Prop := -9223372036854775808 ≤ x ∧ x < 9223372036854775808
def StepD.wf (s : StepD) : Prop := s.name.size ≤ 140737488355328 ∧ I64 s.stub ∧ I64 s.retry ∧ I64 s.wait

structure OpD where
  kind : Int
  client : Int
  request : Int
  name : ByteArray
  steps : List StepD
  saga : Int
  step : Int
  try_ : Int
  back : Bool
  good : Bool
  deriving DecidableEq
namespace OpD
def cells (o : OpD) (s : Value) : List Value := [.int .i64 o.kind, .int .i64 o.client, .int .i64 o.request, .string o.name, s, .int .i64 o.saga, .int .i64 o.step, .int .i64 o.try_, .bool o.back, .bool o.good]
theorem len (o : OpD) (s : Value) : (o.cells s).length = 10 := rfl
def wf (o : OpD) : Prop := I64 o.kind ∧ I64 o.client ∧ I64 o.request ∧ o.name.size ≤ 140737488355328 ∧ (∀ s ∈ o.steps, s.wf) ∧ I64 o.saga ∧ I64 o.step ∧ I64 o.try_
def zero : OpD := ⟨0, 0, 0, ⟨#[]⟩, [], 0, 0, 0, false, false⟩
end OpD

def StepsAt (F : Nat → Prop) (w : World) (v : Value) (l : List StepD) : Prop := FlatAt F w 6 v l.length (l.flatMap StepD.cells)
def OpAt (F : Nat → Prop) (w : World) (v : Value) (o : OpD) : Prop := ∃ s, v = .agg (o.cells s).toArray ∧ StepsAt F w s o.steps ∧ s.oneCell' = true
def OpsIn (F : Nat → Prop) (w : World) (v : Value) (ps : List (OpD × Value)) : Prop :=
  FlatAt F w 10 v ps.length (ps.flatMap fun p => p.1.cells p.2) ∧ ∀ p ∈ ps, StepsAt F w p.2 p.1.steps
def OpsAt (F : Nat → Prop) (w : World) (v : Value) (l : List OpD) : Prop := ∃ ps, ps.map (·.1) = l ∧ OpsIn F w v ps
def IncsAt (F : Nat → Prop) (w : World) (v : Value) (l : List Int) : Prop := FlatAt F w 1 v l.length (l.map fun x => .int .i64 x)

section
variable {F G : Nat → Prop} {w w' : World} {v : Value}
theorem StepsAt.kept {l : List StepD} (h : StepsAt F w v l) (hk : Kept F w w') : StepsAt F w' v l := FlatAt.kept h hk
theorem StepsAt.mono {l : List StepD} (h : StepsAt F w v l) (hg : ∀ i, i < w.heap.size → F i → G i) : StepsAt G w v l := FlatAt.mono h hg
theorem IncsAt.kept {l : List Int} (h : IncsAt F w v l) (hk : Kept F w w') : IncsAt F w' v l := FlatAt.kept h hk
theorem IncsAt.mono {l : List Int} (h : IncsAt F w v l) (hg : ∀ i, i < w.heap.size → F i → G i) : IncsAt G w v l := FlatAt.mono h hg
theorem OpsIn.kept {ps : List (OpD × Value)} (h : OpsIn F w v ps) (hk : Kept F w w') : OpsIn F w' v ps := ⟨h.1.kept hk, fun p hp => (h.2 p hp).kept hk⟩
theorem OpsIn.mono {ps : List (OpD × Value)} (h : OpsIn F w v ps) (hg : ∀ i, i < w.heap.size → F i → G i) : OpsIn G w v ps := ⟨h.1.mono hg, fun p hp => (h.2 p hp).mono hg⟩
theorem OpsAt.kept {l : List OpD} (h : OpsAt F w v l) (hk : Kept F w w') : OpsAt F w' v l := let ⟨ps, e, h'⟩ := h; ⟨ps, e, h'.kept hk⟩
theorem OpsAt.mono {l : List OpD} (h : OpsAt F w v l) (hg : ∀ i, i < w.heap.size → F i → G i) : OpsAt G w v l := let ⟨ps, e, h'⟩ := h; ⟨ps, e, h'.mono hg⟩
theorem OpAt.kept {o : OpD} (h : OpAt F w v o) (hk : Kept F w w') : OpAt F w' v o := let ⟨s, e, h', h1⟩ := h; ⟨s, e, h'.kept hk, h1⟩
theorem OpAt.mono {o : OpD} (h : OpAt F w v o) (hg : ∀ i, i < w.heap.size → F i → G i) : OpAt G w v o := let ⟨s, e, h', h1⟩ := h; ⟨s, e, h'.mono hg, h1⟩
theorem FlatAt.oneCell {k n : Nat} {xs : List Value} (h : FlatAt F w k v n xs) : v.oneCell' = true := by
  obtain ⟨_, _, _, _, rfl, _⟩ := h
  rfl
theorem StepsAt.nil_ (F : Nat → Prop) (w : World) : StepsAt F w (.slice none 0 0) [] := FlatAt.nil_ F w 6
theorem IncsAt.nil_ (F : Nat → Prop) (w : World) : IncsAt F w (.slice none 0 0) [] := FlatAt.nil_ F w 1
theorem OpsAt.nil_ (F : Nat → Prop) (w : World) : OpsAt F w (.slice none 0 0) [] := ⟨[], rfl, FlatAt.nil_ F w 10, by simp⟩
theorem OpsIn.one {ps : List (OpD × Value)} (h : OpsIn F w v ps) : ∀ u ∈ ps.flatMap (fun p => p.1.cells p.2), u.oneCell' = true := h.1.2.1

theorem StepsAt.at_ {l : List StepD} (h : StepsAt F w v l) {i : Nat} (hi : i < l.length) : ∃ s b off c, l[i]? = some s ∧ v = .slice (some ⟨b, off, none⟩) l.length c ∧ l.length ≤ c ∧ F b ∧ b < w.heap.size ∧ w.rangeAt b (off + i * 6) s.cells := by
  obtain ⟨b, off, c, hv, hc, hf, hb, hr⟩ := FlatAt.elem h hi
  have hs : l[i]? = some l[i] := List.getElem?_eq_getElem hi
  refine ⟨l[i], b, off, c, hs, hv, hc, hf, hb, ?_⟩
  rwa [flat_get StepD.cells 6 l i _ (fun y _ => y.len) hs] at hr
theorem OpsIn.at_ {ps : List (OpD × Value)} (h : OpsIn F w v ps) {i : Nat} (hi : i < ps.length) : ∃ o s b off c, ps[i]? = some (o, s) ∧ v = .slice (some ⟨b, off, none⟩) ps.length c ∧ ps.length ≤ c ∧ F b ∧ b < w.heap.size ∧ w.rangeAt b (off + i * 10) (o.cells s) ∧ StepsAt F w s o.steps := by
  obtain ⟨b, off, c, hv, hc, hf, hb, hr⟩ := FlatAt.elem h.1 hi
  have hs : ps[i]? = some ps[i] := List.getElem?_eq_getElem hi
  refine ⟨ps[i].1, ps[i].2, b, off, c, hs, hv, hc, hf, hb, ?_, h.2 _ (List.getElem_mem hi)⟩
  rwa [flat_get (fun p : OpD × Value => p.1.cells p.2) 10 ps i _ (fun y _ => y.1.len y.2) hs] at hr
theorem IncsAt.at_ {l : List Int} (h : IncsAt F w v l) {i : Nat} (hi : i < l.length) : ∃ x b off c, l[i]? = some x ∧ v = .slice (some ⟨b, off, none⟩) l.length c ∧ l.length ≤ c ∧ F b ∧ b < w.heap.size ∧ w.cell? ⟨b, off + i, none⟩ = some (.int .i64 x) := by
  obtain ⟨b, off, c, hv, hc, hf, hb, hr⟩ := FlatAt.elem h hi
  have hs : l[i]? = some l[i] := List.getElem?_eq_getElem hi
  refine ⟨l[i], b, off, c, hs, hv, hc, hf, hb, ?_⟩
  have := hr 0 (.int .i64 l[i]) (by simp [List.getElem?_drop, hs])
  simpa using this
end

structure MsgD where
  kind : Int
  src : Int
  dst : Int
  view : Int
  last : Int
  num : Int
  commit : Int
  nonce : Int
  request : Int
  lead : Bool
  good : Bool
  fenced : Bool
  op : OpD
  rerr : Int
  rsaga : Int
  rstate : Int
  rstep : Int
  cview : Int
  cstub : Int
  csaga : Int
  cstep : Int
  ctry : Int
  cback : Bool
  ops : List OpD
  incs : List Int
  deriving DecidableEq
namespace MsgD
def cells (m : MsgD) (s o i : Value) : List Value :=
  [.int .i64 m.kind, .int .i64 m.src, .int .i64 m.dst, .int .i64 m.view, .int .i64 m.last, .int .i64 m.num, .int .i64 m.commit, .int .i64 m.nonce, .int .i64 m.request, .bool m.lead, .bool m.good, .bool m.fenced,
   .int .i64 m.op.kind, .int .i64 m.op.client, .int .i64 m.op.request, .string m.op.name, s, .int .i64 m.op.saga, .int .i64 m.op.step, .int .i64 m.op.try_, .bool m.op.back, .bool m.op.good,
   .int .i64 m.rerr, .int .i64 m.rsaga, .int .i64 m.rstate, .int .i64 m.rstep, .int .i64 m.cview, .int .i64 m.cstub, .int .i64 m.csaga, .int .i64 m.cstep, .int .i64 m.ctry, .bool m.cback, o, i]
theorem len (m : MsgD) (s o i : Value) : (m.cells s o i).length = 34 := rfl
def wf (m : MsgD) : Prop :=
  I64 m.kind ∧ I64 m.src ∧ I64 m.dst ∧ I64 m.view ∧ I64 m.last ∧ I64 m.num ∧ I64 m.commit ∧ I64 m.nonce ∧ I64 m.request ∧ m.op.wf ∧ I64 m.rerr ∧ I64 m.rsaga ∧ I64 m.rstate ∧ I64 m.rstep ∧
  I64 m.cview ∧ I64 m.cstub ∧ I64 m.csaga ∧ I64 m.cstep ∧ I64 m.ctry ∧ (∀ o ∈ m.ops, o.wf) ∧ (∀ x ∈ m.incs, I64 x)
def zero : MsgD := ⟨0, 0, 0, 0, 0, 0, 0, 0, 0, false, false, false, .zero, 0, 0, 0, 0, 0, 0, 0, 0, 0, false, [], []⟩
end MsgD

def Lists (F : Nat → Prop) (w : World) (m : MsgD) (s o i : Value) : Prop := StepsAt F w s m.op.steps ∧ OpsAt F w o m.ops ∧ IncsAt F w i m.incs
def MsgAt (F : Nat → Prop) (w : World) (v : Value) (m : MsgD) : Prop := ∃ s o i, v = .agg (m.cells s o i).toArray ∧ Lists F w m s o i
section
variable {F G : Nat → Prop} {w w' : World} {v s o i : Value} {m : MsgD}
theorem Lists.kept (h : Lists F w m s o i) (hk : Kept F w w') : Lists F w' m s o i := ⟨h.1.kept hk, h.2.1.kept hk, h.2.2.kept hk⟩
theorem Lists.mono (h : Lists F w m s o i) (hg : ∀ i, i < w.heap.size → F i → G i) : Lists G w m s o i := ⟨h.1.mono hg, h.2.1.mono hg, h.2.2.mono hg⟩
theorem MsgAt.kept (h : MsgAt F w v m) (hk : Kept F w w') : MsgAt F w' v m := let ⟨s, o, i, e, h'⟩ := h; ⟨s, o, i, e, h'.kept hk⟩
theorem MsgAt.mono (h : MsgAt F w v m) (hg : ∀ i, i < w.heap.size → F i → G i) : MsgAt G w v m := let ⟨s, o, i, e, h'⟩ := h; ⟨s, o, i, e, h'.mono hg⟩
theorem Lists.cell (h : Lists F w m s o i) : s.oneCell' = true ∧ o.oneCell' = true ∧ i.oneCell' = true := by
  obtain ⟨h1, ⟨ps, _, h2⟩, h3⟩ := h
  exact ⟨FlatAt.oneCell h1, FlatAt.oneCell h2.1, FlatAt.oneCell h3⟩
theorem MsgD.one (m : MsgD) (h1 : s.oneCell' = true) (h2 : o.oneCell' = true) (h3 : i.oneCell' = true) : ∀ u ∈ m.cells s o i, u.oneCell' = true := by
  simp [MsgD.cells, h1, h2, h3]
  simp [Value.oneCell']
theorem OpD.one (x : OpD) (h1 : s.oneCell' = true) : ∀ u ∈ x.cells s, u.oneCell' = true := by
  simp [OpD.cells, h1]
  simp [Value.oneCell']
theorem MsgAt.zero (F : Nat → Prop) (w : World) : MsgAt F w (.agg (MsgD.zero.cells (.slice none 0 0) (.slice none 0 0) (.slice none 0 0)).toArray) .zero :=
  ⟨_, _, _, rfl, StepsAt.nil_ F w, OpsAt.nil_ F w, IncsAt.nil_ F w⟩
end

theorem range_step {w : World} {b o : Nat} {s : StepD} (h : w.rangeAt b o s.cells) :
    w.cell? ⟨b, o, none⟩ = some (.string s.name) ∧ w.cell? ⟨b, o + 1, none⟩ = some (.int .i64 s.stub) ∧ w.cell? ⟨b, o + 2, none⟩ = some (.int .i64 s.retry) ∧ w.cell? ⟨b, o + 3, none⟩ = some (.int .i64 s.wait) ∧
    w.cell? ⟨b, o + 4, none⟩ = some (.bool s.undo) ∧ w.cell? ⟨b, o + 5, none⟩ = some (.bool s.pivot) :=
  ⟨h 0 _ rfl, h 1 _ rfl, h 2 _ rfl, h 3 _ rfl, h 4 _ rfl, h 5 _ rfl⟩
theorem range_op {w : World} {b p : Nat} {o : OpD} {s : Value} (h : w.rangeAt b p (o.cells s)) :
    w.cell? ⟨b, p, none⟩ = some (.int .i64 o.kind) ∧ w.cell? ⟨b, p + 1, none⟩ = some (.int .i64 o.client) ∧ w.cell? ⟨b, p + 2, none⟩ = some (.int .i64 o.request) ∧ w.cell? ⟨b, p + 3, none⟩ = some (.string o.name) ∧
    w.cell? ⟨b, p + 4, none⟩ = some s ∧ w.cell? ⟨b, p + 5, none⟩ = some (.int .i64 o.saga) ∧ w.cell? ⟨b, p + 6, none⟩ = some (.int .i64 o.step) ∧ w.cell? ⟨b, p + 7, none⟩ = some (.int .i64 o.try_) ∧
    w.cell? ⟨b, p + 8, none⟩ = some (.bool o.back) ∧ w.cell? ⟨b, p + 9, none⟩ = some (.bool o.good) :=
  ⟨h 0 _ rfl, h 1 _ rfl, h 2 _ rfl, h 3 _ rfl, h 4 _ rfl, h 5 _ rfl, h 6 _ rfl, h 7 _ rfl, h 8 _ rfl, h 9 _ rfl⟩
end Go.Proofs.YtpckdhjnhnonhaaGreat
/- A definition, as data: what may be in it, and what tokens say it. -/
namespace Go.Proofs.YtpckdhjnhnonhaaGreat
open Go.RowKit

def outB (n lo hi : Int) : Bool := decide (n < lo) || decide (hi < n)
def stepBad (s : StepD) : Bool := !nameF s.name.data.toList || (outB s.stub 1 4 || (outB s.retry 0 9 || outB s.wait 1 99))
def namedB (done : List StepD) (s : StepD) : Bool := done.any fun a => decide (a.name = s.name)
def pivotB (done : List StepD) : Bool := done.any fun a => a.pivot
def stepErr (done : List StepD) (s : StepD) : Nat :=
  if stepBad s then 2 else if namedB done s || (pivotB done && s.pivot) then 9 else if s.undo == (pivotB done || s.pivot) then 10 else 0
def firstBad : List StepD → List StepD → Nat × Nat
  | _, [] => (0, 0)
  | done, s :: r => if stepErr done s = 0 then firstBad (done ++ [s]) r else (done.length + 1, stepErr done s)
def checkF (name : ByteArray) (steps : List StepD) : Nat × Nat :=
  if !nameF name.data.toList || (decide (steps.length < 1) || decide (8 < steps.length)) then (0, 2) else firstBad [] steps

theorem firstBad_at {l : List StepD} {k : Nat} {s : StepD} (h : l[k]? = some s) : firstBad (l.take k) (l.drop k) = if stepErr (l.take k) s = 0 then firstBad (l.take (k + 1)) (l.drop (k + 1)) else (k + 1, stepErr (l.take k) s) := by
  obtain ⟨hk, rfl⟩ := List.getElem?_eq_some_iff.1 h
  rw [List.drop_eq_getElem_cons hk, firstBad, List.take_succ_eq_append_getElem hk, List.length_take, Nat.min_eq_left (Nat.le_of_lt hk)]
theorem firstBad_end {l : List StepD} : firstBad (l.take l.length) (l.drop l.length) = (0, 0) := by
  rw [List.drop_length]; rfl
structure Rd where
  l : List Tok
  bad : Bool
def isP (f : Tok → Bool) (r : Rd) : Bool := match r.bad, r.l with
  | false, t :: _ => f t
  | _, _ => false
def Rd.go (r : Rd) : Rd := ⟨r.l.tail, r.bad⟩
def mayP (f : Tok → Bool) (r : Rd) : Rd := if isP f r then r.go else r
def mustP (f : Tok → Bool) (r : Rd) : Rd := if isP f r then r.go else ⟨r.l, true⟩
def noTok : Tok := ⟨0, [], 0, 0⟩
def tokP (f : Tok → Bool) (r : Rd) : Tok := if isP f r then r.l.headD noTok else noTok
def justF (s : List UInt8) (t : Tok) : Bool := decide (t.s = s)
def someF (k : Nat) (t : Tok) : Bool := t.k == k

abbrev wSaga : List UInt8 := [115, 97, 103, 97]
abbrev wStep : List UInt8 := [115, 116, 101, 112]
abbrev wStub : List UInt8 := [115, 116, 117, 98]
abbrev wRetry : List UInt8 := [114, 101, 116, 114, 121]
abbrev wWait : List UInt8 := [119, 97, 105, 116]
abbrev wUndo : List UInt8 := [117, 110, 100, 111]
abbrev wPivot : List UInt8 := [112, 105, 118, 111, 116]

def numP (s : List UInt8) (d : Nat) (r : Rd) : Nat := if isP (justF s) r then (tokP (someF 2) r.go).n else d
def numR (s : List UInt8) (r : Rd) : Rd := if isP (justF s) r then mustP (someF 2) r.go else r

def s1 (r : Rd) : Rd := mustP (someF 1) r
def s2 (r : Rd) : Rd := mustP (justF wStub) (s1 r)
def s3 (r : Rd) : Rd := mustP (someF 2) (s2 r)
def s4 (r : Rd) : Rd := numR wRetry (s3 r)
def s5 (r : Rd) : Rd := numR wWait (s4 r)
def s6 (r : Rd) : Rd := mayP (justF wUndo) (s5 r)
def s7 (r : Rd) : Rd := mayP (justF wPivot) (s6 r)
def s8 (r : Rd) : Rd := mustP (justF [59]) (s7 r)
def stepP (r : Rd) : StepD := ⟨⟨(tokP (someF 1) r).s.toArray⟩, ((tokP (someF 2) (s2 r)).n : Int), (numP wRetry 0 (s3 r) : Int), (numP wWait 10 (s4 r) : Int), isP (justF wUndo) (s5 r), isP (justF wPivot) (s6 r)⟩
def placeP (r : Rd) : Nat := (tokP (someF 1) r).at_

theorem go_len (r : Rd) : r.go.l.length = r.l.length - 1 := by simp [Rd.go]
theorem may_len (f : Tok → Bool) (r : Rd) : (mayP f r).l.length ≤ r.l.length := by
  unfold mayP; split
  · rw [go_len]; omega
  · exact Nat.le_refl _
theorem must_len (f : Tok → Bool) (r : Rd) : (mustP f r).l.length ≤ r.l.length := by
  unfold mustP; split
  · rw [go_len]; omega
  · exact Nat.le_refl _
theorem num_len (s : List UInt8) (r : Rd) : (numR s r).l.length ≤ r.l.length := by
  unfold numR; split
  · have := must_len (someF 2) r.go
    rw [go_len] at this
    omega
  · exact Nat.le_refl _
theorem s8_len (r : Rd) : (s8 r).l.length ≤ r.l.length := by
  have h1 : (s1 r).l.length ≤ r.l.length := must_len (someF 1) r
  have h2 : (s2 r).l.length ≤ (s1 r).l.length := must_len (justF wStub) (s1 r)
  have h3 : (s3 r).l.length ≤ (s2 r).l.length := must_len (someF 2) (s2 r)
  have h4 : (s4 r).l.length ≤ (s3 r).l.length := num_len wRetry (s3 r)
  have h5 : (s5 r).l.length ≤ (s4 r).l.length := num_len wWait (s4 r)
  have h6 : (s6 r).l.length ≤ (s5 r).l.length := may_len (justF wUndo) (s5 r)
  have h7 : (s7 r).l.length ≤ (s6 r).l.length := may_len (justF wPivot) (s6 r)
  have h8 : (s8 r).l.length ≤ (s7 r).l.length := must_len (justF [59]) (s7 r)
  omega
theorem isP_len {f : Tok → Bool} {r : Rd} (h : isP f r = true) : 0 < r.l.length := by
  unfold isP at h
  obtain ⟨l, b⟩ := r
  cases b with
  | true => simp at h
  | false =>
    cases l with
    | nil => simp at h
    | cons t l => simp
def stepsP (r : Rd) : List (StepD × Nat) × Rd :=
  if _h : isP (justF wStep) r = true then ((stepP r.go, placeP r.go) :: (stepsP (s8 r.go)).1, (stepsP (s8 r.go)).2) else ([], r)
termination_by r.l.length
decreasing_by
  all_goals
    have h1 := isP_len (by assumption)
    have h2 := s8_len r.go
    have h3 := go_len r
    omega
def d1 (ts : List Tok) : Rd := mustP (justF wSaga) ⟨ts, false⟩
def d2 (ts : List Tok) : Rd := mustP (someF 1) (d1 ts)
def d3 (ts : List Tok) : Rd := mustP (justF [123]) (d2 ts)
def d4 (ts : List Tok) : Rd := (stepsP (d3 ts)).2
def d5 (ts : List Tok) : Rd := mustP (justF [125]) (d4 ts)
def d6 (ts : List Tok) : Rd := ⟨(d5 ts).l, (d5 ts).bad || !(d5 ts).l.isEmpty⟩
end Go.Proofs.YtpckdhjnhnonhaaGreat
/- What a definition means, as data: its pivot, tries, the way down, and sums. -/
namespace Go.Proofs.YtpckdhjnhnonhaaGreat
open Go.RowKit

def pivotN (l : List StepD) : Nat := if l.findIdx (fun s => s.pivot) < l.length then l.findIdx (fun s => s.pivot) + 1 else 0
def triesF (s : StepD) : Int := if outB s.retry 0 9 then 0 else s.retry + 1
def triesN (l : List StepD) (k : Int) : Int := if k < 1 ∨ (l.length : Int) < k then 0 else ((l[(k - 1).toNat]?).map triesF).getD 0
def hitB (hs : List Bool) (k : Int) : Bool := decide (0 < k) && (decide (k ≤ (hs.length : Int)) && (hs[(k - 1).toNat]?).getD false)
def okAt (l : List StepD) (hs : List Bool) (k : Nat) : Bool := ((l[k]?).map (fun s => s.undo)).getD false && (hs[k]?).getD false
def downN (l : List StepD) (hs : List Bool) : Nat → Nat
  | 0 => 0
  | k + 1 => if okAt l hs k then k + 1 else downN l hs k
def downF (l : List StepD) (hs : List Bool) (n : Int) : Nat := downN l hs (min n (l.length : Int)).toNat
def sealedF (l : List StepD) (hs : List Bool) : Bool := hitB hs (pivotN l : Int)
theorem find_at {f : StepD → Bool} {l : List StepD} {q : Nat} {s : StepD} (h : (l.take q).any f = false) (hs : l[q]? = some s) (hf : f s = true) : l.findIdx f = q := by
  obtain ⟨hq, rfl⟩ := List.getElem?_eq_some_iff.1 hs
  rw [List.findIdx_eq hq]
  refine ⟨hf, fun j hj => ?_⟩
  rw [List.any_eq_false] at h
  have := h l[j] (List.mem_iff_getElem.2 ⟨j, by simp; omega, by simp⟩)
  simpa using this
theorem find_none {f : StepD → Bool} {l : List StepD} (h : l.any f = false) : l.findIdx f = l.length := by
  rw [List.findIdx_eq_length]
  rw [List.any_eq_false] at h
  intro x hx
  simpa using h x hx
theorem pivot_at {l : List StepD} {q : Nat} {s : StepD} (h : (l.take q).any (fun s => s.pivot) = false) (hs : l[q]? = some s) (hf : s.pivot = true) : pivotN l = q + 1 := by
  unfold pivotN
  rw [find_at h hs hf, if_pos (List.getElem?_eq_some_iff.1 hs).1]
theorem pivot_none {l : List StepD} (h : l.any (fun s => s.pivot) = false) : pivotN l = 0 := by
  unfold pivotN
  rw [find_none h, if_neg (by omega)]
theorem pivotN_le (l : List StepD) : pivotN l ≤ l.length := by unfold pivotN; split <;> omega
theorem downN_le (l : List StepD) (hs : List Bool) : ∀ k, downN l hs k ≤ k
  | 0 => Nat.le_refl _
  | k + 1 => by
    unfold downN
    split
    · omega
    · have := downN_le l hs k; omega
theorem downF_le (l : List StepD) (hs : List Bool) (n : Int) : downF l hs n ≤ l.length := by
  unfold downF
  have := downN_le l hs (min n (l.length : Int)).toNat
  omega
theorem okAt_hit {l : List StepD} {hs : List Bool} {k : Nat} {s : StepD} (h : l[k]? = some s) : okAt l hs k = (s.undo && hitB hs ((k : Int) + 1)) := by
  unfold okAt hitB
  have e1 : ((k : Int) + 1 - 1).toNat = k := by omega
  rw [h, e1, decide_eq_true (show (0 : Int) < (k : Int) + 1 by omega), Bool.true_and]
  simp only [Option.map_some, Option.getD_some]
  by_cases hk : (k : Int) + 1 ≤ (hs.length : Int)
  · rw [decide_eq_true hk, Bool.true_and]
  · rw [decide_eq_false hk, List.getElem?_eq_none (by omega)]
    simp

theorem firstBad_good : ∀ (l done : List StepD), (firstBad done l).2 = 0 → ∀ s ∈ l, stepBad s = false
  | [], _, _, _, h => by cases h
  | x :: r, done, h, s, hs => by
    unfold firstBad at h
    split at h
    · rename_i h0
      rcases List.mem_cons.1 hs with rfl | hs
      · cases hb : stepBad s with
        | false => rfl
        | true => unfold stepErr at h0; rw [if_pos hb] at h0; cases h0
      · exact firstBad_good r _ h s hs
    · exact absurd h ‹_›
theorem check_good {name : ByteArray} {l : List StepD} (h : (checkF name l).2 = 0) : l.length ≤ 8 ∧ 1 ≤ l.length ∧ nameF name.data.toList = true ∧ ∀ s ∈ l, stepBad s = false := by
  unfold checkF at h
  split at h
  · cases h
  · rename_i hb
    have h1 : nameF name.data.toList = true := by cases hq : nameF name.data.toList <;> simp_all
    have h2 : ¬ l.length < 1 := fun hl => hb (by rw [h1, decide_eq_true hl]; rfl)
    have h3 : ¬ 8 < l.length := fun hl => hb (by rw [h1, decide_eq_true hl]; simp)
    exact ⟨by omega, by omega, h1, firstBad_good l [] h⟩
theorem good_nums {s : StepD} (h : stepBad s = false) : 0 ≤ s.retry ∧ s.retry ≤ 9 ∧ 1 ≤ s.wait ∧ s.wait ≤ 99 := by
  unfold stepBad outB at h
  simp at h
  omega
theorem tries_good {s : StepD} (h : stepBad s = false) : triesF s = s.retry + 1 := by
  have := good_nums h
  unfold triesF outB
  rw [if_neg (by simp; omega)]
end Go.Proofs.YtpckdhjnhnonhaaGreat
/- A saga, as data: what its calls make of it. -/
namespace Go.Proofs.YtpckdhjnhnonhaaGreat
open Go.RowKit

structure Hits where
  a0 : Bool
  a1 : Bool
  a2 : Bool
  a3 : Bool
  a4 : Bool
  a5 : Bool
  a6 : Bool
  a7 : Bool
  deriving DecidableEq
def Hits.l (x : Hits) : List Bool := [x.a0, x.a1, x.a2, x.a3, x.a4, x.a5, x.a6, x.a7]
def Hits.cells (x : Hits) : List Value := [.bool x.a0, .bool x.a1, .bool x.a2, .bool x.a3, .bool x.a4, .bool x.a5, .bool x.a6, .bool x.a7]
abbrev Hits.val (x : Hits) : Value := .agg x.cells.toArray
def Hits.set (x : Hits) (k : Nat) (b : Bool) : Hits := match k with
  | 0 => { x with a0 := b }
  | 1 => { x with a1 := b }
  | 2 => { x with a2 := b }
  | 3 => { x with a3 := b }
  | 4 => { x with a4 := b }
  | 5 => { x with a5 := b }
  | 6 => { x with a6 := b }
  | 7 => { x with a7 := b }
  | _ => x
def upH (k : Int) : Hits := ⟨decide (0 < k), decide (1 < k), decide (2 < k), decide (3 < k), decide (4 < k), decide (5 < k), decide (6 < k), decide (7 < k)⟩

structure SagaD where
  name : ByteArray
  p : Option Addr
  n : Nat
  c : Nat
  st : Int
  step : Int
  tr : Int
  hit : Hits
def SagaD.cells (s : SagaD) : List Value := [.string s.name, .slice s.p s.n s.c, .int .i64 s.st, .int .i64 s.step, .int .i64 s.tr, .bool s.hit.a0, .bool s.hit.a1, .bool s.hit.a2, .bool s.hit.a3, .bool s.hit.a4, .bool s.hit.a5, .bool s.hit.a6, .bool s.hit.a7]
abbrev SagaD.v (s : SagaD) : Value := .slice s.p s.n s.c
abbrev SagaD.val (s : SagaD) : Value := .agg s.cells.toArray
def SagaD.zero : SagaD := ⟨⟨#[]⟩, none, 0, 0, 0, 0, 0, upH 0⟩
def SagaD.at_ (s : SagaD) (st step : Int) : SagaD := ⟨s.name, s.p, s.n, s.c, st, step, 1, s.hit⟩
def SagaD.ended (s : SagaD) (st step : Int) : SagaD := ⟨s.name, s.p, s.n, s.c, st, step, 0, s.hit⟩
def SagaD.hitN (s : SagaD) (b : Bool) : SagaD := ⟨s.name, s.p, s.n, s.c, s.st, s.step, s.tr, s.hit.set (s.step - 1).toNat b⟩
def SagaD.withV (s : SagaD) (p : Option Addr) (n c : Nat) : SagaD := ⟨s.name, p, n, c, s.st, s.step, s.tr, s.hit⟩
def cameF (s : SagaD) : Bool := decide (s.hit = upH (s.step - 1)) || decide (s.hit = upH s.step)
def undoAt (l : List StepD) (k : Int) : Bool := ((l[(k - 1).toNat]?).map (fun s => s.undo)).getD false
def goodF (l : List StepD) (s : SagaD) : Bool :=
  if (checkF s.name l).2 ≠ 0 then false
  else if s.st = 1 then decide (1 ≤ s.tr) && (decide (s.tr ≤ triesN l s.step) && cameF s)
  else if s.st = 2 then decide (1 ≤ s.tr) && (decide (s.tr ≤ triesN l s.step) && (decide (s.hit = upH s.step) && undoAt l s.step))
  else if s.st = 5 then decide (s.tr = 0) && (decide (0 < triesN l s.step) && cameF s)
  else if s.st = 3 then decide (s.tr = 0) && (decide (s.step = 0) && decide (s.hit = upH l.length))
  else if s.st = 4 then decide (s.tr = 0) && (decide (s.step = 0) && decide (s.hit = upH 0))
  else false
def sealedS (l : List StepD) (s : SagaD) : Bool := sealedF l s.hit.l
def downS (l : List StepD) (s : SagaD) : SagaD := if downF l s.hit.l s.step = 0 then s.ended 4 0 else s.at_ 2 (downF l s.hit.l s.step : Int)
def failsS (l : List StepD) (s : SagaD) : SagaD := if sealedS l s then s.ended 5 s.step else downS l s
def missedS (l : List StepD) (s : SagaD) : SagaD :=
  if s.tr < triesN l s.step then ⟨s.name, s.p, s.n, s.c, s.st, s.step, s.tr + 1, s.hit⟩
  else if s.st = 2 then s.ended 5 s.step else failsS l s
def nextS (l : List StepD) (s : SagaD) : SagaD := if s.step = (l.length : Int) then s.ended 3 0 else s.at_ 1 (s.step + 1)
structure CmdD where
  stub : Int
  step : Int
  tr : Int
  back : Bool
def CmdD.cells (c : CmdD) : List Value := [.int .i64 0, .int .i64 c.stub, .int .i64 0, .int .i64 c.step, .int .i64 c.tr, .bool c.back]
abbrev CmdD.val (c : CmdD) : Value := .agg c.cells.toArray
def wantsB (l : List StepD) (s : SagaD) : Bool := goodF l s && (decide (s.st = 1) || decide (s.st = 2))
def stepAt (l : List StepD) (k : Int) : StepD := (l[(k - 1).toNat]?).getD ⟨⟨#[]⟩, 0, 0, 0, false, false⟩
def wantsC (l : List StepD) (s : SagaD) : CmdD := if wantsB l s then ⟨(stepAt l s.step).stub, s.step, s.tr, decide (s.st = 2)⟩ else ⟨0, 0, 0, false⟩
def wantsW (l : List StepD) (s : SagaD) : Int := if wantsB l s then (stepAt l s.step).wait else 0
def isIt (l : List StepD) (s : SagaD) (step tr : Int) (back : Bool) : Bool := wantsB l s && (decide (s.step = step) && (decide (s.tr = tr) && (decide (s.st = 2) == back)))
def reportE (l : List StepD) (s : SagaD) (back good : Bool) : SagaD := if good then (if back then downS l (s.hitN false) else nextS l (s.hitN true)) else missedS l s
def lapseE (l : List StepD) (s : SagaD) : SagaD := missedS l (s.hitN true)
def reportF (l : List StepD) (s : SagaD) (step tr : Int) (back good : Bool) : SagaD := if isIt l s step tr back then reportE l s back good else s
def lapseF (l : List StepD) (s : SagaD) (step tr : Int) (back : Bool) : SagaD := if isIt l s step tr back then lapseE l s else s
def lateB (l : List StepD) (s : SagaD) : Bool := decide (s.st ≠ 1) || (sealedS l s || decide (s.step = (pivotN l : Int)))
def cancelF (l : List StepD) (s : SagaD) : SagaD × Int :=
  if goodF l s then (if s.st = 2 then (s, 0) else if lateB l s then (SagaD.zero, 10) else (failsS l (s.hitN true), 0)) else (s, 2)
end Go.Proofs.YtpckdhjnhnonhaaGreat
/- A map keyed by integers, whatever its elements: what it holds, as the list of its keys, rising, with the values as they stand. -/
namespace Go.Proofs.YtpckdhjnhnonhaaGreat
open Go.RowKit

def heldR (v : Value) : Option (DataW Value × List MemPlace) := some (.held v, [])
def mapD (L : List (Int × Value)) : DataW Value := .map (L.map fun p => (.int .i64 p.1, .held p.2))

theorem has_mapD (L : List (Int × Value)) (a : Int) : Maps.has (mapD L) (.int .i64 a) = L.any (fun p => p.1 == a) := by
  unfold mapD
  rw [Maps.has_eq, List.any_map]
  congr 1
  funext p
  simp [Lit.sameKey, Function.comp]
  rfl
theorem size_mapD (L : List (Int × Value)) : Maps.size (mapD L) = L.length := by simp [mapD, Maps.size]
theorem find_mapD (L : List (Int × Value)) (a : Int) : (L.map fun p : Int × Value => ((.int .i64 p.1, .held p.2) : Lit × DataW Value)).find? (fun p => p.1.sameKey (.int .i64 a)) = (L.find? (fun p => p.1 == a)).map fun p => (.int .i64 p.1, .held p.2) := by
  rw [List.find?_map]
  congr 2
  funext p
  simp [Lit.sameKey, Function.comp]
  rfl
theorem at_mapD (L : List (Int × Value)) (a : Int) (z : DataW Value) : (mapD L).atKey (.int .i64 a) z = match L.find? (fun p => p.1 == a) with | some p => .held p.2 | none => z := by
  unfold mapD DataW.atKey
  simp only [find_mapD]
  cases L.find? (fun p => p.1 == a) <;> rfl
theorem del_mapD (L : List (Int × Value)) (a : Int) : (mapD L).del (.int .i64 a) = mapD (L.filter fun p => !(p.1 == a)) := by
  unfold mapD
  show DataW.map _ = _
  rw [List.filter_map]
  congr 2
  congr 1
  funext p
  simp [Lit.sameKey, Function.comp]
  rfl

section
variable {P : Program} {w : World} {ops : Array Oper} {rest : List Oper} {o : Oper} {a : Act} {Q : Exit → Act → World → Prop}
def foundIn (L : List (Int × Value)) (z : Value) (key : Int) : Value × Bool := match L.find? (fun p => p.1 == key) with | some p => (p.2, true) | none => (z, false)
theorem look_held (c : Bool) {k e t : TypeId} (K : Maps.Keyed P k) (ht : P.underlying t = some (.map k e)) {z : Value} (hz : (zeroValue e).run P w = .ok z w) {b n : Nat} {L : List (Int × Value)} (hown : w.ownsMap P k heldR b n (mapD L)) {key : Int}
    (hkey : keyOf P k (Value.int .i64 key) = some (Lit.int .i64 key)) :
    (Instr.lookup t (.map (some b)) (.int .i64 key) c).run P w = .ok (if c then .tuple #[(foundIn L z key).1, .bool (foundIn L z key).2] else (foundIn L z key).1) w := by
  have hh := has_mapD L key
  have hat := at_mapD L key (.held z)
  have hf : (L.any fun p => p.1 == key) = (L.find? (fun p => p.1 == key)).isSome := by
    rw [Bool.eq_iff_iff, List.find?_isSome]
    simp [List.any_eq_true]
  cases c with
  | true =>
    obtain ⟨v, ps, hr, hv⟩ := hown.look_ok K ht hz (zd := .held z) (zp := []) rfl hkey
    rw [hat] at hv
    rw [hr, hh, hf]
    unfold foundIn
    cases h : L.find? (fun p => p.1 == key) with
    | some p => rw [h] at hv; simp only [heldR, Option.some.injEq, Prod.mk.injEq, DataW.held.injEq] at hv; simp [hv.1]
    | none => rw [h] at hv; simp only [heldR, Option.some.injEq, Prod.mk.injEq, DataW.held.injEq] at hv; simp [hv.1]
  | false =>
    obtain ⟨v, ps, hr, hv⟩ := hown.lookup K ht hz (zd := .held z) (zp := []) rfl hkey
    rw [hat] at hv
    rw [hr]
    unfold foundIn
    cases h : L.find? (fun p => p.1 == key) with
    | some p => rw [h] at hv; simp only [heldR, Option.some.injEq, Prod.mk.injEq, DataW.held.injEq] at hv; simp [hv.1]
    | none => rw [h] at hv; simp only [heldR, Option.some.injEq, Prod.mk.injEq, DataW.held.injEq] at hv; simp [hv.1]
theorem wpList_lookup_held (hg : o.guard = none) (m x : Operand) (t : TypeId) (hop : o.op = Op.lookup t m x true)
    (k e : TypeId) (K : Maps.Keyed P k) (ht : P.underlying t = some (.map k e)) (z : Value) (hz : (zeroValue e).run P w = .ok z w) (b n : Nat) (L : List (Int × Value))
    (hm : a.eval m = .map (some b)) (hown : w.ownsMap P k heldR b n (mapD L)) (key : Int) (hx : a.eval x = .int .i64 key) (hkey : keyOf P k (Value.int .i64 key) = some (Lit.int .i64 key))
    (v : Value) (ok : Bool) (hres : foundIn L z key = (v, ok)) (hK : wpList P ops Q rest (a.put o.dst (.tuple #[v, .bool ok])) w) : wpList P ops Q (o :: rest) a w := by
  refine wpList_plain hg fun K' hK' => ?_
  have hr := look_held true K ht hz hown hkey
  rw [hres] at hr
  unfold Oper.wp
  simp [execOp, hop, hm, hx, hr, Result.andThen]
  exact hK' _ _ hK
end
end Go.Proofs.YtpckdhjnhnonhaaGreat
/- A book, as data: its sagas by numbers, and what each operation tells and leaves. -/
namespace Go.Proofs.YtpckdhjnhnonhaaGreat
open Go.RowKit

structure Ent where
  id : Int
  s : SagaD
  l : List StepD
def Ent.isOpen (x : Ent) : Bool := decide (x.s.st = 1) || decide (x.s.st = 2)
def entAt (L : List Ent) (id : Int) : Option Ent := L.find? (fun x => x.id == id)
def putE (x : Ent) : List Ent → List Ent
  | [] => [x]
  | y :: r => if y.id < x.id then y :: putE x r else if y.id = x.id then x :: r else x :: y :: r
def dropE (L : List Ent) (id : Int) : List Ent := L.filter fun x => !(x.id == id)
def openN (L : List Ent) : Nat := L.countP Ent.isOpen
def RiseE (L : List Ent) : Prop := L.Pairwise (fun x y => x.id < y.id)
theorem entAt_mem {L : List Ent} {id : Int} {x : Ent} (h : entAt L id = some x) : x ∈ L ∧ x.id = id := by
  unfold entAt at h
  exact ⟨List.mem_of_find?_eq_some h, by simpa using List.find?_some h⟩
theorem entAt_none {L : List Ent} {id : Int} (h : entAt L id = none) : ∀ x ∈ L, x.id ≠ id := by
  unfold entAt at h
  intro x hx he
  have := List.find?_eq_none.1 h x hx
  simp [he] at this
theorem mem_putE {x y : Ent} : ∀ {L : List Ent}, y ∈ putE x L → y = x ∨ y ∈ L
  | [], h => .inl (by simpa [putE] using h)
  | z :: r, h => by
    unfold putE at h
    split at h
    · rcases List.mem_cons.1 h with rfl | h
      · exact .inr (by simp)
      · rcases mem_putE h with h | h
        · exact .inl h
        · exact .inr (by simp [h])
    · split at h
      · rcases List.mem_cons.1 h with rfl | h
        · exact .inl rfl
        · exact .inr (by simp [h])
      · rcases List.mem_cons.1 h with rfl | h
        · exact .inl rfl
        · exact .inr h
theorem putE_mem (x : Ent) : ∀ (L : List Ent), x ∈ putE x L
  | [] => by simp [putE]
  | z :: r => by
    unfold putE
    split
    · simp [putE_mem x r]
    · split <;> simp
theorem putE_rise (x : Ent) : ∀ {L : List Ent}, RiseE L → RiseE (putE x L)
  | [], _ => by simp [putE, RiseE]
  | z :: r, h => by
    obtain ⟨h1, h2⟩ := List.pairwise_cons.1 h
    unfold putE
    split
    · refine List.pairwise_cons.2 ⟨fun y hy => ?_, putE_rise x h2⟩
      rcases mem_putE hy with rfl | hy
      · assumption
      · exact h1 y hy
    · split
      · rename_i a b
        exact List.pairwise_cons.2 ⟨fun y hy => by have := h1 y hy; omega, h2⟩
      · rename_i a b
        refine List.pairwise_cons.2 ⟨fun y hy => ?_, h⟩
        rcases List.mem_cons.1 hy with rfl | hy
        · omega
        · have := h1 y hy; omega
theorem entAt_putE (x : Ent) : ∀ {L : List Ent}, RiseE L → entAt (putE x L) x.id = some x
  | [], _ => by simp [putE, entAt]
  | z :: r, h => by
    obtain ⟨h1, h2⟩ := List.pairwise_cons.1 h
    unfold putE
    split
    · rename_i a
      have := entAt_putE x h2
      unfold entAt at *
      rw [List.find?_cons_of_neg (by simp; omega)]
      exact this
    · split <;> simp [entAt]
theorem putE_last (x : Ent) : ∀ {L : List Ent}, (∀ y ∈ L, y.id < x.id) → putE x L = L ++ [x]
  | [], _ => rfl
  | z :: r, h => by
    unfold putE
    rw [if_pos (h z (by simp)), putE_last x (fun y hy => h y (by simp [hy]))]
    rfl
theorem putE_len (x : Ent) : ∀ (L : List Ent), (putE x L).length ≤ L.length + 1
  | [] => by simp [putE]
  | z :: r => by
    have := putE_len x r
    unfold putE
    split
    · simp; omega
    · split <;> simp
theorem putE_len_is (x : Ent) : ∀ {L : List Ent}, RiseE L → (∃ y ∈ L, y.id = x.id) → (putE x L).length = L.length
  | [], _, h => by obtain ⟨y, hy, _⟩ := h; cases hy
  | z :: r, hr, h => by
    obtain ⟨h1, h2⟩ := List.pairwise_cons.1 hr
    obtain ⟨y, hy, he⟩ := h
    unfold putE
    split
    · rename_i a
      rcases List.mem_cons.1 hy with rfl | hy
      · omega
      · have := putE_len_is x h2 ⟨y, hy, he⟩
        simp [this]
    · split
      · simp
      · rename_i a b
        rcases List.mem_cons.1 hy with rfl | hy
        · omega
        · have := h1 y hy
          omega
theorem dropE_sub {L : List Ent} {id : Int} : ∀ x ∈ dropE L id, x ∈ L := fun _ hx => (List.mem_filter.1 hx).1
theorem dropE_rise {L : List Ent} (id : Int) (h : RiseE L) : RiseE (dropE L id) := h.filter _

structure RepD where
  err : Int
  saga : Int
  st : Int
  step : Int
  deriving DecidableEq
def RepD.cells (r : RepD) : List Value := [.int .i64 r.err, .int .i64 r.saga, .int .i64 r.st, .int .i64 r.step]
abbrev RepD.val (r : RepD) : Value := .agg r.cells.toArray
def errR (e : Int) : RepD := ⟨e, 0, 0, 0⟩

structure BkS where
  last : Int
  L : List Ent
def statusF (L : List Ent) (id : Int) : RepD := match entAt L id with | none => errR 8 | some x => ⟨0, id, x.s.st, x.s.step⟩
def roomF (L : List Ent) : List Ent := if L.length < 32 then L else match L.find? (fun x => !x.isOpen) with | none => L | some x => dropE L x.id
def newE (id : Int) (name : ByteArray) (l : List StepD) : Ent := ⟨id, ⟨name, none, 0, 0, 1, 1, 1, upH 0⟩, l⟩
def startS (most : Int) (t : BkS) (name : ByteArray) (l : List StepD) : BkS :=
  if (checkF name l).2 ≠ 0 then t else if most ≤ (openN t.L : Int) then t else ⟨t.last + 1, putE (newE (t.last + 1) name l) (roomF t.L)⟩
def startR (most : Int) (t : BkS) (name : ByteArray) (l : List StepD) : RepD :=
  if (checkF name l).2 ≠ 0 then errR ((checkF name l).2 : Nat) else if most ≤ (openN t.L : Int) then errR 7 else ⟨0, t.last + 1, 1, 1⟩
def eventS (ev : List StepD → SagaD → SagaD × Int) (t : BkS) (id : Int) : BkS := match entAt t.L id with
  | none => t
  | some x => if (ev x.l x.s).2 ≠ 0 then t else ⟨t.last, putE ⟨id, (ev x.l x.s).1, x.l⟩ t.L⟩
def eventR (ev : List StepD → SagaD → SagaD × Int) (t : BkS) (id : Int) : RepD := match entAt t.L id with
  | none => errR 8
  | some x => if (ev x.l x.s).2 ≠ 0 then errR (ev x.l x.s).2 else ⟨0, id, (ev x.l x.s).1.st, (ev x.l x.s).1.step⟩
def reportV (step tr : Int) (back good : Bool) (l : List StepD) (s : SagaD) : SagaD × Int := if isIt l s step tr back then (reportE l s back good, 0) else (SagaD.zero, 10)
def lapseV (step tr : Int) (back : Bool) (l : List StepD) (s : SagaD) : SagaD × Int := if isIt l s step tr back then (lapseE l s, 0) else (SagaD.zero, 10)
def applyS (most : Int) (t : BkS) (o : OpD) : BkS :=
  if o.kind = 1 then startS most t o.name o.steps
  else if o.kind = 2 then eventS cancelF t o.saga
  else if o.kind = 4 then eventS (reportV o.step o.try_ o.back o.good) t o.saga
  else if o.kind = 5 then eventS (lapseV o.step o.try_ o.back) t o.saga
  else t
def applyR (most : Int) (t : BkS) (o : OpD) : RepD :=
  if o.kind = 0 then errR 0
  else if o.kind = 1 then startR most t o.name o.steps
  else if o.kind = 2 then eventR cancelF t o.saga
  else if o.kind = 3 then statusF t.L o.saga
  else if o.kind = 4 then eventR (reportV o.step o.try_ o.back o.good) t o.saga
  else if o.kind = 5 then eventR (lapseV o.step o.try_ o.back) t o.saga
  else errR 2
def othersN (L : List Ent) (id : Int) : Nat := L.countP fun x => decide (x.id ≠ id) && x.isOpen
def setE (most : Int) (t : BkS) (x : Ent) : Int :=
  if x.id < 1 ∨ 1099511627776 < x.id ∨ goodF x.l x.s = false then 2
  else if ((entAt t.L x.id).isNone ∧ 32 ≤ t.L.length) ∨ (x.isOpen = true ∧ most ≤ (othersN t.L x.id : Int)) then 7 else 0
def setS (most : Int) (t : BkS) (x : Ent) : BkS := if setE most t x = 0 then ⟨max t.last x.id, putE x t.L⟩ else t
end Go.Proofs.YtpckdhjnhnonhaaGreat
/- Rows of the call's own, carried over; the cells that were there. -/
namespace Go.Proofs.YtpckdhjnhnonhaaGreat
open Go.RowKit

end Go.Proofs.YtpckdhjnhnonhaaGreat
/- A region whose order is open, of calls that make memory beside operations that read what earlier calls made: what reads the same in all later worlds may come up at once. -/
namespace Go.Proofs.YtpckdhjnhnonhaaGreat
open Go.RowKit

def Later (w w' : World) : Prop := Below w.heap.size w w'
theorem Later.refl (w : World) : Later w w := Below.refl _ _
theorem Later.trans {a b c : World} (h : Later a b) (k : Later b c) : Later a c := Below.trans h (Below.mono k h.size)
theorem Later.drew (w : World) : Later w w.drew := (Below.refl _ _).drew

section
variable {P : Program} {ops : Array Oper} {Q : Exit → Act → World → Prop} {md : Region.Mode}

def wpAnyL (P : Program) (md : Region.Mode) (ops : Array Oper) (Q : Exit → Act → World → Prop) : Nat → Array Bool → Act → World → Prop
  | 0, listed, a, w => Region.ready md ops listed = [] ∧ Q .normal a w
  | fuel + 1, listed, a, w =>
    (Region.ready md ops listed = [] → Q .normal a w) ∧
    ∀ i ∈ Region.ready md ops listed, wpOp P ops Q i (fun a' w' => Later w w' ∧ wpAnyL P md ops Q fuel (listed.setIfInBounds i true) a' w') a w

theorem wpAny_of_L : ∀ (fuel : Nat) (listed : Array Bool) (a : Act) (w : World), wpAnyL P md ops Q fuel listed a w → wpAny P md ops Q fuel listed a w
  | 0, _, _, _, h => h
  | fuel + 1, _, _, _, h => ⟨h.1, fun i hi => wpOp_mono (fun a' w' h' => wpAny_of_L fuel _ a' w' h'.2) (h.2 i hi)⟩

theorem yields_later {o : Oper} {v : Value} {a : Act} {w w' : World} (h : YieldsIf P ops (Later w) o v a) (hl : Later w w') : YieldsIf P ops (Later w') o v a :=
  h.imp (fun ⟨hw, hv⟩ => ⟨hw, fun u hu => hv u (hl.trans hu)⟩) id

theorem wpAnyL_first {i : Nat} {oi : Oper} {v : Value} (hi : ops[i]? = some oi) (hsel : ∀ (j : Nat) (o : Oper) cs b, ops[j]? = some o → o.op ≠ .select cs b)
    (hQ : ∀ c a w, Q (.panic c) (a.put oi.dst v) w → Q (.panic c) a w) :
    ∀ (fuel : Nat) (listed : Array Bool) (a : Act) (w : World),
      (∀ j oj, ops[j]? = some oj → j ≠ i → listed.getD j true = false → (∀ e ∈ oj.after, Region.binds md e = true → e.on ≠ i) → oi.apart ops oj = true) →
      i ∈ Region.ready md ops listed → YieldsIf P ops (Later w) oi v a →
      wpAnyL P md ops Q fuel (listed.setIfInBounds i true) (a.put oi.dst v) w → wpAnyL P md ops Q (fuel + 1) listed a w := by
  intro fuel
  induction fuel with
  | zero =>
    intro listed a w _ hr hy H
    refine ⟨fun h => (by rw [h] at hr; cases hr), fun j hj => ?_⟩
    by_cases hji : j = i
    · subst hji
      exact hy.wpOp hi (Later.refl w) ⟨Later.refl w, H⟩
    · have := ready_mono hj hji
      rw [H.1] at this
      cases this
  | succ fuel ih =>
    intro listed a w hfree hr hy H
    refine ⟨fun h => (by rw [h] at hr; cases hr), fun j hj => ?_⟩
    by_cases hji : j = i
    · subst hji
      exact hy.wpOp hi (Later.refl w) ⟨Later.refl w, H⟩
    · have h1 := H.2 j (ready_mono hj hji)
      obtain ⟨hjun, oj, hoj, hall⟩ := mem_ready.1 hj
      have hnot : ∀ e ∈ oj.after, Region.binds md e = true → e.on ≠ i := fun e he hb heq => by
        have q1 := hall e he hb
        have q0 := (mem_ready.1 hr).1
        rw [heq] at q1
        rcases Nat.lt_or_ge i listed.size with h' | h'
        · simp [h'] at q0 q1
          rw [q0] at q1
          cases q1
        · simp [Array.getElem?_eq_none h'] at q1
      have h2 := wpOp_putIf hoj (hfree j oj hoj hji hjun hnot) (fun cs b => hsel i oi cs b hi) (fun cs b => hsel j oj cs b hoj) hQ hy h1
      have hfree' : ∀ k ok, ops[k]? = some ok → k ≠ i → (listed.setIfInBounds j true).getD k true = false →
          (∀ e ∈ ok.after, Region.binds md e = true → e.on ≠ i) → oi.apart ops ok = true := fun k ok hk hki hun hno => by
        refine hfree k ok hk hki ?_ hno
        by_cases hjk : j = k
        · subst hjk; exact hjun
        · rw [getD_set_ne true hjk] at hun; exact hun
      refine wpOp_mono (fun a' w' h3 => ⟨h3.2.1, ih (listed.setIfInBounds j true) a' w' hfree' (ready_mono hr (Ne.symm hji)) (yields_later h3.1 h3.2.1) ?_⟩) h2
      rw [Array.setIfInBounds_comm _ _ hji]
      exact h3.2.2

theorem wpAnyL_take {i : Nat} {oi : Oper} {d : Option Tmp} {v : Value} {fuel : Nat} {listed : Array Bool} {a : Act} {w : World} (hi : ops[i]? = some oi) (hd : oi.dst = d)
    (hs : Region.noSelect ops = true) (hf : Region.free md ops listed i = true) (hr : (Region.ready md ops listed).contains i = true)
    (hQ : ∀ c a w, Q (.panic c) (a.put d v) w → Q (.panic c) a w) (hw : Region.wanted oi (yielded ops a.tmps) = true) (hy : ∀ w', Later w w' → (execOp a.eval oi).run P w' = .ok (.value v) w')
    (h : wpAnyL P md ops Q fuel (listed.setIfInBounds i true) (a.put d v) w) : wpAnyL P md ops Q (fuel + 1) listed a w := by
  subst hd
  exact wpAnyL_first hi (Region.noSelect_spec hs) hQ fuel listed a w (Region.free_spec hi hf) (by simpa using hr) (.inl ⟨hw, hy⟩) h

theorem wpAnyL_pass {i : Nat} {oi : Oper} {d : Option Tmp} {fuel : Nat} {listed : Array Bool} {a : Act} {w : World} (hi : ops[i]? = some oi) (hd : oi.dst = d)
    (hs : Region.noSelect ops = true) (hf : Region.free md ops listed i = true) (hr : (Region.ready md ops listed).contains i = true)
    (hQ : ∀ c a w, Q (.panic c) (a.put d undef) w → Q (.panic c) a w) (hw : Region.wanted oi (yielded ops a.tmps) = false)
    (h : wpAnyL P md ops Q fuel (listed.setIfInBounds i true) (a.put d undef) w) : wpAnyL P md ops Q (fuel + 1) listed a w := by
  subst hd
  exact wpAnyL_first hi (Region.noSelect_spec hs) hQ fuel listed a w (Region.free_spec hi hf) (by simpa using hr) (.inr ⟨hw, rfl⟩) h

theorem wpAnyL_only {i : Nat} {o : Oper} {fuel : Nat} {listed : Array Bool} {a : Act} {w : World} (ho : ops[i]? = some o) (hr : Region.ready md ops listed = [i]) (hw : Region.wanted o (yielded ops a.tmps) = true)
    (h : ∀ K' : Act → World → Prop, Hid (∀ a' w', Later w w' → wpAnyL P md ops Q fuel (listed.setIfInBounds i true) a' w' → K' a' w') → Oper.wp P o a w K' Q) : wpAnyL P md ops Q (fuel + 1) listed a w := by
  refine ⟨fun h0 => absurd (hr ▸ h0) (by simp), fun j hj => ?_⟩
  rw [hr] at hj
  obtain rfl : j = i := by simpa using hj
  refine wpOp_step ho fun K' hK => ?_
  rw [if_pos hw]
  exact h K' fun a' w' hl hn => hK a' w' ⟨hl, hn⟩

theorem wpAnyL_done {listed : Array Bool} {a : Act} {w : World} (hr : Region.ready md ops listed = []) (h : Q .normal a w) : ∀ fuel, wpAnyL P md ops Q fuel listed a w
  | 0 => ⟨hr, h⟩
  | _ + 1 => ⟨fun _ => h, by rw [hr]; simp⟩

theorem wp_region_L {id : Nat} {a : Act} {w : World} (hm : P.follows .mixedOrders = true)
    (h : wpAnyL P .any ops Q ops.size (Array.replicate ops.size false) a w.drew) : (Code.region id ops true).wp P Q a w :=
  wp_region_any hm (wpAny_of_L _ _ _ _ h)
end

end Go.Proofs.YtpckdhjnhnonhaaGreat
/- Contracts of the library laid at this program: its numbers, and that its bodies are the ones that the contracts speak of. -/
namespace Go.Proofs.YtpckdhjnhnonhaaGreat
open Go.Shelf
def Tryz.ixbA_ren : Go.Shelf.Ren := ⟨fun | 137 => 146 | 217 => 150 | 266 => 151 | n => n, fun | 9 => 9 | 5 => 5 | 3 => 3 | n => n, fun | n => n⟩
theorem Tryz.ixbA : Go.Proofs.Lays.n137 Tryz.prog Tryz.ixbA_ren := {
  mixed := by kernel_rfl
  f137 := Tryz.func146.trans (congrArg some (by kernel_rfl))
  f217 := Tryz.func150.trans (congrArg some (by kernel_rfl))
  f266 := Tryz.func151.trans (congrArg some (by kernel_rfl))
  t3 := Tryz.underlying3
  a3 := Tryz.isAgg3
  z3 := Tryz.sizeOf3
  v3 := Tryz.zeroValue3
  t5 := Tryz.underlying5
  a5 := Tryz.isAgg5
  z5 := Tryz.sizeOf5
  v5 := Tryz.zeroValue5
  t9 := Tryz.underlying9
  a9 := Tryz.isAgg9
  z9 := Tryz.sizeOf9
  v9 := Tryz.zeroValue9 }
def Tryz.vruneA_ren : Go.Shelf.Ren := ⟨fun | 119 => 147 | n => n, fun | 21 => 21 | 4 => 4 | n => n, fun | n => n⟩
theorem Tryz.vruneA : Go.Proofs.Lays.n119 Tryz.prog Tryz.vruneA_ren := {
  mixed := by kernel_rfl
  f119 := Tryz.func147.trans (congrArg some (by kernel_rfl))
  t4 := Tryz.underlying4
  a4 := Tryz.isAgg4
  z4 := Tryz.sizeOf4
  v4 := Tryz.zeroValue4
  t21 := Tryz.underlying21
  a21 := Tryz.isAgg21
  z21 := Tryz.sizeOf21
  v21 := Tryz.zeroValue21 }
def Tryz.iruneA_ren : Go.Shelf.Ren := ⟨fun | 152 => 145 | 137 => 146 | 119 => 147 | 224 => 148 | 225 => 149 | 217 => 150 | 266 => 151 | n => n, fun | 9 => 9 | 21 => 21 | 3 => 3 | 4 => 4 | 5 => 5 | 0 => 0 | 46 => 138 | n => n, fun | n => n⟩
theorem Tryz.iruneA : Go.Proofs.Lays.n152 Tryz.prog Tryz.iruneA_ren := {
  mixed := by kernel_rfl
  f119 := Tryz.func147.trans (congrArg some (by kernel_rfl))
  f137 := Tryz.func146.trans (congrArg some (by kernel_rfl))
  f152 := Tryz.func145.trans (congrArg some (by kernel_rfl))
  f217 := Tryz.func150.trans (congrArg some (by kernel_rfl))
  f224 := Tryz.func148.trans (congrArg some (by kernel_rfl))
  f225 := Tryz.func149.trans (congrArg some (by kernel_rfl))
  f266 := Tryz.func151.trans (congrArg some (by kernel_rfl))
  t0 := Tryz.underlying0
  a0 := Tryz.isAgg0
  z0 := Tryz.sizeOf0
  v0 := Tryz.zeroValue0
  t3 := Tryz.underlying3
  a3 := Tryz.isAgg3
  z3 := Tryz.sizeOf3
  v3 := Tryz.zeroValue3
  t4 := Tryz.underlying4
  a4 := Tryz.isAgg4
  z4 := Tryz.sizeOf4
  v4 := Tryz.zeroValue4
  t5 := Tryz.underlying5
  a5 := Tryz.isAgg5
  z5 := Tryz.sizeOf5
  v5 := Tryz.zeroValue5
  t9 := Tryz.underlying9
  a9 := Tryz.isAgg9
  z9 := Tryz.sizeOf9
  v9 := Tryz.zeroValue9
  t21 := Tryz.underlying21
  a21 := Tryz.isAgg21
  z21 := Tryz.sizeOf21
  v21 := Tryz.zeroValue21
  t46 := Tryz.underlying138
  a46 := Tryz.isAgg138
  z46 := Tryz.sizeOf138
  v46 := Tryz.zeroValue138 }
end Go.Proofs.YtpckdhjnhnonhaaGreat
/- Which bytes a text has: the library's IndexRune and ContainsRune at short texts of small bytes, whatever rune is asked. -/
namespace Go.Proofs.YtpckdhjnhnonhaaGreat
open Go.RowKit

theorem ixb_none (l : List UInt8) (c : UInt8) (h : ∀ b ∈ l, b ≠ c) : Lib.indexByte l c = -1 := by
  induction l with
  | nil => rfl
  | cons b l ih =>
    have hb : (b == c) = false := by simpa using h b (by simp)
    simp [Lib.indexByte, hb, ih (fun x hx => h x (by simp [hx]))]
theorem ixb_yes (l : List UInt8) (c : UInt8) : decide (0 ≤ Lib.indexByte l c) = l.contains c := by
  induction l with
  | nil => rfl
  | cons b l ih =>
    by_cases hb : b = c
    · subst hb
      simp [Lib.indexByte]
    · have hb' : (b == c) = false := by simpa using hb
      have hc' : (c == b) = false := by simpa using (fun e : c = b => hb e.symm)
      unfold Lib.indexByte
      rw [List.contains_cons, hb', hc', Bool.false_or, ← ih]
      by_cases h1 : Lib.indexByte l c = -1
      · simp [h1]
      · have : (Lib.indexByte l c == -1) = false := by simpa using h1
        have hge : -1 ≤ Lib.indexByte l c := by
          clear ih hb hb' hc' h1 this
          induction l with
          | nil => exact Int.le_refl _
          | cons x l ih =>
            unfold Lib.indexByte
            repeat' split
            all_goals omega
        simp [this]
        omega

set_option maxHeartbeats 2000000 in
set_option maxRecDepth 1000000 in
theorem irune_high (s : ByteArray) (r : Nat) (w : World) (hs : ∀ b ∈ s.data.toList, b.toNat < 128) (h0 : 128 ≤ r) (h1 : r < 2147483648) :
    Calls Tryz.prog 145 #[.string s, .int .i32 (r : Int)] w fun e w' => e = .returned (.int .i64 (-1)) ∧ Later w w' := by
  have HL0 : Hid (Later w w) := Later.refl w
  have hV := fun W : World => Any.utf8_ValidRune (P := Tryz.prog) (ρ := Tryz.vruneA_ren) { Tryz.vruneA with } (r : Int) W
  have hget : ∀ (j : Nat) (hj : j < s.size), (s[j]'hj).toNat < 128 := fun j hj => hs _ (by
    show s.data[j] ∈ s.data.toList
    simp)
  go_enter Tryz.func145, Tryz.ntmps145
  have hr0 : (0 : Int) ≤ (r : Int) := by omega
  have hr1 : ¬ ((r : Int) < 128) := by omega
  by_cases he : r = 65533
  · have he' : (r : Int) = 65533 := by omega
    clear he hV
    go_wp2
    go_loopw [] (fun wr => ∃ pos : Nat, wr.heap[w.heap.size]? = some (.stringIter s pos) ∧ Later w wr) (fun wr => s.size - wr.iterPos w.heap.size)
    case atStart =>
      exact ⟨0, World.iter_heap w s 0, (Below.refl _ w).alloc (Nat.le_refl _) _⟩
    case round =>
      obtain ⟨pos, hit, hbw⟩ := hrel
      have hsz : w.heap.size < wr.heap.size := (Array.getElem?_eq_some_iff.1 hit).1
      by_cases hp : pos < s.size
      · have ha := hget pos hp
        have hnx : ∀ ty, (Instr.next (.pointer (some ⟨w.heap.size, 0, none⟩)) true ty).run Tryz.prog wr = _ := fun ty => Lib.run_next_ascii_at wr w.heap.size s pos ty hit hp ha
        have hx : ¬ (((s[pos]'hp).toNat : Int) = 65533) := by omega
        go_wp2
        go_roundw
        case rel => exact ⟨pos + 1, Lib.iterAt_heap wr w.heap.size s pos (pos + 1) hit, Lib.below_iterAt hbw (Nat.le_refl _) s (pos + 1)⟩
        case measure =>
          simp only [World.iterPos, Lib.iterAt_heap wr w.heap.size s pos (pos + 1) hit, hit]
          omega
      · have hnx : ∀ ty, (Instr.next (.pointer (some ⟨w.heap.size, 0, none⟩)) true ty).run Tryz.prog wr = _ := fun ty => Lib.run_next_end_at wr w.heap.size s pos ty hit hp
        go_wp2
        go_ret
        exact ⟨rfl, hbw⟩
  · have he' : ((r : Int) == 65533) = false := by
      rw [beq_eq_false_iff_ne]
      omega
    have hQ := fun W : World => hV W
    clear he hV
    cases hv : Lib.validRune (r : Int) with
    | false =>
      simp only [hv] at hQ
      go_wp2_with (go_at_call 147; refine (hQ _).mono ?_; rintro e w' ⟨rfl, rfl⟩)
      go_ret
      exact ⟨rfl, HL0.out⟩
    | true =>
      simp only [hv] at hQ
      have hval : Utf8.valid (r : Int) = true := by
        simp only [Lib.validRune, decide_eq_true_eq] at hv
        simp [Utf8.valid]
        omega
      obtain ⟨E, hE⟩ : ∃ E, Utf8.encode (r : Int) = E := ⟨_, rfl⟩
      have hf := encode_facts (r : Int) hval (by omega)
      rw [hE] at hf
      obtain ⟨h2, h4, h5⟩ := hf
      obtain ⟨q, hq⟩ : ∃ q, E.size = q + 1 := ⟨E.size - 1, by omega⟩
      have hl := h5 (by omega)
      have hqs : (E.size : Int) - 1 = (q : Int) := by omega
      have hq1 : (q : Int) < (E.size : Int) := by omega
      have hq4 : q ≤ 3 := by omega
      obtain ⟨lb, hlb⟩ : ∃ lb : Nat, (E[q]'(by omega)).toNat = lb := ⟨_, rfl⟩
      have hlb128 : 128 ≤ lb := by rw [← hlb]; simpa [hq] using hl
      have hlb256 : lb < 256 := by rw [← hlb]; exact (E[q]'(by omega)).toNat_lt
      have hI : ∀ W : World, Calls Tryz.prog 146 #[.string (s.extract (q + 1) s.size), .int .u8 (lb : Int)] W fun e w' => e = .returned (.int .i64 (-1)) ∧ w' = W := fun W =>
        (Any.strings_IndexByte (P := Tryz.prog) (ρ := Tryz.ixbA_ren) { Tryz.ixbA with } (s.extract (q + 1) s.size) (lb : Int) W).mono fun e w' ⟨h1, h2⟩ => ⟨by
          rw [h1, ixb_none]
          intro b hb e2
          have hb2 : b ∈ s.data.toList := by
            rw [ByteArray.data_extract] at hb
            simp only [Array.toList_extract, List.extract_eq_take_drop] at hb
            exact List.mem_of_mem_drop (List.mem_of_mem_take hb)
          have := hs b hb2
          rw [e2] at this
          simp at this
          omega, h2⟩
      clear hval h5 hl hv
      have HE := hide hE
      have HI := hide hI
      clear hE hI
      go_wp2_with (fail)
      refine (hQ _).mono ?_
      rintro e w' ⟨rfl, rfl⟩
      clear hQ
      have hcv : ∀ W : World, (convert 21 9 (.int .i32 (r : Int))).run Tryz.prog W = .ok (.string E) W := fun W => by
        rw [run_convert_int_string W 21 9 .i32 (r : Int) (by rw [Tryz.underlying21]; rfl) Tryz.underlying9, HE.out]
      by_cases hlt : q < s.size
      · have hx := hget q hlt
        obtain ⟨x, hxx⟩ : ∃ x : Nat, (s[q]'hlt).toNat = x := ⟨_, rfl⟩
        have hxne : ((x : Int) == (lb : Int)) = false := by
          rw [beq_eq_false_iff_ne]
          omega
        have hlt' : (q : Int) < (s.size : Int) := by omega
        have hle' : (q : Int) + 1 ≤ (s.size : Int) := by omega
        have hq0 : (0 : Int) ≤ (q : Int) + 1 := by omega
        have htn : ((q : Int) + 1).toNat = q + 1 := by omega
        clear hget hs
        have hsl : ∀ W : World, (Instr.slice 9 (.string s) (some (.int .i64 ((q : Int) + 1))) none none).run Tryz.prog W = .ok (.string (s.extract (q + 1) s.size)) W := fun W => by
          rw [run_slice_string_from_if (P := Tryz.prog) W 9 s .i64 ((q : Int) + 1) Tryz.underlying9, if_pos ⟨hq0, hle'⟩, htn]
        have HSL := hide hsl
        clear hsl
        go_wp2_with (fail)
        go_step3
        go_wp2_with (fail)
        have hI := HI.out
        go_loopw [9] (fun v wr => v = .int .i64 (q : Int) ∧ wr = w') (fun _ _ => 0)
        case atStart => exact ⟨rfl, rfl⟩
        case round =>
          obtain ⟨rfl, rfl⟩ := hrel
          go_wp2_with (fail)
          go_step3
          go_wp2_with (fail)
          go_region
          go_wp2_with (fail)
          have hsl := HSL.out
          have hw1 : IntKind.i64.wrap ((q : Int) + 1) = (q : Int) + 1 := wrap_small _ (by omega) (by omega)
          clear hxne hxx hcv hqs he'
          refine wp_region_L (by kernel_rfl) ?_
          refine wpAnyL_take (i := 0) (d := some 34) (v := ?vaa0) rfl rfl (by kernel_rfl) (by kernel_rfl) (by kernel_rfl) (fun _ _ _ h => h) (by rfl) ?yaa0 ?_
          case yaa0 => (intro w' hw'; go_simp; try (with_reducible rfl))
          simp only [Act.put]; try simp only [sA_, sZ_, sS_]
          refine wpAnyL_take (i := 1) (d := some 35) (v := ?vaa1) rfl rfl (by kernel_rfl) (by kernel_rfl) (by kernel_rfl) (fun _ _ _ h => h) (by rfl) ?yaa1 ?_
          case yaa1 => (intro w' hw'; go_simp; try (with_reducible rfl))
          simp only [Act.put]; try simp only [sA_, sZ_, sS_]
          refine wpAnyL_take (i := 2) (d := some 36) (v := ?vaa2) rfl rfl (by kernel_rfl) (by kernel_rfl) (by kernel_rfl) (fun _ _ _ h => h) (by rfl) ?yaa2 ?_
          case yaa2 => (intro w' hw'; go_simp; try (with_reducible rfl))
          simp only [Act.put]; try simp only [sA_, sZ_, sS_]
          refine wpAnyL_take (i := 3) (d := some 37) (v := .string (s.extract (q + 1) s.size)) rfl rfl (by kernel_rfl) (by kernel_rfl) (by kernel_rfl) (fun _ _ _ h => h) (by rfl) ?yaa3 ?_
          case yaa3 => (intro w' hw'; go_simp; try (intro h; exfalso; omega))
          simp only [Act.put]; try simp only [sA_, sZ_, sS_]
          refine wpAnyL_take (i := 4) (d := some 38) (v := ?vaa4) rfl rfl (by kernel_rfl) (by kernel_rfl) (by kernel_rfl) (fun _ _ _ h => h) (by rfl) ?yaa4 ?_
          case yaa4 => (intro w' hw'; go_simp; try (with_reducible rfl))
          simp only [Act.put]; try simp only [sA_, sZ_, sS_]
          refine wpAnyL_take (i := 5) (d := some 39) (v := ?vaa5) rfl rfl (by kernel_rfl) (by kernel_rfl) (by kernel_rfl) (fun _ _ _ h => h) (by rfl) ?yaa5 ?_
          case yaa5 => (intro w' hw'; go_simp; try (with_reducible rfl))
          simp only [Act.put]; try simp only [sA_, sZ_, sS_]
          refine wpAnyL_take (i := 6) (d := some 40) (v := .int .u8 (lb : Int)) rfl rfl (by kernel_rfl) (by kernel_rfl) (by kernel_rfl) (fun _ _ _ h => h) (by rfl) ?yaa6 ?_
          case yaa6 => (intro w' hw'; go_simp; try (intro h; exfalso; omega))
          simp only [Act.put]; try simp only [sA_, sZ_, sS_]
          refine wpAnyL_only (i := 7) rfl (by kernel_rfl) (by rfl) fun K hK => ?_
          go_simp
          refine (hI _).mono ?_
          rintro e w1 ⟨rfl, rfl⟩
          refine hK.out _ _ (Below.refl _ _) ?_
          clear hK K
          try (simp only [Act.put]; try simp only [sA_, sZ_, sS_])
          refine wpAnyL_take (i := 8) (d := some 11) (v := ?vaa8) rfl rfl (by kernel_rfl) (by kernel_rfl) (by kernel_rfl) (fun _ _ _ h => h) (by rfl) ?yaa8 ?_
          case yaa8 => (intro w' hw'; go_simp; try (with_reducible rfl))
          simp only [Act.put]; try simp only [sA_, sZ_, sS_]
          refine wpAnyL_done (by kernel_rfl) ?_ _
          go_wp2_with (fail)
          refine (?_ : bodyPost Tryz.prog Tryz.f145 (fun e w' => e = .returned (.int .i64 (-1)) ∧ Later wr w') .ret _ _)
          go_ret
          exact ⟨rfl, (Below.refl _ _).drew.drew⟩
      · have hlt' : ¬ ((q : Int) < (s.size : Int)) := by omega
        clear hget hs
        go_wp2_with (fail)
        go_step3
        go_wp2_with (fail)
        go_loopw [9] (fun v wr => v = .int .i64 (q : Int) ∧ wr = w') (fun _ _ => 0)
        case atStart => exact ⟨rfl, rfl⟩
        case round =>
          obtain ⟨rfl, rfl⟩ := hrel
          go_wp2_with (fail)
          rw [Exit.noGoto_ret]
          go_ret
          exact ⟨rfl, HL0.out⟩
end Go.Proofs.YtpckdhjnhnonhaaGreat
/- Sets of bytes: closures that capture bounds, texts, sets, lists of sets. -/
namespace Go.Proofs.YtpckdhjnhnonhaaGreat
open Go.RowKit

def Enters (F : FuncId) : Prop := ∀ (args : Array Value) (w : World), (callFunc F args).run Tryz.prog w = .ok (.enter F args) w
structure SetV where
  F : FuncId
  cs : Array Value
def SetV.val (v : SetV) : Value := .func (.func v.F) #[] v.cs
def SetAt (w : World) (v : SetV) (f : Nat → Bool) : Prop :=
  Enters v.F ∧ ∀ (W : World) (c : Nat), Later w W → c < 2147483648 → Calls Tryz.prog v.F (#[.int .i32 (c : Int)] ++ v.cs) W fun e W' => e = .returned (.bool (f c)) ∧ Later W W'
theorem SetAt.later {w w' : World} {v : SetV} {f : Nat → Bool} (h : SetAt w v f) (hl : Later w w') : SetAt w' v f := ⟨h.1, fun W c h1 => h.2 W c (hl.trans h1)⟩
def NewSet (w : World) (f : Nat → Bool) (e : Ending) (w' : World) : Prop := ∃ v : SetV, e = .returned v.val ∧ SetAt w' v f ∧ Later w w'

section
variable {w : World}
theorem cell_later {w W : World} {b : Nat} {v : Value} {t : TypeId} (h : w.heap[b]? = some (.cells #[v] t (0, 0))) (hl : Later w W) : W.cell? ⟨b, 0, none⟩ = some v := by
  have h2 := (Below.block hl b (lt_of_block h)).trans h
  have := cell_of_row W b 0 _ _ _ h2
  simpa using this

def betw (lo hi c : Nat) : Bool := decide (lo ≤ c) && decide (c ≤ hi)
theorem between1_any (W : World) (lo hi c b1 b2 : Nat) (h1 : W.cell? ⟨b1, 0, none⟩ = some (.int .i32 (lo : Int))) (h2 : W.cell? ⟨b2, 0, none⟩ = some (.int .i32 (hi : Int))) :
    Calls Tryz.prog 137 #[.int .i32 (c : Int), .pointer (some ⟨b1, 0, none⟩), .pointer (some ⟨b2, 0, none⟩)] W fun e W' => e = .returned (.bool (betw lo hi c)) ∧ Later W W' := by
  have HL := hide (Later.refl W)
  unfold betw
  go_enter Tryz.func137, Tryz.ntmps137
  by_cases hlo : lo ≤ c
  · by_cases hhi : c ≤ hi
    · have e1 : (lo : Int) ≤ (c : Int) := by omega
      have e2 : (c : Int) ≤ (hi : Int) := by omega
      go_wp2
      go_ret
      exact ⟨ret_bool (by simp [hlo, hhi]), HL.out⟩
    · have e1 : (lo : Int) ≤ (c : Int) := by omega
      have e2 : ¬ (c : Int) ≤ (hi : Int) := by omega
      go_wp2
      go_ret
      exact ⟨ret_bool (by simp), HL.out⟩
  · have e1 : ¬ (lo : Int) ≤ (c : Int) := by omega
    go_wp2
    go_ret
    exact ⟨ret_bool (by simp), HL.out⟩
theorem enters_between1 : Enters 137 := fun args w => by go_simp
theorem between_any (lo hi : Nat) : Calls Tryz.prog 126 #[.int .i32 (lo : Int), .int .i32 (hi : Int)] w (NewSet w (betw lo hi)) := by
  have X1 := hide (heap_alloc2_old w (.cells #[.int .i32 (lo : Int)] 21 (0, 0)) (.cells #[.int .i32 (hi : Int)] 21 (0, 0)))
  have X2 := hide (heap_alloc2_new w (.cells #[.int .i32 (lo : Int)] 21 (0, 0)) (.cells #[.int .i32 (hi : Int)] 21 (0, 0)))
  have HB : Hid (Later w ((w.alloc (.cells #[.int .i32 (lo : Int)] 21 (0, 0))).alloc (.cells #[.int .i32 (hi : Int)] 21 (0, 0)))) := ((Below.refl _ _).alloc (Nat.le_refl _) _).alloc (by simp) _
  go_enter Tryz.func126, Tryz.ntmps126
  go_wp2
  go_ret
  exact ⟨⟨137, #[.pointer (some ⟨w.heap.size, 0, none⟩), .pointer (some ⟨w.heap.size + 1, 0, none⟩)]⟩, rfl, ⟨enters_between1, fun W c hl _ => between1_any W lo hi c _ _ (cell_later X1.out hl) (cell_later X2.out hl)⟩, HB.out⟩
theorem letter_any : Calls Tryz.prog 107 #[] w (NewSet w smallB) := by
  have C := hide (between_any (w := w) 97 122)
  go_enter Tryz.func107, Tryz.ntmps107
  go_wp2_with (fail)
  refine C.out.mono ?_
  rintro e w1 ⟨v, rfl, hs, hl⟩
  have HS := hide hs
  have HL := hide hl
  clear hs hl C
  go_wp2
  go_ret
  exact ⟨v, rfl, HS.out, HL.out⟩
theorem digit_any : Calls Tryz.prog 128 #[] w (NewSet w digitB) := by
  have C := hide (between_any (w := w) 48 57)
  go_enter Tryz.func128, Tryz.ntmps128
  go_wp2_with (fail)
  refine C.out.mono ?_
  rintro e w1 ⟨v, rfl, hs, hl⟩
  have HS := hide hs
  have HL := hide hl
  clear hs hl C
  go_wp2
  go_ret
  exact ⟨v, rfl, HS.out, HL.out⟩

def hasB (s : List UInt8) (c : Nat) : Bool := decide (c < 128) && s.contains (UInt8.ofNat c)
theorem contains_rune (W : World) (l : List UInt8) (c : Nat) (hs : ∀ b ∈ l, b.toNat < 128) (hc : c < 2147483648) :
    Calls Tryz.prog 142 #[.string ⟨l.toArray⟩, .int .i32 (c : Int)] W fun e W' => e = .returned (.bool (hasB l c)) ∧ Later W W' := by
  by_cases h : c < 128
  · have C : Hid (Calls Tryz.prog 145 #[.string ⟨l.toArray⟩, .int .i32 (c : Int)] W fun e W' => e = .returned (.int .i64 (Lib.indexByte l (UInt8.ofNat c))) ∧ W' = W) :=
      (Any.strings_IndexRune_ascii (P := Tryz.prog) (ρ := Tryz.iruneA_ren) { Tryz.iruneA with } ⟨l.toArray⟩ (c : Int) W (by omega) (by omega)).mono fun e w' ⟨h1, h2⟩ => ⟨by rw [h1]; simp, h2⟩
    have e0 : hasB l c = decide (0 ≤ Lib.indexByte l (UInt8.ofNat c)) := by rw [ixb_yes, hasB]; simp [h]
    rw [e0]
    clear e0
    generalize Lib.indexByte l (UInt8.ofNat c) = z at C ⊢
    have HL := hide (Later.refl W)
    go_enter Tryz.func142, Tryz.ntmps142
    go_wp2_with (fail)
    refine C.out.mono ?_
    rintro e w1 ⟨rfl, rfl⟩
    clear C
    go_wp2
    go_ret
    exact ⟨rfl, HL.out⟩
  · have C := hide (irune_high ⟨l.toArray⟩ c W (by simpa using hs) (by omega) hc)
    have e0 : hasB l c = false := by simp [hasB, h]
    rw [e0]
    clear e0
    go_enter Tryz.func142, Tryz.ntmps142
    go_wp2_with (fail)
    refine C.out.mono ?_
    rintro e w1 ⟨rfl, hl⟩
    have HL := hide hl
    clear C hl
    go_wp2
    go_ret
    exact ⟨rfl, HL.out⟩
theorem among1_any (W : World) (l : List UInt8) (c b : Nat) (h : W.cell? ⟨b, 0, none⟩ = some (.string ⟨l.toArray⟩)) (hs : ∀ b ∈ l, b.toNat < 128) (hc : c < 2147483648) :
    Calls Tryz.prog 141 #[.int .i32 (c : Int), .pointer (some ⟨b, 0, none⟩)] W fun e W' => e = .returned (.bool (hasB l c)) ∧ Later W W' := by
  have C := hide (contains_rune W l c hs hc)
  clear hs hc
  go_enter Tryz.func141, Tryz.ntmps141
  go_wp2_with (fail)
  refine C.out.mono ?_
  rintro e w1 ⟨rfl, hl⟩
  have HL := hide hl
  clear C hl h
  go_wp2
  go_ret
  exact ⟨rfl, HL.out⟩
theorem enters_among1 : Enters 141 := fun args w => by go_simp
theorem among_any (l : List UInt8) (hs : ∀ b ∈ l, b.toNat < 128) : Calls Tryz.prog 129 #[.string ⟨l.toArray⟩] w (NewSet w (hasB l)) := by
  have X1 := hide (heap_alloc_new w (.cells #[.string ⟨l.toArray⟩] 9 (0, 0)))
  have HB : Hid (Later w (w.alloc (.cells #[.string ⟨l.toArray⟩] 9 (0, 0)))) := (Below.refl _ _).alloc (Nat.le_refl _) _
  have HS := hide hs
  clear hs
  go_enter Tryz.func129, Tryz.ntmps129
  go_wp2
  go_ret
  exact ⟨⟨141, #[.pointer (some ⟨w.heap.size, 0, none⟩)]⟩, rfl, ⟨enters_among1, fun W c hl hc => among1_any W l c _ (cell_later X1.out hl) HS.out hc⟩, HB.out⟩

end
end Go.Proofs.YtpckdhjnhnonhaaGreat
/- A set that is one of several: the library's ContainsFunc at closures. -/
namespace Go.Proofs.YtpckdhjnhnonhaaGreat
open Go.RowKit

def SetsAt (w : World) (v : Value) (l : List (SetV × (Nat → Bool))) : Prop := FlatAt (fun _ => True) w 1 v l.length (l.map fun p => p.1.val) ∧ ∀ p ∈ l, SetAt w p.1 p.2
theorem SetsAt.later {w w' : World} {v : Value} {l : List (SetV × (Nat → Bool))} (h : SetsAt w v l) (hl : Later w w') : SetsAt w' v l := ⟨h.1.kept (Kept.of_below hl _), fun p hp => (h.2 p hp).later hl⟩
theorem SetsAt.at_ {w : World} {A : Option Addr} {n cap : Nat} {l : List (SetV × (Nat → Bool))} (h : SetsAt w (.slice A n cap) l) {i : Nat} (hi : i < n) :
    ∃ b off p, A = some ⟨b, off, none⟩ ∧ n ≤ cap ∧ l[i]? = some p ∧ b < w.heap.size ∧ w.cell? ⟨b, off + i, none⟩ = some p.1.val ∧ SetAt w p.1 p.2 := by
  have hn : n = l.length := by obtain ⟨A', c', e, _⟩ := h.1.shape; injection e
  subst hn
  obtain ⟨b, off, c, hv, hc, _, hb, hr⟩ := h.1.elem hi
  injection hv with e1 _ e3
  subst e1 e3
  have hp : l[i]? = some l[i] := List.getElem?_eq_getElem hi
  refine ⟨b, off, l[i], rfl, hc, hp, hb, ?_, h.2 _ (List.getElem_mem hi)⟩
  have := hr 0 l[i].1.val (by simp [hi])
  simpa using this

section
variable {w : World}
theorem either11_any (W : World) (v : SetV) (f : Nat → Bool) (c b : Nat) (h : W.cell? ⟨b, 0, none⟩ = some (.int .i32 (c : Int))) (hv : SetAt W v f) (hc : c < 2147483648) :
    Calls Tryz.prog 140 #[v.val, .pointer (some ⟨b, 0, none⟩)] W fun e W' => e = .returned (.bool (f c)) ∧ Later W W' := by
  have C := hide (hv.2 W c (Later.refl _) hc)
  have eg := hv.1
  obtain ⟨F, cs⟩ := v
  unfold Enters at eg
  unfold SetV.val
  simp only at eg C
  clear hv hc
  go_enter Tryz.func140, Tryz.ntmps140
  go_wp2_with (fail)
  refine C.out.mono ?_
  rintro e w1 ⟨rfl, hl⟩
  have HL := hide hl
  clear C hl h eg
  go_wp2
  go_ret
  exact ⟨rfl, HL.out⟩
theorem enters_either11 : Enters 140 := fun args w => by go_simp

set_option maxHeartbeats 2000000 in
set_option maxRecDepth 100000 in
theorem index_sets {A : Option Addr} {n cap b c : Nat} {l : List (SetV × (Nat → Bool))} (hb : w.heap[b]? = some (.cells #[.int .i32 (c : Int)] 21 (0, 0))) (h : SetsAt w (.slice A n cap) l) (hn : n = l.length) (hc : c < 2147483648) (hs : n ≤ 100) :
    Calls Tryz.prog 144 #[.slice A n cap, .func (.func 140) #[] #[.pointer (some ⟨b, 0, none⟩)]] w fun e w' => ∃ i : Int, e = .returned (.int .i64 i) ∧ decide (0 ≤ i) = l.any (fun p => p.2 c) ∧ Later w w' := by
  have H := hide h
  have HN := hide hn
  have HB := hide hb
  have eg : ∀ (args : Array Value) (w : World), (callFunc 140 args).run Tryz.prog w = .ok (.enter 140 args) w := enters_either11
  clear h hn hb
  go_enter Tryz.func144, Tryz.ntmps144
  go_wp2
  go_loopw [8] (fun i wr => ∃ q : Nat, q ≤ n ∧ i = .int .i64 (q : Int) ∧ (l.take q).any (fun p => p.2 c) = false ∧ Later w wr) (fun i _ => n - (Go.RowKit.intOf i).toNat)
  case atStart => exact ⟨0, by omega, rfl, by simp, Later.refl _⟩
  case round =>
    obtain ⟨q, hq, rfl, hall, hlat⟩ := hrel
    have HA := hide hall
    have HL := hide hlat
    clear hall hlat
    by_cases hlt : q < n
    · obtain ⟨k, off, p, rfl, hnc, hp, hkb, hcell, hset⟩ := (H.out.later HL.out).at_ hlt
      have HP := hide hp
      have C := hide (either11_any wr p.1 p.2 c b (cell_later HB.out HL.out) hset hc)
      obtain ⟨t, ht⟩ : ∃ t, p.2 c = t := ⟨_, rfl⟩
      rw [ht] at C
      have HT := hide ht
      obtain ⟨vv, hvv⟩ : ∃ vv, p.1.val = vv := ⟨_, rfl⟩
      rw [hvv] at C hcell
      have hone : vv.oneCell' = true := by rw [← hvv]; rfl
      clear hp ht hset hvv
      go_wp2_with (fail)
      refine C.out.mono ?_
      rintro e w1 ⟨rfl, hl⟩
      have HL1 := hide (HL.out.trans hl)
      clear hl C hcell
      cases t with
      | false =>
        go_wp2
        go_roundw
        case rel =>
          refine ⟨q + 1, by omega, by go_num, ?_, HL1.out⟩
          rw [List.take_add_one, HP.out, List.any_append, HA.out]
          simp [HT.out]
        case measure => simp [Go.RowKit.intOf]; omega
      | true =>
        go_wp2
        go_ret
        refine ⟨(q : Int), rfl, ?_, HL1.out⟩
        have hyes : l.any (fun p => p.2 c) = true := by
          rw [List.any_eq_true]
          exact ⟨p, List.mem_of_getElem? HP.out, HT.out⟩
        rw [hyes]
        simp
    · have hall : l.any (fun p => p.2 c) = false := by
        have h1 := HA.out
        rwa [List.take_of_length_le (by have := HN.out; omega)] at h1
      have HALL := hide hall
      clear hall
      go_wp2
      go_ret
      exact ⟨-1, rfl, by rw [HALL.out]; decide, HL.out⟩
theorem contains_sets {A : Option Addr} {n cap b c : Nat} {l : List (SetV × (Nat → Bool))} (hb : w.heap[b]? = some (.cells #[.int .i32 (c : Int)] 21 (0, 0))) (h : SetsAt w (.slice A n cap) l) (hn : n = l.length) (hc : c < 2147483648) (hs : n ≤ 100) :
    Calls Tryz.prog 139 #[.slice A n cap, .func (.func 140) #[] #[.pointer (some ⟨b, 0, none⟩)]] w fun e w' => e = .returned (.bool (l.any (fun p => p.2 c))) ∧ Later w w' := by
  have C := hide (index_sets hb h hn hc hs)
  clear h hn hb
  go_enter Tryz.func139, Tryz.ntmps139
  go_wp2_with (fail)
  refine C.out.mono ?_
  rintro e w1 ⟨i, rfl, hi, hl⟩
  have HI := hide hi
  have HL := hide hl
  clear hi hl C
  go_wp2
  go_ret
  exact ⟨ret_bool HI.out, HL.out⟩
theorem either1_any (W : World) {A : Option Addr} {n cap b c : Nat} {l : List (SetV × (Nat → Bool))} (hb : W.cell? ⟨b, 0, none⟩ = some (.slice A n cap)) (h : SetsAt W (.slice A n cap) l) (hn : n = l.length) (hc : c < 2147483648) (hs : n ≤ 100) :
    Calls Tryz.prog 138 #[.int .i32 (c : Int), .pointer (some ⟨b, 0, none⟩)] W fun e w' => e = .returned (.bool (l.any (fun p => p.2 c))) ∧ Later W w' := by
  have HB : Hid (Later W (W.alloc (.cells #[.int .i32 (c : Int)] 21 (0, 0)))) := (Below.refl _ _).alloc (Nat.le_refl _) _
  have X1 := heap_alloc_new W (.cells #[.int .i32 (c : Int)] 21 (0, 0))
  have C := hide (contains_sets X1 (h.later HB.out) hn hc hs)
  have hlt : b < W.heap.size := by
    rcases Nat.lt_or_ge b W.heap.size with h1 | h1
    · exact h1
    · simp [World.cell?, Array.getElem?_eq_none h1] at hb
  have hcell := (Below.cell HB.out (p := ⟨b, 0, none⟩) hlt).trans hb
  clear X1 h hn hb
  go_enter Tryz.func138, Tryz.ntmps138
  go_wp2_with (fail)
  refine C.out.mono ?_
  rintro e w1 ⟨rfl, hl⟩
  have HL := hide (HB.out.trans hl)
  clear hl C
  go_wp2
  go_ret
  exact ⟨rfl, HL.out⟩
theorem enters_either1 : Enters 138 := fun args w => by go_simp
theorem either_any {A : Option Addr} {n cap : Nat} {l : List (SetV × (Nat → Bool))} (h : SetsAt w (.slice A n cap) l) (hn : n = l.length) (hs : n ≤ 100) :
    Calls Tryz.prog 127 #[.slice A n cap] w (NewSet w fun c => l.any (fun p => p.2 c)) := by
  have X1 := hide (heap_alloc_new w (.cells #[.slice A n cap] 167 (0, 0)))
  have HB : Hid (Later w (w.alloc (.cells #[.slice A n cap] 167 (0, 0)))) := (Below.refl _ _).alloc (Nat.le_refl _) _
  have H := hide h
  have HN := hide hn
  clear h hn
  go_enter Tryz.func127, Tryz.ntmps127
  go_wp2
  go_ret
  exact ⟨⟨138, #[.pointer (some ⟨w.heap.size, 0, none⟩)]⟩, rfl, ⟨enters_either1, fun W c hl hc => either1_any W (cell_later X1.out hl) (H.out.later (HB.out.trans hl)) HN.out hc hs⟩, HB.out⟩
end
end Go.Proofs.YtpckdhjnhnonhaaGreat
/- Worlds of which all but one block is as it was; objects of the call's own that are written again and again. -/
namespace Go.Proofs.YtpckdhjnhnonhaaGreat
open Go.RowKit

theorem grown_set (w : World) (g o : Nat) (v : Value) : w.grownBy (w.setCell ⟨g, o, none⟩ v) (some g) :=
  ⟨rfl, rfl, rfl, by simp [World.setCell], fun i hi hne => Below.heap_setCell _ _ _ _ (fun e => hne (by rw [e]))⟩
theorem below_drewN (B : Nat) (w : World) (n : Nat) : Below B w (w.drewN n) := ⟨rfl, rfl, rfl, Nat.le_refl _, fun _ _ => rfl⟩
def BlockAt (T : TypeId) (w : World) (g : Nat) (cs : List Value) : Prop := w.heap[g]? = some (.cells cs.toArray T (0, 0))
section
variable {T : TypeId} {w w' : World} {g : Nat} {cs : List Value}
theorem BlockAt.lt (h : BlockAt T w g cs) : g < w.heap.size := lt_of_block h
theorem BlockAt.cell (h : BlockAt T w g cs) {i : Nat} {v : Value} (hi : cs[i]? = some v) : w.cell? ⟨g, i, none⟩ = some v := by
  have h' : w.heap[g]? = some (.cells cs.toArray T (0, 0)) := h
  simp [World.cell?, h', hi]
theorem BlockAt.free (h : BlockAt T w g cs) (i : Nat) : w.frozen? ⟨g, i, none⟩ = false := by
  have h' : w.heap[g]? = some (.cells cs.toArray T (0, 0)) := h
  simp [World.frozen?, h']
theorem BlockAt.set (h : BlockAt T w g cs) (i : Nat) (v : Value) : BlockAt T (w.setCell ⟨g, i, none⟩ v) g (cs.set i v) := by
  have hlt := h.lt
  have h' : w.heap[g] = .cells cs.toArray T (0, 0) := by
    have h2 : w.heap[g]? = some (.cells cs.toArray T (0, 0)) := h
    simpa [Array.getElem?_eq_getElem hlt] using h2
  show (w.heap.modify g _)[g]? = _
  rw [Array.getElem?_eq_getElem (by simpa using hlt), Array.getElem_modify_self, h']
  simp
theorem BlockAt.kept (h : BlockAt T w g cs) (hk : w'.heap[g]? = w.heap[g]?) : BlockAt T w' g cs := by
  show w'.heap[g]? = _
  rw [hk]
  exact h
theorem BlockAt.below {B : Nat} (h : BlockAt T w g cs) (hb : Below B w w') (hg : g < B) : BlockAt T w' g cs := h.kept (hb.block g hg)
theorem BlockAt.other {r : Option Nat} (h : BlockAt T w g cs) (hg : w.grownBy w' r) (hr : some g ≠ r) : BlockAt T w' g cs := h.kept (hg.block g h.lt hr)
end
end Go.Proofs.YtpckdhjnhnonhaaGreat
/- Blocks that are known whole: a struct read out of one, a struct written into one, at an operation; results that lie in such blocks. -/
namespace Go.Proofs.YtpckdhjnhnonhaaGreat
open Go.RowKit

def putAt : Array Value → Nat → List Value → Array Value
  | cs, _, [] => cs
  | cs, o, v :: r => putAt (cs.setIfInBounds o v) (o + 1) r

theorem heap_setCells (b : Nat) {T : TypeId} : ∀ (vs : List Value) (o : Nat) (w : World) (cs : Array Value), w.heap[b]? = some (.cells cs T (0, 0)) → (w.setCells b o vs).heap[b]? = some (.cells (putAt cs o vs) T (0, 0))
  | [], _, _, _, h => h
  | v :: r, o, w, cs, h => heap_setCells b r (o + 1) _ _ (heap_setCell_same w b o cs T v h)
theorem grown_setCells (b : Nat) : ∀ (vs : List Value) (o : Nat) (w : World), w.grownBy (w.setCells b o vs) (some b)
  | [], _, w => World.grownBy.refl w _
  | v :: r, o, w => by
    have h1 : w.grownBy (w.setCell ⟨b, o, none⟩ v) (some b) := ⟨rfl, rfl, rfl, by simp [World.setCell], fun i hi hne => heap_setCell_other _ _ _ _ (fun e => hne (by rw [e]))⟩
    exact h1.trans (grown_setCells b r (o + 1) _)

section
variable {P : Program} {ops : Array Oper} {rest : List Oper} {op : Oper} {a : Act} {w : World} {Q : Exit → Act → World → Prop}

theorem wpList_load_box (hgd : op.guard = none) (ty : TypeId) (x : Operand) (ho : op.op = .load ty x)
    (g o : Nat) (hx : a.eval x = .pointer (some ⟨g, o, none⟩)) (T : TypeId) (cs : Array Value) (hg : w.heap[g]? = some (.cells cs T (0, 0))) (n : Nat) (d : TypeDesc)
    (hu : P.underlying ty = some d) (hd : d.isRow = true) (hi : (P.info? ty).map (·.size) = some n) (part : List Value) (hp : (cs.toList.drop o).take n = part) (hn : part.length = n)
    (h : wpList P ops Q rest (a.put op.dst (.agg part.toArray)) w) : wpList P ops Q (op :: rest) a w :=
  wpList_load_mid hgd ty x ho g o hx part d (fun j v hv => by
    rw [cell_of_row w g (o + j) cs T (0, 0) hg]
    have hj : j < n := by rw [← hn]; exact (List.getElem?_eq_some_iff.1 hv).1
    rw [← hp, List.getElem?_take_of_lt hj, List.getElem?_drop] at hv
    simpa using hv) hu hd (by rw [hn]; exact hi) h

theorem wpList_store_box (hgd : op.guard = none) (ty : TypeId) (x y : Operand) (ho : op.op = .store ty x y)
    (g o : Nat) (cells : Array Value) (hx : a.eval x = .pointer (some ⟨g, o, none⟩)) (hy : a.eval y = .agg cells) (T : TypeId) (cs : Array Value) (hg : w.heap[g]? = some (.cells cs T (0, 0)))
    (hi : (P.info? ty).map (·.size) = some cells.size) (hfit : o + cells.size ≤ cs.size) (h1 : ∀ u ∈ cells.toList, u.oneCell' = true)
    (h : ∀ w', w'.heap[g]? = some (.cells (putAt cs o cells.toList) T (0, 0)) → w.grownBy w' (some g) → wpList P ops Q rest (a.put op.dst undef) w') : wpList P ops Q (op :: rest) a w :=
  wpList_store_mid hgd ty x y ho g o cells hx hy (fun j hj => ⟨by rw [cell_of_row w g (o + j) cs T (0, 0) hg]; simp; omega, frozen_of_row w g _ cs T hg⟩) hi
    (Array.all_eq_true_iff_forall_mem.2 fun v hv => h1 v (by simpa using hv)) (h _ (heap_setCells g _ o w cs hg) (grown_setCells g _ o w))
end

section
variable {P : Program} {op : Oper} {a : Act} {w : World}
theorem exec_load_box (ty : TypeId) (x : Operand) (ho : op.op = .load ty x)
    (g o : Nat) (hx : a.eval x = .pointer (some ⟨g, o, none⟩)) (T : TypeId) (cs : Array Value) (hg : w.heap[g]? = some (.cells cs T (0, 0))) (n : Nat) (d : TypeDesc)
    (hu : P.underlying ty = some d) (hd : d.isRow = true) (hi : (P.info? ty).map (·.size) = some n) (part : List Value) (hp : (cs.toList.drop o).take n = part) (hn : part.length = n) :
    (execOp a.eval op).run P w = .ok (.value (.agg part.toArray)) w := by
  have hr : w.rangeAt g o part := fun j v hv => by
    rw [cell_of_row w g (o + j) cs T (0, 0) hg]
    have hj : j < n := by rw [← hn]; exact (List.getElem?_eq_some_iff.1 hv).1
    rw [← hp, List.getElem?_take_of_lt hj, List.getElem?_drop] at hv
    simpa using hv
  unfold execOp
  simp only [ho, hx, Instr.loadAt, Instr.sureAddr, Sem.run_bind, Sem.run_pure, Result.andThen_ok, run_loadVar_mid w g o ty part d hr hu hd (by rw [hn]; exact hi)]
theorem exec_load_range (ty : TypeId) (x : Operand) (ho : op.op = .load ty x)
    (g o : Nat) (hx : a.eval x = .pointer (some ⟨g, o, none⟩)) (part : List Value) (hr : w.rangeAt g o part) (d : TypeDesc)
    (hu : P.underlying ty = some d) (hd : d.isRow = true) (hi : (P.info? ty).map (·.size) = some part.length) :
    (execOp a.eval op).run P w = .ok (.value (.agg part.toArray)) w := by
  unfold execOp
  simp only [ho, hx, Instr.loadAt, Instr.sureAddr, Sem.run_bind, Sem.run_pure, Result.andThen_ok, run_loadVar_mid w g o ty part d hr hu hd hi]
theorem wp_store_box {K : Act → World → Prop} {Q : Exit → Act → World → Prop} (ty : TypeId) (x y : Operand) (ho : op.op = .store ty x y)
    (g o : Nat) (cells : Array Value) (hx : a.eval x = .pointer (some ⟨g, o, none⟩)) (hy : a.eval y = .agg cells) (T : TypeId) (cs : Array Value) (hg : w.heap[g]? = some (.cells cs T (0, 0)))
    (hi : (P.info? ty).map (·.size) = some cells.size) (hfit : o + cells.size ≤ cs.size) (h1 : ∀ u ∈ cells.toList, u.oneCell' = true)
    (h : ∀ w', w'.heap[g]? = some (.cells (putAt cs o cells.toList) T (0, 0)) → w.grownBy w' (some g) → K (a.put op.dst undef) w') : op.wp P a w K Q :=
  wp_store_mid ty x y ho g o cells hx hy (fun j hj => ⟨by rw [cell_of_row w g (o + j) cs T (0, 0) hg]; simp; omega, frozen_of_row w g _ cs T hg⟩) hi
    (Array.all_eq_true_iff_forall_mem.2 fun v hv => h1 v (by simpa using hv)) (h _ (heap_setCells g _ o w cs hg) (grown_setCells g _ o w))
end

theorem putAt_toList : ∀ (vs : List Value) (o : Nat) (cs : Array Value), o + vs.length ≤ cs.size → (putAt cs o vs).toList = cs.toList.take o ++ vs ++ cs.toList.drop (o + vs.length)
  | [], o, cs, _ => by simp [putAt]
  | v :: r, o, cs, h => by
    have hlt : o < cs.size := by simp at h; omega
    have ih := putAt_toList r (o + 1) (cs.setIfInBounds o v) (by simp at h ⊢; omega)
    rw [putAt, ih, Array.toList_setIfInBounds, List.take_succ_eq_append_getElem (by simpa using hlt), List.take_set_of_le (Nat.le_refl _), List.drop_set_of_lt (by omega)]
    simp [Nat.add_assoc, Nat.add_comm 1]
section
variable {P : Program}
theorem results_box2 {fn : Func} {p q : Tmp} {ty : TypeId} (h : fn.results = #[.cell p ty, .tmp q]) (tmps : Array Value) (w : World) (g : Nat) (T : TypeId) (cs : Array Value) (d : TypeDesc)
    (hp : tmps.getD p undef = .pointer (some ⟨g, 0, none⟩)) (hg : w.heap[g]? = some (.cells cs T (0, 0)))
    (hu : P.underlying ty = some d) (hd : (match d with | .struct _ | .array _ _ => true | _ => false) = true) (hi : (P.info? ty).map (·.size) = some cs.size) (v : Value) (hv : tmps.getD q undef = v) :
    (results fn tmps).run P w = .ok (.tuple #[.agg cs, v]) w := by
  have hp' : tmps[p]?.getD undef = .pointer (some ⟨g, 0, none⟩) := by simpa using hp
  have hv' : tmps[q]?.getD undef = v := by simpa using hv
  simp [results, h, hp', hv', asAddr, run_loadVar_row w g T ty cs (0, 0) d hg hu hd hi]
end
end Go.Proofs.YtpckdhjnhnonhaaGreat
/- A slice of one struct, made by a literal. -/
namespace Go.Proofs.YtpckdhjnhnonhaaGreat
open Go.RowKit

theorem fold_put : ∀ (vs : List Value) (n : Nat) (Z : Array Value), (vs.zipIdx n).foldl (fun cs (x : Value × Nat) => cs.setIfInBounds x.2 x.1) Z = putAt Z n vs
  | [], _, _ => rfl
  | v :: r, n, Z => by rw [List.zipIdx_cons, List.foldl_cons, fold_put r (n + 1), putAt]
theorem put_whole (cells Z : Array Value) (h : Z.size = cells.size) : putAt Z 0 cells.toList = cells := by
  apply Array.ext'
  rw [putAt_toList _ _ _ (by simp; omega)]
  simp [h]

section
variable {P : Program} {w : World}
theorem run_buildSlice_one (t e : TypeId) (i : TypeInfo) (z : Value) (k : Nat) (ht : P.underlying t = some (.slice e)) (hi : P.info? e = some i) (hz : i.zero = some z) (hs : i.size = k) (hk : 0 < k) (hk2 : k ≤ 16777216)
    (cells : Array Value) (hc : cells.size = k) :
    (Instr.buildSlice t 1 #[(0, .agg cells)]).run P w = .ok (.slice (some ⟨w.heap.size, 0, none⟩) 1 1) (w.alloc (.cells cells e (0, 0))) := by
  subst hs
  have hne : ¬ (i.size = 0) := by omega
  have hbig : ¬ (16777216 < i.size) := by omega
  have hfold : ∀ Z : Array Value, Z.size = i.size → Array.foldl (fun cs (x : Value × Nat) => cs.setIfInBounds x.2 x.1) Z cells.zipIdx 0 i.size = cells := fun Z hZ => by
    have h1 := fold_put cells.toList 0 Z
    rw [put_whole cells Z (by omega)] at h1
    rw [show i.size = cells.zipIdx.size from by simp [hc], ← Array.foldl_toList]
    simpa using h1
  simp [Instr.buildSlice, run_underlying ht, sizeOf, typeInfo, hi, hne, hbig, zeroValue, hz, Instr.fill, Value.cells, hc, newRow]
  rw [hfold _ (by simp)]

theorem wpList_buildSlice_one {ops : Array Oper} {rest : List Oper} {op : Oper} {a : Act} {Q : Exit → Act → World → Prop} (hgd : op.guard = none) (t e : TypeId) (x : Operand) (ho : op.op = .buildSlice t 1 #[(0, x)]) (i : TypeInfo) (z : Value) (k : Nat) (ht : P.underlying t = some (.slice e)) (hi : P.info? e = some i) (hz : i.zero = some z) (hs : i.size = k) (hk : 0 < k) (hk2 : k ≤ 16777216)
    (cells : Array Value) (hx : a.eval x = .agg cells) (hc : cells.size = k)
    (h : wpList P ops Q rest (a.put op.dst (.slice (some ⟨w.heap.size, 0, none⟩) 1 1)) (w.alloc (.cells cells e (0, 0)))) : wpList P ops Q (op :: rest) a w := by
  refine wpList_plain hgd fun K hK => ?_
  have hr := run_buildSlice_one (P := P) (w := w) t e i z k ht hi hz hs hk hk2 cells hc
  unfold Oper.wp
  simp [execOp, ho, hx, hr, Result.andThen]
  exact hK _ _ h
end
end Go.Proofs.YtpckdhjnhnonhaaGreat
/- A slice of two structs, made by a literal. -/
namespace Go.Proofs.YtpckdhjnhnonhaaGreat
open Go.RowKit
section
variable {P : Program} {w : World}
end
end Go.Proofs.YtpckdhjnhnonhaaGreat
/- A slice of some structs, made by a literal. -/
namespace Go.Proofs.YtpckdhjnhnonhaaGreat
open Go.RowKit

section
variable {P : Program} {w : World}
end
end Go.Proofs.YtpckdhjnhnonhaaGreat
/- The parts that a text consists of: what each begins with, and goes on with. -/
namespace Go.Proofs.YtpckdhjnhnonhaaGreat
open Go.RowKit

theorem hasB_eq (l : List UInt8) (hl : ∀ b ∈ l, b.toNat < 128) (c : Nat) : hasB l c = l.any (fun b => c == b.toNat) := by
  unfold hasB
  by_cases h : c < 128
  · have e : ∀ b ∈ l, (b == UInt8.ofNat c) = (c == b.toNat) := fun b _ => by
      have hc : (UInt8.ofNat c).toNat = c := by simp; omega
      rw [Bool.eq_iff_iff, beq_iff_eq, beq_iff_eq]
      exact ⟨fun e => by rw [e, hc], fun e => UInt8.toNat_inj.1 (by rw [hc, e])⟩
    have h1 : decide (c < 128) = true := by simpa using h
    rw [h1, Bool.true_and]
    clear h1
    induction l with
    | nil => rfl
    | cons b l ih =>
      rw [List.contains_cons, List.any_cons, ih (fun x hx => hl x (by simp [hx])) (fun x hx => e x (by simp [hx])), ← e b (by simp)]
      congr 1
      exact Bool.eq_iff_iff.2 ⟨fun h => by simpa using (by simpa using h : UInt8.ofNat c = b).symm, fun h => by simpa using (by simpa using h : b = UInt8.ofNat c).symm⟩
  · have h1 : decide (c < 128) = false := by simpa using h
    rw [h1, Bool.false_and]
    symm
    rw [List.any_eq_false]
    intro b hb
    have := hl b hb
    simp
    omega
theorem has_name : (fun c => hasB [45, 95] c) = fun c => (c == 45 || c == 95) := funext fun c => by
  rw [hasB_eq [45, 95] (by decide)]
  simp
section
variable {w : World}
set_option maxHeartbeats 1000000 in
theorem ofName_any : Calls Tryz.prog 108 #[] w (NewSet w partB) := by
  have C1 := hide (letter_any (w := w))
  go_enter Tryz.func108, Tryz.ntmps108
  go_wp2_with (fail)
  refine C1.out.mono ?_
  rintro e w1 ⟨v1, rfl, hs1, hl1⟩
  have S1 := hide hs1
  have L1 := hide hl1
  clear hs1 hl1 C1
  go_wp2_with (fail)
  refine (digit_any (w := w1)).mono ?_
  rintro e w2 ⟨v2, rfl, hs2, hl2⟩
  have S2 := hide hs2
  have S12 := hide (S1.out.later hl2)
  have L2 := hide (L1.out.trans hl2)
  clear hs2 hl2 S1 L1
  go_wp2_with (fail)
  refine (among_any (w := w2) [45, 95] (by decide)).mono ?_
  rintro e w3 ⟨v3, rfl, hs3, hl3⟩
  have S3 := hide hs3
  have S23 := hide (S2.out.later hl3)
  have S13 := hide (S12.out.later hl3)
  have L3 := hide (L2.out.trans hl3)
  clear hs3 hl3 S2 S12 L2
  have HB : Hid (Later w3 (w3.alloc (.cells #[v1.val, v2.val, v3.val] 140 (0, 0)))) := (Below.refl _ _).alloc (Nat.le_refl _) _
  have X1 := hide (heap_alloc_new w3 (.cells #[v1.val, v2.val, v3.val] 140 (0, 0)))
  have H : Hid (SetsAt (w3.alloc (.cells #[v1.val, v2.val, v3.val] 140 (0, 0))) (.slice (some ⟨w3.heap.size, 0, none⟩) 3 3) [(v1, smallB), (v2, digitB), (v3, hasB [45, 95])]) := by
    refine ⟨⟨rfl, ?_, some ⟨w3.heap.size, 0, none⟩, 3, rfl, Nat.le_refl _, by unfold maxLen; omega, (fun h => by cases h), fun _ => ⟨w3.heap.size, 0, rfl, trivial, lt_of_block X1.out, fun j u hj => ?_⟩⟩, ?_⟩
    · intro u hu
      simp at hu
      rcases hu with rfl | rfl | rfl <;> rfl
    · rw [cell_of_row _ _ _ _ _ _ X1.out, Nat.zero_add]
      simpa using hj
    · intro p hp
      simp at hp
      rcases hp with rfl | rfl | rfl
      · exact S13.out.later HB.out
      · exact S23.out.later HB.out
      · exact S3.out.later HB.out
  have C := hide (either_any H.out rfl (by omega))
  clear X1 S3 S13 S23 H
  unfold SetV.val at *
  go_wp2_with (fail)
  refine C.out.mono ?_
  rintro e w4 ⟨v4, rfl, hs4, hl4⟩
  have S4 := hide hs4
  have L4 := hide (L3.out.trans (HB.out.trans hl4))
  clear hs4 hl4 C
  go_wp2
  go_ret
  refine ⟨v4, rfl, ?_, L4.out⟩
  have e : (fun c => [(v1, smallB), (v2, digitB), (v3, hasB [45, 95])].any (fun p => p.2 c)) = partB := funext fun c => by
    have := congrFun has_name c
    simp only [List.any_cons, List.any_nil, Bool.or_false, this]
    rfl
  have := S4.out
  rwa [e] at this
end
end Go.Proofs.YtpckdhjnhnonhaaGreat
/- The list of the parts of a text, in memory. -/
namespace Go.Proofs.YtpckdhjnhnonhaaGreat
open Go.RowKit

structure PartD where
  k : Nat
  b : SetV
  g : SetV
  fb : Nat → Bool
  fg : Nat → Bool
namespace PartD
def cells (p : PartD) : List Value := [.int .i64 (p.k : Int), p.b.val, p.g.val]
theorem one (p : PartD) : ∀ u ∈ p.cells, u.oneCell' = true := by simp [cells, SetV.val, Value.oneCell']
end PartD
def PartsAt (w : World) (v : Value) (l : List PartD) : Prop := FlatAt (fun _ => True) w 3 v l.length (l.flatMap PartD.cells) ∧ ∀ p ∈ l, SetAt w p.b p.fb ∧ SetAt w p.g p.fg
theorem PartsAt.later {w w' : World} {v : Value} {l : List PartD} (h : PartsAt w v l) (hl : Later w w') : PartsAt w' v l := ⟨h.1.kept (Kept.of_below hl _), fun p hp => ⟨(h.2 p hp).1.later hl, (h.2 p hp).2.later hl⟩⟩
theorem PartsAt.at_ {w : World} {A : Option Addr} {n cap : Nat} {l : List PartD} (h : PartsAt w (.slice A n cap) l) {i : Nat} (hi : i < n) :
    ∃ b off p, A = some ⟨b, off, none⟩ ∧ n ≤ cap ∧ l[i]? = some p ∧ b < w.heap.size ∧ w.rangeAt b (off + i * 3) p.cells ∧ SetAt w p.b p.fb ∧ SetAt w p.g p.fg := by
  have hn : n = l.length := by obtain ⟨A', c', e, _⟩ := h.1.shape; injection e
  subst hn
  obtain ⟨b, off, c, hv, hc, _, hb, hr⟩ := h.1.elem hi
  injection hv with e1 _ e3
  subst e1 e3
  have hp : l[i]? = some l[i] := List.getElem?_eq_getElem hi
  refine ⟨b, off, l[i], rfl, hc, hp, hb, ?_, h.2 _ (List.getElem_mem hi)⟩
  rwa [flat_get PartD.cells 3 l i l[i] (fun _ _ => rfl) hp] at hr
def sorts : List (Nat × (Nat → Bool) × (Nat → Bool)) := [(1, smallB, partB), (2, digitB, digitB), (3, signB, fun _ => false), (0, blankB, fun _ => false), (0, fun c => c == 35, fun c => c != 10)]
def SortsAt (w : World) (v : Value) : Prop := ∃ l : List PartD, PartsAt w v l ∧ l.map (fun p => (p.k, p.fb, p.fg)) = sorts
theorem SortsAt.later {w w' : World} {v : Value} (h : SortsAt w v) (hl : Later w w') : SortsAt w' v := let ⟨l, h1, h2⟩ := h; ⟨l, h1.later hl, h2⟩

section
variable {w : World}
end
end Go.Proofs.YtpckdhjnhnonhaaGreat
/- Which part a byte begins; how many bytes of a text a part takes; tokens. -/
namespace Go.Proofs.YtpckdhjnhnonhaaGreat
open Go.RowKit

section
variable {w : World}
theorem later_cell {W w' : World} {b o : Nat} {v : Value} (h : Later W w') (hc : W.cell? ⟨b, o, none⟩ = some v) : w'.cell? ⟨b, o, none⟩ = some v := by
  have hb : b < W.heap.size := by
    rcases Nat.lt_or_ge b W.heap.size with h1 | h1
    · exact h1
    · simp [World.cell?, Array.getElem?_eq_none h1] at hc
  exact (Below.cell h (p := ⟨b, o, none⟩) hb).trans hc
theorem byte_at (s : ByteArray) (q : Nat) (h : q < s.size) : ∃ c : UInt8, s.data.toList[q]? = some c ∧ (s[q]'h).toNat = c.toNat ∧ c.toNat < 256 := ⟨s[q]'h, by
  show s.data.toList[q]? = some (s.data[q]'h)
  rw [Array.getElem?_toList, Array.getElem?_eq_getElem], rfl, (s[q]'h).toNat_lt⟩

end
end Go.Proofs.YtpckdhjnhnonhaaGreat
/- A name, told by a range over the text. -/
namespace Go.Proofs.YtpckdhjnhnonhaaGreat
open Go.RowKit

theorem small_part {c : Nat} (h : smallB c = true) : partB c = true := by simp [partB, h]
theorem part_low {c : Nat} (h : partB c = true) : c < 128 := by
  simp only [partB, smallB, digitB, Bool.or_eq_true, Bool.and_eq_true, decide_eq_true_eq, beq_iff_eq] at h
  omega
theorem high_no {c : Nat} (h : 128 ≤ c) : smallB c = false ∧ partB c = false := by
  have h2 : partB c = false := by
    cases h3 : partB c with
    | false => rfl
    | true => have := part_low h3; omega
  refine ⟨?_, h2⟩
  cases h3 : smallB c with
  | false => rfl
  | true => rw [small_part h3] at h2; cases h2
theorem nameF_iff (L : List UInt8) : nameF L = true ↔ 1 ≤ L.length ∧ L.length ≤ 16 ∧ (∀ c, L[0]? = some c → smallB c.toNat = true) ∧ ∀ c ∈ L, partB c.toNat = true := by
  cases L with
  | nil => simp [nameF]
  | cons b r =>
    simp only [nameF, Bool.and_eq_true, decide_eq_true_eq, List.all_eq_true, List.length_cons, List.getElem?_cons_zero, List.mem_cons]
    constructor
    · rintro ⟨h1, h2, h3⟩
      refine ⟨by omega, by omega, ?_, ?_⟩
      · rintro c ⟨⟩
        exact h2
      · rintro c (rfl | hc)
        · exact small_part h2
        · exact h3 c hc
    · rintro ⟨_, h1, h2, h3⟩
      exact ⟨by omega, h2 b rfl, fun c hc => h3 c (.inr hc)⟩
theorem nameF_not {L : List UInt8} {c : UInt8} {q : Nat} (h : L[q]? = some c) (hp : partB c.toNat = false) : nameF L = false := by
  cases hn : nameF L with
  | false => rfl
  | true =>
    have := ((nameF_iff L).1 hn).2.2.2 c (List.mem_of_getElem? h)
    rw [this] at hp
    cases hp
theorem nameF_not0 {L : List UInt8} {c : UInt8} (h : L[0]? = some c) (hp : smallB c.toNat = false) : nameF L = false := by
  cases hn : nameF L with
  | false => rfl
  | true =>
    have := ((nameF_iff L).1 hn).2.2.1 c h
    rw [this] at hp
    cases hp

section
variable {w : World}
theorem next_at (wr : World) (g pos : Nat) (s : ByteArray) (c : UInt8) (hit : wr.heap[g]? = some (.stringIter s pos)) (hp : pos < s.size) (hc : s.data.toList[pos]? = some c) :
    ∃ x wd : Nat, (∀ ty, (Instr.next (.pointer (some ⟨g, 0, none⟩)) true ty).run Tryz.prog wr = .ok (.tuple #[.bool true, .int .i64 (pos : Int), .int .i32 (x : Int)]) (wr.iterAt g s (pos + wd))) ∧ smallB x = smallB c.toNat ∧ partB x = partB c.toNat ∧ x < 2147483648 ∧ (partB c.toNat = true → wd = 1) := by
  obtain ⟨c', hc', hx, h256⟩ := byte_at s pos hp
  obtain rfl : c = c' := by rw [hc] at hc'; injection hc'
  by_cases h : c.toNat < 128
  · refine ⟨c.toNat, 1, fun ty => ?_, rfl, rfl, by omega, fun _ => rfl⟩
    rw [Lib.run_next_ascii_at wr g s pos ty hit hp (by rw [hx]; exact h), hx]
  · refine ⟨(Utf8.decode s pos).1, (Utf8.decode s pos).2, fun ty => Lib.run_next_any_at wr g s pos ty hit hp, ?_, ?_, ?_, ?_⟩
    · rw [(high_no (decode_high s pos hp (by rw [hx]; omega)).1).1, (high_no (c := c.toNat) (by omega)).1]
    · rw [(high_no (decode_high s pos hp (by rw [hx]; omega)).1).2, (high_no (c := c.toNat) (by omega)).2]
    · have := decode_le s pos
      omega
    · intro h2
      rw [(high_no (c := c.toNat) (by omega)).2] at h2
      cases h2

set_option maxHeartbeats 4000000 in
set_option maxRecDepth 100000 in
theorem name_any (s : ByteArray) : Calls Tryz.prog 97 #[.string s] w fun e w' => e = .returned (.bool (nameF s.data.toList)) ∧ Later w w' := by
  obtain ⟨L, hL⟩ : ∃ L, L = s.data.toList := ⟨_, rfl⟩
  have hlen : L.length = s.size := by rw [hL, Array.length_toList]; rfl
  rw [← hL]
  have HL := hide hL
  have HLEN := hide hlen
  have L0 := hide (Later.refl w)
  by_cases h1 : s.size < 1
  · have hb : (s.size : Int) < 1 := by omega
    have hf : nameF L = false := by
      cases hn : nameF L with
      | false => rfl
      | true => have := ((nameF_iff L).1 hn).1; omega
    rw [hf]
    clear hL hlen hf
    go_enter Tryz.func97, Tryz.ntmps97
    go_wp2
    go_ret
    exact ⟨rfl, L0.out⟩
  · have hb : ¬ (s.size : Int) < 1 := by omega
    by_cases h2 : 16 < s.size
    · have hb2 : 16 < (s.size : Int) := by omega
      have hf : nameF L = false := by
        cases hn : nameF L with
        | false => rfl
        | true => have := ((nameF_iff L).1 hn).2.1; omega
      rw [hf]
      clear hL hlen hf
      go_enter Tryz.func97, Tryz.ntmps97
      go_wp2
      go_ret
      exact ⟨rfl, L0.out⟩
    · have hb2 : ¬ 16 < (s.size : Int) := by omega
      clear hL hlen
      go_enter Tryz.func97, Tryz.ntmps97
      go_wp2_with (fail)
      refine (letter_any (w := w)).mono ?_
      rintro e w1 ⟨v1, rfl, hs1, hl1⟩
      have S1 := hide hs1
      have L1 := hide hl1
      clear hs1 hl1
      go_wp2_with (fail)
      refine (ofName_any (w := w1)).mono ?_
      rintro e w2 ⟨v2, rfl, hs2, hl2⟩
      have S2 := hide hs2
      have S12 := hide (S1.out.later hl2)
      have L2 := hide (L1.out.trans hl2)
      have eg1 := S1.out.1
      have eg2 := hs2.1
      unfold Enters at eg1 eg2
      clear hs2 hl2 S1 L1
      obtain ⟨F1, cs1⟩ := v1
      obtain ⟨F2, cs2⟩ := v2
      simp only [SetV.val]
      simp only at eg1 eg2
      go_wp2_with (fail)
      go_loopw [] (fun wr => ∃ pos : Nat, pos ≤ L.length ∧ (∀ c ∈ L.take pos, partB c.toNat = true) ∧ (0 < pos → ∀ c, L[0]? = some c → smallB c.toNat = true) ∧ wr.heap[w2.heap.size]? = some (.stringIter s pos) ∧ Later w2 wr) (fun wr => s.size - wr.iterPos w2.heap.size)
      case atStart => exact ⟨0, by omega, by simp, by simp, World.iter_heap w2 s 0, (Below.refl _ _).alloc (Nat.le_refl _) _⟩
      case round =>
        obtain ⟨pos, hpl, hall, hfirst, hit, hlat⟩ := hrel
        have HA := hide hall
        have HF := hide hfirst
        have HL2 := hide hlat
        have HIT := hide hit
        clear hall hfirst hlat
        have hsz : w2.heap.size < wr.heap.size := (Array.getElem?_eq_some_iff.1 hit).1
        by_cases hp : pos < s.size
        · obtain ⟨c, hc⟩ : ∃ c, L[pos]? = some c := ⟨_, List.getElem?_eq_getElem (by have := HLEN.out; omega)⟩
          obtain ⟨x, wd, hnx, hsm, hpa, hx, hw1⟩ := next_at wr w2.heap.size pos s c hit hp (by rw [← HL.out]; exact hc)
          have LW : Hid (Later w2 (wr.iterAt w2.heap.size s (pos + wd))) := Lib.below_iterAt HL2.out (Nat.le_refl _) s (pos + wd)
          have C1 := hide (S12.out.2 (wr.iterAt w2.heap.size s (pos + wd)) x LW.out hx)
          have HC := hide hc
          have HW := hide hw1
          have HIT2 := hide (Lib.iterAt_heap wr w2.heap.size s pos (pos + wd) hit)
          rw [hsm] at C1
          obtain ⟨W3, hW3⟩ : ∃ W3, W3 = wr.iterAt w2.heap.size s (pos + wd) := ⟨_, rfl⟩
          rw [← hW3] at hnx LW C1 HIT2
          have CP : ∀ W', Later W3 W' → Calls Tryz.prog F2 (#[.int .i32 (x : Int)] ++ cs2) W' fun e w' => e = .returned (.bool (partB c.toNat)) ∧ Later W' w' := fun W' h => by
            rw [← hpa]
            exact S2.out.2 W' x (LW.out.trans h) hx
          have HCP := hide CP
          have hitsz : w2.heap.size < W3.heap.size := (Array.getElem?_eq_some_iff.1 HIT2.out).1
          clear hit hc hw1 hsm hpa hW3 CP
          by_cases hp0 : pos = 0
          · have hpb : ((pos : Int) == 0) = true := by rw [beq_iff_eq]; omega
            have HP0 := hide hp0
            clear hp0
            cases hf1 : smallB c.toNat with
            | false =>
              rw [hf1] at C1
              go_wp2_with (fail)
              refine C1.out.mono ?_
              rintro e w4 ⟨rfl, hl4⟩
              go_wp2_with (fail)
              go_ret
              exact ⟨ret_bool (nameF_not0 (by rw [← HP0.out]; exact HC.out) hf1).symm, L2.out.trans (LW.out.trans hl4)⟩
            | true =>
              have hf2 := small_part hf1
              rw [hf1] at C1
              go_wp2_with (fail)
              refine C1.out.mono ?_
              rintro e w4 ⟨rfl, hl4⟩
              have C2 := hide (HCP.out w4 hl4)
              rw [hf2] at C2
              have HL4 := hide hl4
              clear hl4
              go_wp2_with (fail)
              refine C2.out.mono ?_
              rintro e w5 ⟨rfl, hl5'⟩
              have hl5 := HL4.out.trans hl5'
              go_wp2_with (fail)
              go_roundw
              case rel =>
                have hwd := HW.out hf2
                subst hwd
                refine ⟨pos + 1, by have := HLEN.out; omega, ?_, ?_, (Below.block hl5 _ hitsz).trans HIT2.out, LW.out.trans hl5⟩
                · intro y hy
                  rw [List.take_add_one, HC.out] at hy
                  simp only [Option.toList_some, List.mem_append, List.mem_singleton] at hy
                  rcases hy with hy | rfl
                  · exact HA.out y hy
                  · exact hf2
                · exact fun _ y hy => by rw [← HP0.out, HC.out] at hy; injection hy with hy; rw [← hy]; exact hf1
              case measure =>
                have hwd := HW.out hf2
                subst hwd
                have e1 : wr.iterPos w2.heap.size = pos := by simp only [World.iterPos, HIT.out]
                have e2 : w5.iterPos w2.heap.size = pos + 1 := by simp only [World.iterPos, (Below.block hl5 _ hitsz).trans HIT2.out]
                rw [e1, e2]
                omega
          · have hpb : ((pos : Int) == 0) = false := by rw [beq_eq_false_iff_ne]; omega
            have C2 := hide (HCP.out W3 (Later.refl _))
            have HP0 := hide hp0
            clear hp0
            cases hf2 : partB c.toNat with
            | false =>
              rw [hf2] at C2
              go_wp2_with (fail)
              refine C2.out.mono ?_
              rintro e w4 ⟨rfl, hl4⟩
              go_wp2_with (fail)
              go_ret
              exact ⟨ret_bool (nameF_not HC.out hf2).symm, L2.out.trans (LW.out.trans hl4)⟩
            | true =>
              rw [hf2] at C2
              go_wp2_with (fail)
              refine C2.out.mono ?_
              rintro e w5 ⟨rfl, hl5⟩
              go_wp2_with (fail)
              go_roundw
              case rel =>
                have hwd := HW.out hf2
                subst hwd
                refine ⟨pos + 1, by have := HLEN.out; omega, ?_, ?_, (Below.block hl5 _ hitsz).trans HIT2.out, LW.out.trans hl5⟩
                · intro y hy
                  rw [List.take_add_one, HC.out] at hy
                  simp only [Option.toList_some, List.mem_append, List.mem_singleton] at hy
                  rcases hy with hy | rfl
                  · exact HA.out y hy
                  · exact hf2
                · exact fun _ => HF.out (by have := HP0.out; omega)
              case measure =>
                have hwd := HW.out hf2
                subst hwd
                have e1 : wr.iterPos w2.heap.size = pos := by simp only [World.iterPos, HIT.out]
                have e2 : w5.iterPos w2.heap.size = pos + 1 := by simp only [World.iterPos, (Below.block hl5 _ hitsz).trans HIT2.out]
                rw [e1, e2]
                omega
        · have hnx : ∀ ty, (Instr.next (.pointer (some ⟨w2.heap.size, 0, none⟩)) true ty).run Tryz.prog wr = _ := fun ty => Lib.run_next_end_at wr w2.heap.size s pos ty hit hp
          have hf : nameF L = true := by
            have hpe : pos = L.length := by have := HLEN.out; omega
            rw [nameF_iff]
            refine ⟨by have := HLEN.out; omega, by have := HLEN.out; omega, HF.out (by have := HLEN.out; omega), ?_⟩
            have := HA.out
            rwa [hpe, List.take_length] at this
          go_wp2_with (fail)
          go_ret
          exact ⟨ret_bool hf.symm, L2.out.trans HL2.out⟩
end
end Go.Proofs.YtpckdhjnhnonhaaGreat
/- What == and != give at steps. -/
namespace Go.Proofs.YtpckdhjnhnonhaaGreat.Sd
open Go.RowKit

theorem toList_inj {a b : ByteArray} : a.toList = b.toList ↔ a = b := by
  rw [ByteArray.toList_eq, ByteArray.toList_eq]
  obtain ⟨⟨x⟩⟩ := a
  obtain ⟨⟨y⟩⟩ := b
  simp
theorem str_eq (a b : ByteArray) : (a.toList == b.toList) = decide (a = b) := by
  rw [Bool.eq_iff_iff, beq_iff_eq, decide_eq_true_eq, toList_inj]
theorem step_iff (s t : StepD) : s = t ↔ s.name.toList = t.name.toList ∧ s.stub = t.stub ∧ s.retry = t.retry ∧ s.wait = t.wait ∧ s.undo = t.undo ∧ s.pivot = t.pivot := by
  rw [toList_inj]
  obtain ⟨a, b, c, d, e, f⟩ := s
  obtain ⟨a', b', c', d', e', f'⟩ := t
  simp

theorem neq_step (s t : StepD) (w : World) : (binOp .neq 67 (.agg (s.cells).toArray) (.agg (t.cells).toArray)).run Tryz.prog w = .ok (.bool (!decide (s = t))) w := by
  have u3 := Tryz.underlying3
  have u4 := Tryz.underlying4
  have u9 := Tryz.underlying9
  have hS : Tryz.prog.underlying 67 = some (.struct (Tryz.prog.fieldsOf 67)) := by kernel_rfl
  have hp : Tryz.prog.stoodInHeld 67 = false := by kernel_rfl
  simp only [StepD.cells]
  rw [run_neq_struct, show (10000 : Nat) = 9999 + 1 from rfl, run_equalIn_struct w 9999 67 _ _ hS hp]
  simp only [Program.fieldsOf, Tryz.underlying67]
  go_simp
  have hi := step_iff s t
  by_cases h0 : s.name.toList = t.name.toList <;> by_cases h1 : s.stub = t.stub <;> by_cases h2 : s.retry = t.retry <;> by_cases h3 : s.wait = t.wait <;> by_cases h4 : s.undo = t.undo <;> by_cases h5 : s.pivot = t.pivot <;> simp [hi, h0, h1, h2, h3, h4, h5]

end Go.Proofs.YtpckdhjnhnonhaaGreat.Sd
/- A region whose order is open, of calls that write what was there before: what reads the same in all worlds may come up at once; from some point on text Order's laws take over. -/
namespace Go.Proofs.YtpckdhjnhnonhaaGreat
open Go.RowKit

section
variable {P : Program} {ops : Array Oper} {Q : Exit → Act → World → Prop} {md : Region.Mode}

end

end Go.Proofs.YtpckdhjnhnonhaaGreat
/- slices.Equal at steps, the document's SameDef. -/
namespace Go.Proofs.YtpckdhjnhnonhaaGreat.Sd
open Go.RowKit

def Alike {α : Type} (l m : List α) (k : Nat) : Prop := ∀ i, i < k → l[i]? = m[i]?
section
variable {α : Type} {l m : List α} {k : Nat}
theorem Alike.zero (l m : List α) : Alike l m 0 := fun i hi => by omega
theorem Alike.next (h : Alike l m k) (he : l[k]? = m[k]?) : Alike l m (k + 1) := fun i hi => by
  by_cases hk : i = k
  · rw [hk, he]
  · exact h i (by omega)
theorem Alike.all (h : Alike l m k) (h1 : l.length = k) (h2 : m.length = k) : l = m := by
  apply List.ext_getElem?
  intro i
  by_cases hi : i < k
  · exact h i hi
  · rw [List.getElem?_eq_none (by omega), List.getElem?_eq_none (by omega)]
theorem ne_at {x y : α} (hx : l[k]? = some x) (hy : m[k]? = some y) (hne : x ≠ y) : l ≠ m := by
  rintro rfl
  rw [hx] at hy
  exact hne (Option.some.inj hy)
end
theorem neq_step_same (s : StepD) (w : World) : (binOp .neq 67 (.agg (s.cells).toArray) (.agg (s.cells).toArray)).run Tryz.prog w = .ok (.bool false) w := by rw [neq_step]; simp
theorem neq_step_other {s t : StepD} (h : s ≠ t) (w : World) : (binOp .neq 67 (.agg (s.cells).toArray) (.agg (t.cells).toArray)).run Tryz.prog w = .ok (.bool true) w := by rw [neq_step]; simp [h]

set_option maxHeartbeats 1000000 in
theorem same_def (F G : Nat → Prop) (a1 a2 : ByteArray) (v v2 : Value) (l m : List StepD) (w : World) (hl : StepsAt F w v l) (hm : StepsAt G w v2 m) :
    Calls Tryz.prog 96 #[.agg #[.string a1, v], .agg #[.string a2, v2]] w fun e w' => e = .returned (.bool (decide (a1 = a2 ∧ l = m))) ∧ Below w.heap.size w w' := by
  obtain ⟨A, c, rfl, h1, h2, _⟩ := FlatAt.shape hl
  obtain ⟨A2, c2, rfl, h3, h4, _⟩ := FlatAt.shape hm
  unfold maxLen at h2 h4
  obtain ⟨n, hn⟩ : ∃ n, l.length = n := ⟨_, rfl⟩
  obtain ⟨n2, hn2⟩ : ∃ n2, m.length = n2 := ⟨_, rfl⟩
  rw [hn] at h1 hl ⊢
  rw [hn2] at h3 hm ⊢
  have hbw : Below w.heap.size w ((w.alloc (.cells #[.string a1, .slice A n c] 31 (0, 0))).alloc (.cells #[.string a2, .slice A2 n2 c2] 31 (0, 0))) := ((Below.refl _ _).alloc (Nat.le_refl _) _).alloc (by simp) _
  have H1 := hide (hl.kept (Kept.of_below hbw F))
  have H2 := hide (hm.kept (Kept.of_below hbw G))
  have HBW := hide hbw
  have HN := hide hn
  have HN2 := hide hn2
  clear hl hm hbw hn hn2
  by_cases ha : a1 = a2
  · subst ha
    have hs1 : (a1.toList == a1.toList) = true := by simp
    have hs2 : (a1.toList != a1.toList) = false := by simp
    by_cases hnm : n = n2
    · subst hnm
      have ht : ((n : Int) != (n : Int)) = false := by simp
      go_enter Tryz.func96, Tryz.ntmps96
      go_wp2
      have cA : ((w.alloc (.cells #[.string a1, .slice A n c] 31 (0, 0))).alloc (.cells #[.string a1, .slice A2 n c2] 31 (0, 0))).cell? ⟨w.heap.size, 1, none⟩ = some (.slice A n c) := cell_of_row _ _ 1 _ _ _ ((Below.block ((Below.refl _ _).alloc (Nat.le_refl _) _) w.heap.size (by simp)).trans (heap_alloc_new w _))
      have cB : ((w.alloc (.cells #[.string a1, .slice A n c] 31 (0, 0))).alloc (.cells #[.string a1, .slice A2 n c2] 31 (0, 0))).cell? ⟨w.heap.size + 1, 1, none⟩ = some (.slice A2 n c2) := cell_of_row _ _ 1 _ _ _ (heap_alloc2_new w _ _)
      generalize ((w.alloc (.cells #[.string a1, .slice A n c] 31 (0, 0))).alloc (.cells #[.string a1, .slice A2 n c2] 31 (0, 0))) = W at H1 H2 HBW cA cB ⊢
      go_loopw [23] (fun i wr => ∃ k : Nat, k ≤ n ∧ i = .int .i64 (k : Int) ∧ Alike l m k ∧ ∃ q, wr = W.drewN q) (fun i _ => n - (Go.RowKit.intOf i).toNat)
      case atStart => exact ⟨0, by omega, rfl, Alike.zero _ _, 0, rfl⟩
      case round =>
        obtain ⟨k, hk, rfl, hup, q, rfl⟩ := hrel
        have HU := hide hup
        clear hup
        by_cases hkn : k < n
        · obtain ⟨x, b, off, c', hx, hv, _, _, _, hr⟩ := StepsAt.at_ H1.out (i := k) (by rw [HN.out]; exact hkn)
          rw [HN.out] at hv
          obtain ⟨rfl, rfl⟩ : A = some ⟨b, off, none⟩ ∧ c = c' := by injection hv with e1 _ e3; exact ⟨e1, e3⟩
          obtain ⟨y, b2, off2, c2', hy, hv2, _, _, _, hr2⟩ := StepsAt.at_ H2.out (i := k) (by rw [HN2.out]; exact hkn)
          rw [HN2.out] at hv2
          obtain ⟨rfl, rfl⟩ : A2 = some ⟨b2, off2, none⟩ ∧ c2 = c2' := by injection hv2 with e1 _ e3; exact ⟨e1, e3⟩
          obtain ⟨r0, r1, r2, r3, r4, r5⟩ := range_step hr
          obtain ⟨s0, s1, s2, s3, s4, s5⟩ := range_step hr2
          have HX := hide hx
          have HY := hide hy
          clear hx hy hv hv2 hr hr2
          by_cases he : x = y
          · subst he
            have hq := fun w => neq_step_same x w
            simp only [StepD.cells] at hq
            go_wp2
            go_quiet (fail)
            go_wp2
            go_roundw
            case rel => exact ⟨k + 1, by omega, by go_num, HU.out.next (HX.out.trans HY.out.symm), _, rfl⟩
            case measure => simp [Go.RowKit.intOf]; omega
          · have hq := fun w => neq_step_other he w
            simp only [StepD.cells] at hq
            have HE := hide (ne_at HX.out HY.out he)
            clear he
            go_wp2
            go_quiet (fail)
            go_wp2
            go_ret
            exact ⟨ret_bool (by simp [HE.out]), HBW.out.trans ((below_drewN _ _ _).trans (below_drewN _ _ _))⟩
        · go_wp2
          go_ret
          exact ⟨ret_bool (by simp [HU.out.all (by have := HN.out; omega) (by have := HN2.out; omega)]), HBW.out.trans (below_drewN _ _ _)⟩
    · have ht : ((n : Int) != (n2 : Int)) = true := by simp; omega
      have HE : Hid (l ≠ m) := by
        rintro rfl
        exact hnm (HN.out.symm.trans HN2.out)
      go_enter Tryz.func96, Tryz.ntmps96
      go_wp2
      go_ret
      exact ⟨ret_bool (by simp [HE.out]), HBW.out⟩
  · have hs0 : (a1.toList == a2.toList) = false := by rw [str_eq]; simpa using ha
    have hs1 : (a1.toList != a2.toList) = true := by unfold bne; rw [hs0]; rfl
    have HE := hide ha
    clear ha
    go_enter Tryz.func96, Tryz.ntmps96
    go_wp2
    go_ret
    exact ⟨ret_bool (by simp [HE.out]), HBW.out⟩
end Go.Proofs.YtpckdhjnhnonhaaGreat.Sd
/- slices.Equal at steps. -/
namespace Go.Proofs.YtpckdhjnhnonhaaGreat.Sd
open Go.RowKit

end Go.Proofs.YtpckdhjnhnonhaaGreat.Sd
/- Steps asked by a closure; a number out of its bounds; a step looked at. -/
namespace Go.Proofs.YtpckdhjnhnonhaaGreat
open Go.RowKit

def AskAt (w : World) (v : SetV) (f : StepD → Bool) : Prop :=
  Enters v.F ∧ ∀ (W : World) (s : StepD), Later w W → Calls Tryz.prog v.F (#[.agg s.cells.toArray] ++ v.cs) W fun e W' => e = .returned (.bool (f s)) ∧ Later W W'
section
variable {w : World}
theorem outside_any (n lo hi : Int) : Calls Tryz.prog 98 #[.int .i64 n, .int .i64 lo, .int .i64 hi] w fun e w' => e = .returned (.bool (outB n lo hi)) ∧ w' = w := by
  unfold outB
  by_cases h1 : n < lo
  · go_enter Tryz.func98, Tryz.ntmps98
    go_wp2
    go_ret
    exact ⟨ret_bool (by simp [h1]), rfl⟩
  · by_cases h2 : hi < n
    · go_enter Tryz.func98, Tryz.ntmps98
      go_wp2
      go_ret
      exact ⟨ret_bool (by simp), rfl⟩
    · go_enter Tryz.func98, Tryz.ntmps98
      go_wp2
      go_ret
      exact ⟨ret_bool (by simp [h1, h2]), rfl⟩

set_option maxHeartbeats 2000000 in
theorem index_ask {F : Nat → Prop} {v : SetV} {f : StepD → Bool} {A : Option Addr} {n cap : Nat} {l : List StepD} (h : StepsAt F w (.slice A n cap) l) (hn : n = l.length) (hv : AskAt w v f) (hs : n ≤ 1000) :
    Calls Tryz.prog 84 #[.slice A n cap, v.val] w fun e w' => ∃ i : Int, e = .returned (.int .i64 i) ∧ decide (0 ≤ i) = l.any f ∧ Later w w' := by
  have H := hide h
  have HN := hide hn
  have HV := hide hv
  have eg := hv.1
  unfold Enters at eg
  clear h hn hv
  obtain ⟨FF, cs⟩ := v
  simp only [SetV.val]
  simp only at eg
  go_enter Tryz.func84, Tryz.ntmps84
  go_wp2
  go_loopw [8] (fun i wr => ∃ q : Nat, q ≤ n ∧ i = .int .i64 (q : Int) ∧ (l.take q).any f = false ∧ Later w wr) (fun i _ => n - (Go.RowKit.intOf i).toNat)
  case atStart => exact ⟨0, by omega, rfl, by simp, Later.refl _⟩
  case round =>
    obtain ⟨q, hq, rfl, hall, hlat⟩ := hrel
    have HA := hide hall
    have HL := hide hlat
    clear hall hlat
    by_cases hlt : q < n
    · obtain ⟨s, b, off, c', hs', hvv, _, _, _, hr⟩ := StepsAt.at_ (StepsAt.kept H.out (Kept.of_below HL.out _)) (i := q) (by rw [← HN.out]; exact hlt)
      rw [← HN.out] at hvv
      obtain ⟨rfl, rfl⟩ : A = some ⟨b, off, none⟩ ∧ cap = c' := by injection hvv with e1 _ e3; exact ⟨e1, e3⟩
      obtain ⟨r0, r1, r2, r3, r4, r5⟩ := range_step hr
      have HP := hide hs'
      have C := hide (HV.out.2 wr s HL.out)
      obtain ⟨t, ht⟩ : ∃ t, f s = t := ⟨_, rfl⟩
      rw [ht] at C
      have HT := hide ht
      unfold StepD.cells at C
      simp only at C
      clear hs' hvv hr ht
      go_wp2_with (fail)
      refine C.out.mono ?_
      rintro e w1 ⟨rfl, hl⟩
      have HL1 := hide (HL.out.trans hl)
      clear hl C r0 r1 r2 r3 r4 r5
      cases t with
      | false =>
        go_wp2
        go_roundw
        case rel =>
          refine ⟨q + 1, by omega, by go_num, ?_, HL1.out⟩
          rw [List.take_add_one, HP.out, List.any_append, HA.out]
          simp [HT.out]
        case measure => simp [Go.RowKit.intOf]; omega
      | true =>
        go_wp2
        go_ret
        refine ⟨(q : Int), rfl, ?_, HL1.out⟩
        have hyes : l.any f = true := by
          rw [List.any_eq_true]
          exact ⟨s, List.mem_of_getElem? HP.out, HT.out⟩
        rw [hyes]
        simp
    · have hall : l.any f = false := by
        have h1 := HA.out
        rwa [List.take_of_length_le (by have := HN.out; omega)] at h1
      have HALL := hide hall
      clear hall
      go_wp2
      go_ret
      exact ⟨-1, rfl, by rw [HALL.out]; decide, HL.out⟩
theorem contains_ask {F : Nat → Prop} {v : SetV} {f : StepD → Bool} {A : Option Addr} {n cap : Nat} {l : List StepD} (h : StepsAt F w (.slice A n cap) l) (hn : n = l.length) (hv : AskAt w v f) (hs : n ≤ 1000) :
    Calls Tryz.prog 109 #[.slice A n cap, v.val] w fun e w' => e = .returned (.bool (l.any f)) ∧ Later w w' := by
  have C := hide (index_ask h hn hv hs)
  obtain ⟨vv, hvv⟩ : ∃ vv, v.val = vv := ⟨_, rfl⟩
  rw [hvv] at C ⊢
  clear h hn hvv
  go_enter Tryz.func109, Tryz.ntmps109
  go_wp2_with (fail)
  refine C.out.mono ?_
  rintro e w1 ⟨i, rfl, hi, hl⟩
  have HI := hide hi
  have HL := hide hl
  clear hi hl C
  go_wp2
  go_ret
  exact ⟨ret_bool HI.out, HL.out⟩

theorem named1_any (W : World) (a : StepD) (s : StepD) (b : Nat) (h : W.cell? ⟨b, 0, none⟩ = some (.string s.name)) :
    Calls Tryz.prog 110 #[.agg a.cells.toArray, .pointer (some ⟨b, 0, none⟩)] W fun e W' => e = .returned (.bool (decide (a.name = s.name))) ∧ Later W W' := by
  have HL : Hid (Later W (W.alloc (.cells a.cells.toArray 67 (0, 0)))) := (Below.refl _ _).alloc (Nat.le_refl _) _
  have hb : b < W.heap.size := by
    rcases Nat.lt_or_ge b W.heap.size with h1 | h1
    · exact h1
    · simp [World.cell?, Array.getElem?_eq_none h1] at h
  unfold StepD.cells at *
  go_enter Tryz.func110, Tryz.ntmps110
  go_wp2
  go_ret
  exact ⟨ret_bool (Sd.str_eq _ _), HL.out⟩
theorem enters_named1 : Enters 110 := fun args w => by go_simp
theorem pivot2_any (W : World) (a : StepD) : Calls Tryz.prog 111 #[.agg a.cells.toArray] W fun e W' => e = .returned (.bool a.pivot) ∧ Later W W' := by
  have HL : Hid (Later W (W.alloc (.cells a.cells.toArray 67 (0, 0)))) := (Below.refl _ _).alloc (Nat.le_refl _) _
  unfold StepD.cells at *
  go_enter Tryz.func111, Tryz.ntmps111
  go_wp2
  go_ret
  exact ⟨rfl, HL.out⟩
theorem enters_pivot2 : Enters 111 := fun args w => by go_simp
end
end Go.Proofs.YtpckdhjnhnonhaaGreat
/- Slices of slices: what a[lo:hi:hi] holds, cell by cell, and operation by operation. -/
namespace Go.Proofs.YtpckdhjnhnonhaaGreat.Sd
open Go.RowKit

theorem flat_take {α : Type} (f : α → List Value) (k : Nat) : ∀ (l : List α) (i : Nat), (∀ y ∈ l, (f y).length = k) → (l.take i).flatMap f = (l.flatMap f).take (i * k)
  | [], i, _ => by simp
  | y :: r, 0, _ => by simp
  | y :: r, i + 1, hk => by
    have h1 := hk y (by simp)
    have ih := flat_take f k r i (fun z hz => hk z (by simp [hz]))
    rw [List.take_succ_cons, List.flatMap_cons, ih, List.flatMap_cons, show (i + 1) * k = (f y).length + i * k from by rw [h1, Nat.add_mul]; omega, List.take_append]
    simp [List.take_of_length_le]
theorem flat_drop {α : Type} (f : α → List Value) (k : Nat) : ∀ (l : List α) (i : Nat), (∀ y ∈ l, (f y).length = k) → (l.drop i).flatMap f = (l.flatMap f).drop (i * k)
  | [], i, _ => by simp
  | y :: r, 0, _ => by simp
  | y :: r, i + 1, hk => by
    have h1 := hk y (by simp)
    have ih := flat_drop f k r i (fun z hz => hk z (by simp [hz]))
    rw [List.drop_succ_cons, ih, List.flatMap_cons, show (i + 1) * k = (f y).length + i * k from by rw [h1, Nat.add_mul]; omega, List.drop_append]
    simp

section
variable {F : Nat → Prop} {w : World} {k n c : Nat} {A : Option Addr} {xs : List Value}
theorem FlatAt.tail (h : FlatAt F w k (.slice A n c) n xs) {lo : Nat} (h1 : lo ≤ n) : FlatAt F w k (sliced A lo n c k) (n - lo) (xs.drop (lo * k)) := by
  obtain ⟨hl, ho, A', c', hv, hc, hm, hn, hr⟩ := h
  obtain ⟨rfl, rfl⟩ : A = A' ∧ c = c' := by injection hv with e1 _ e3; exact ⟨e1, e3⟩
  unfold sliced
  refine ⟨?_, fun u hu => ho u (List.mem_of_mem_drop hu), _, _, rfl, by omega, by omega, ?_, fun h0 => ?_⟩
  · rw [List.length_drop, hl, Nat.sub_mul]
  · intro h0
    by_cases he : c = lo
    · omega
    · rw [if_neg he] at h0
      have : A = none := by cases A with
        | none => rfl
        | some a => cases h0
      have := hn this
      omega
  · rw [if_neg (by omega)]
    obtain ⟨b, off, rfl, hF, hb, hr⟩ := hr (by omega)
    refine ⟨b, off + lo * k, ?_, hF, hb, fun j u hj => ?_⟩
    · simp [Addr.add_lit]
    · rw [List.getElem?_drop] at hj
      rw [Nat.add_assoc]
      exact hr _ _ hj
theorem OpsIn.tail {ps : List (OpD × Value)} (h : OpsIn F w (.slice A n c) ps) {lo : Nat} (h1 : lo ≤ ps.length) : OpsIn F w (sliced A lo n c 10) (ps.drop lo) := by
  have e : ps.length = n := by
    obtain ⟨_, _, hv, _⟩ := FlatAt.shape h.1
    injection hv with _ e2 _
    exact e2.symm
  refine ⟨?_, fun p hp => h.2 p (List.mem_of_mem_drop hp)⟩
  have := FlatAt.tail (e ▸ h.1 : FlatAt F w 10 (.slice A n c) n _) (lo := lo) (by omega)
  rw [flat_drop (fun p : OpD × Value => p.1.cells p.2) 10 _ _ (fun p _ => p.1.len p.2), show (ps.drop lo).length = n - lo from by simp; omega]
  exact this
end
end Go.Proofs.YtpckdhjnhnonhaaGreat.Sd
/- A step in a block of its own. -/
namespace Go.Proofs.YtpckdhjnhnonhaaGreat
open Go.RowKit

def StepBox (h : Nat) (s : StepD) (w : World) : Prop := w.heap[h]? = some (.cells s.cells.toArray 67 (0, 0))
theorem StepBox.cells {h : Nat} {s : StepD} {w : World} (hb : StepBox h s w) : w.cell? ⟨h, 0, none⟩ = some (.string s.name) ∧ w.cell? ⟨h, 1, none⟩ = some (.int .i64 s.stub) ∧ w.cell? ⟨h, 2, none⟩ = some (.int .i64 s.retry) ∧ w.cell? ⟨h, 3, none⟩ = some (.int .i64 s.wait) ∧
    w.cell? ⟨h, 4, none⟩ = some (.bool s.undo) ∧ w.cell? ⟨h, 5, none⟩ = some (.bool s.pivot) ∧ ∀ i, w.frozen? ⟨h, i, none⟩ = false :=
  ⟨(cell_of_row w h 0 _ _ _ hb).trans rfl, (cell_of_row w h 1 _ _ _ hb).trans rfl, (cell_of_row w h 2 _ _ _ hb).trans rfl, (cell_of_row w h 3 _ _ _ hb).trans rfl, (cell_of_row w h 4 _ _ _ hb).trans rfl, (cell_of_row w h 5 _ _ _ hb).trans rfl, fun i => frozen_of_row w h i _ _ hb⟩
theorem StepBox.set {h i : Nat} {s s' : StepD} {w : World} {v : Value} (hb : StepBox h s w) (hs : s'.cells.toArray = s.cells.toArray.setIfInBounds i v) : StepBox h s' (w.setCell ⟨h, i, none⟩ v) := by
  unfold StepBox
  rw [hs]
  exact heap_setCell_same w h i _ _ v hb
end Go.Proofs.YtpckdhjnhnonhaaGreat
/- The pivot, how often a step may be tried, whether a step is hit: the code's and the document's. -/
namespace Go.Proofs.YtpckdhjnhnonhaaGreat
open Go.RowKit

def BoolsAt (F : Nat → Prop) (w : World) (v : Value) (l : List Bool) : Prop := FlatAt F w 1 v l.length (l.map fun x => .bool x)
theorem BoolsAt.kept {F : Nat → Prop} {w w' : World} {v : Value} {l : List Bool} (h : BoolsAt F w v l) (hk : Kept F w w') : BoolsAt F w' v l := FlatAt.kept h hk
theorem BoolsAt.at_ {F : Nat → Prop} {w : World} {v : Value} {l : List Bool} (h : BoolsAt F w v l) {i : Nat} (hi : i < l.length) : ∃ x b off c, l[i]? = some x ∧ v = .slice (some ⟨b, off, none⟩) l.length c ∧ l.length ≤ c ∧ F b ∧ b < w.heap.size ∧ w.cell? ⟨b, off + i, none⟩ = some (.bool x) := by
  obtain ⟨b, off, c, hv, hc, hf, hb, hr⟩ := FlatAt.elem h hi
  have hs : l[i]? = some l[i] := List.getElem?_eq_getElem hi
  refine ⟨l[i], b, off, c, hs, hv, hc, hf, hb, ?_⟩
  have := hr 0 (.bool l[i]) (by simp [List.getElem?_drop, hs])
  simpa using this

def DefBox (y : Nat) (name : ByteArray) (v : Value) (w : World) : Prop := w.heap[y]? = some (.cells #[.string name, v] 31 (0, 0))
theorem DefBox.below {y : Nat} {name : ByteArray} {v : Value} {w w' : World} (h : DefBox y name v w) (hl : Later w w') : DefBox y name v w' := (Below.block hl y (lt_of_block h)).trans h
theorem DefBox.steps {y : Nat} {name : ByteArray} {v : Value} {w : World} (h : DefBox y name v w) : w.cell? ⟨y, 1, none⟩ = some v := (cell_of_row w y 1 _ _ _ h).trans rfl
theorem DefBox.name_ {y : Nat} {name : ByteArray} {v : Value} {w : World} (h : DefBox y name v w) : w.cell? ⟨y, 0, none⟩ = some (.string name) := (cell_of_row w y 0 _ _ _ h).trans rfl

def IdxIs (f : StepD → Bool) (l : List StepD) (i : Int) : Prop := i = if l.findIdx f < l.length then (l.findIdx f : Int) else -1
section
variable {w : World}
set_option maxHeartbeats 2000000 in
theorem index_at {F : Nat → Prop} {v : SetV} {f : StepD → Bool} {A : Option Addr} {n cap : Nat} {l : List StepD} (h : StepsAt F w (.slice A n cap) l) (hn : n = l.length) (hv : AskAt w v f) (hs : n ≤ 1000) :
    Calls Tryz.prog 84 #[.slice A n cap, v.val] w fun e w' => ∃ i : Int, e = .returned (.int .i64 i) ∧ IdxIs f l i ∧ Later w w' := by
  have H := hide h
  have HN := hide hn
  have HV := hide hv
  have eg := hv.1
  unfold Enters at eg
  clear h hn hv
  obtain ⟨FF, cs⟩ := v
  simp only [SetV.val]
  simp only at eg
  go_enter Tryz.func84, Tryz.ntmps84
  go_wp2
  go_loopw [8] (fun i wr => ∃ q : Nat, q ≤ n ∧ i = .int .i64 (q : Int) ∧ (l.take q).any f = false ∧ Later w wr) (fun i _ => n - (Go.RowKit.intOf i).toNat)
  case atStart => exact ⟨0, by omega, rfl, by simp, Later.refl _⟩
  case round =>
    obtain ⟨q, hq, rfl, hall, hlat⟩ := hrel
    have HA := hide hall
    have HL := hide hlat
    clear hall hlat
    by_cases hlt : q < n
    · obtain ⟨s, b, off, c', hs', hvv, _, _, _, hr⟩ := StepsAt.at_ (StepsAt.kept H.out (Kept.of_below HL.out _)) (i := q) (by rw [← HN.out]; exact hlt)
      rw [← HN.out] at hvv
      obtain ⟨rfl, rfl⟩ : A = some ⟨b, off, none⟩ ∧ cap = c' := by injection hvv with e1 _ e3; exact ⟨e1, e3⟩
      obtain ⟨r0, r1, r2, r3, r4, r5⟩ := range_step hr
      have HP := hide hs'
      have C := hide (HV.out.2 wr s HL.out)
      obtain ⟨t, ht⟩ : ∃ t, f s = t := ⟨_, rfl⟩
      rw [ht] at C
      have HT := hide ht
      unfold StepD.cells at C
      simp only at C
      clear hs' hvv hr ht
      go_wp2_with (fail)
      refine C.out.mono ?_
      rintro e w1 ⟨rfl, hl⟩
      have HL1 := hide (HL.out.trans hl)
      clear hl C r0 r1 r2 r3 r4 r5
      cases t with
      | false =>
        go_wp2
        go_roundw
        case rel =>
          refine ⟨q + 1, by omega, by go_num, ?_, HL1.out⟩
          rw [List.take_add_one, HP.out, List.any_append, HA.out]
          simp [HT.out]
        case measure => simp [Go.RowKit.intOf]; omega
      | true =>
        go_wp2
        go_ret
        have hf := find_at HA.out HP.out HT.out
        refine ⟨(q : Int), rfl, ?_, HL1.out⟩
        have hq2 : q < l.length := by rw [← HN.out]; exact hlt
        unfold IdxIs
        rw [hf, if_pos hq2]
    · have hall : l.any f = false := by
        have h1 := HA.out
        rwa [List.take_of_length_le (by have := HN.out; omega)] at h1
      have HALL := hide hall
      clear hall
      go_wp2
      go_ret
      exact ⟨-1, rfl, by unfold IdxIs; rw [find_none HALL.out, if_neg (by omega)], HL.out⟩

theorem pivot1_any (W : World) (a : StepD) : Calls Tryz.prog 85 #[.agg a.cells.toArray] W fun e W' => e = .returned (.bool a.pivot) ∧ Later W W' := by
  have HL : Hid (Later W (W.alloc (.cells a.cells.toArray 67 (0, 0)))) := (Below.refl _ _).alloc (Nat.le_refl _) _
  unfold StepD.cells at *
  go_enter Tryz.func85, Tryz.ntmps85
  go_wp2
  go_ret
  exact ⟨rfl, HL.out⟩
theorem enters_pivot1 : Enters 85 := fun args w => by go_simp

set_option maxHeartbeats 2000000 in
theorem pivot_any {F : Nat → Prop} {name : ByteArray} {v : Value} {l : List StepD} (h : StepsAt F w v l) (hs : l.length ≤ 1000) :
    Calls Tryz.prog 57 #[.agg #[.string name, v]] w fun e w' => e = .returned (.int .i64 ((pivotN l : Nat) : Int)) ∧ Later w w' := by
  obtain ⟨A, cap, rfl, hc1, hc2, _⟩ := FlatAt.shape h
  obtain ⟨n, hn⟩ : ∃ n, l.length = n := ⟨_, rfl⟩
  rw [hn] at h hc1 hs ⊢
  obtain ⟨W1, hW1⟩ : ∃ W1, W1 = w.alloc (.cells #[.string name, .slice A n cap] 31 (0, 0)) := ⟨_, rfl⟩
  obtain ⟨y, hy⟩ : ∃ y, y = w.heap.size := ⟨_, rfl⟩
  have B1 : Hid (DefBox y name (.slice A n cap) W1) := by rw [hW1, hy]; exact heap_alloc_new w _
  have L1 : Hid (Later w W1) := by rw [hW1]; exact (Below.refl _ _).alloc (Nat.le_refl _) _
  have C1 := hide (index_at (w := W1) (v := ⟨85, #[]⟩) (f := fun a => a.pivot) (StepsAt.kept h (Kept.of_below L1.out _)) hn.symm ⟨enters_pivot1, fun W t _ => pivot1_any W t⟩ hs)
  have HR : Hid (∀ i : Int, IdxIs (fun a => a.pivot) l i → i + 1 = ((pivotN l : Nat) : Int) ∧ -1 ≤ i ∧ i ≤ 1000) := fun i hi => by
    unfold pivotN
    unfold IdxIs at hi
    by_cases hq : l.findIdx (fun a => a.pivot) < l.length
    · rw [if_pos hq] at hi ⊢; omega
    · rw [if_neg hq] at hi ⊢; omega
  have HW1 := hide hW1.symm
  have HY := hide hy.symm
  simp only [SetV.val] at C1
  clear h hn hW1 hy hc1 hc2 hs
  go_enter Tryz.func57, Tryz.ntmps57
  go_wp2_with (fail)
  have hw := HW1.out
  have hyy := HY.out
  simp only [hw, hyy]
  clear hw hyy
  have c1 : W1.cell? ⟨y, 1, none⟩ = some (.slice A n cap) := B1.out.steps
  go_wp2_with (fail)
  refine C1.out.mono ?_
  rintro e w2 ⟨i, rfl, hi, hl2⟩
  obtain ⟨e1, e2, e3⟩ := HR.out i hi
  have HE := hide e1
  have HL := hide (L1.out.trans hl2)
  clear hi hl2 C1 e1
  go_wp2
  go_ret
  exact ⟨ret_int HE.out, HL.out⟩

set_option maxHeartbeats 4000000 in
theorem rpivot_any {F : Nat → Prop} {name : ByteArray} {v : Value} {l : List StepD} (h : StepsAt F w v l) (hs : l.length ≤ 1000) :
    Calls Tryz.prog 89 #[.agg #[.string name, v]] w fun e w' => e = .returned (.int .i64 ((pivotN l : Nat) : Int)) ∧ Later w w' := by
  obtain ⟨A, cap, rfl, hc1, hc2, _⟩ := FlatAt.shape h
  obtain ⟨n, hn⟩ : ∃ n, l.length = n := ⟨_, rfl⟩
  rw [hn] at h hc1 hs ⊢
  obtain ⟨W1, hW1⟩ : ∃ W1, W1 = w.alloc (.cells #[.string name, .slice A n cap] 31 (0, 0)) := ⟨_, rfl⟩
  obtain ⟨y, hy⟩ : ∃ y, y = w.heap.size := ⟨_, rfl⟩
  have B1 : Hid (DefBox y name (.slice A n cap) W1) := by rw [hW1, hy]; exact heap_alloc_new w _
  have L1 : Hid (Later w W1) := by rw [hW1]; exact (Below.refl _ _).alloc (Nat.le_refl _) _
  have H := hide (StepsAt.kept h (Kept.of_below L1.out _))
  obtain ⟨P, hP⟩ : ∃ P, pivotN l = P := ⟨_, rfl⟩
  rw [hP]
  have HP := hide hP
  have HN := hide hn
  have HW1 := hide hW1.symm
  have HY := hide hy.symm
  clear h hn hW1 hy hc1 hc2 hP
  go_enter Tryz.func89, Tryz.ntmps89
  go_wp2_with (fail)
  have hw := HW1.out
  have hyy := HY.out
  simp only [hw, hyy]
  clear hw hyy
  have c1 : W1.cell? ⟨y, 1, none⟩ = some (.slice A n cap) := B1.out.steps
  go_wp2_with (fail)
  go_loopw [8] (fun i wr => ∃ q : Nat, q ≤ n ∧ i = .int .i64 (q : Int) ∧ (l.take q).any (fun s => s.pivot) = false ∧ Later W1 wr) (fun i _ => n - (Go.RowKit.intOf i).toNat)
  case atStart => exact ⟨0, by omega, rfl, by simp, Later.refl _⟩
  case round =>
    obtain ⟨q, hq, rfl, hall, hlat⟩ := hrel
    have HA := hide hall
    have HL := hide hlat
    clear hall hlat
    by_cases hlt : q < n
    · obtain ⟨s, b, off, c', hs', hvv, _, _, _, hr⟩ := StepsAt.at_ (StepsAt.kept H.out (Kept.of_below HL.out _)) (i := q) (by rw [HN.out]; exact hlt)
      rw [HN.out] at hvv
      obtain ⟨rfl, rfl⟩ : A = some ⟨b, off, none⟩ ∧ cap = c' := by injection hvv with e1 _ e3; exact ⟨e1, e3⟩
      obtain ⟨r0, r1, r2, r3, r4, r5⟩ := range_step hr
      have HSI := hide hs'
      have HL2 := fun (o : Obj) => hide (HL.out.alloc (Below.size HL.out) o)
      obtain ⟨p, hp⟩ : ∃ p, s.pivot = p := ⟨_, rfl⟩
      rw [hp] at r5
      have HPV := hide hp
      clear hs' hvv hr hp
      cases p with
      | true =>
        have hv : P = q + 1 := by rw [← HP.out]; exact pivot_at HA.out HSI.out HPV.out
        subst hv
        go_wp2
        go_ret
        exact ⟨ret_int (by omega), L1.out.trans (HL2 _).out⟩
      | false =>
        go_wp2
        go_roundw
        case rel =>
          refine ⟨q + 1, by omega, by go_num, ?_, (HL2 _).out⟩
          rw [List.take_add_one, HSI.out, List.any_append, HA.out]
          simp [HPV.out]
        case measure => simp [Go.RowKit.intOf]; omega
    · have hv : P = 0 := by
        rw [← HP.out]
        have h1 := HA.out
        rw [List.take_of_length_le (by have := HN.out; omega)] at h1
        exact pivot_none h1
      subst hv
      go_wp2
      go_ret
      exact ⟨rfl, L1.out.trans HL.out⟩

theorem tries_any (s : StepD) (h : I64 s.retry) : Calls Tryz.prog 100 #[.agg s.cells.toArray] w fun e w' => e = .returned (.int .i64 (triesF s)) ∧ Later w w' := by
  have HL : Hid (Later w (w.alloc (.cells s.cells.toArray 67 (0, 0)))) := (Below.refl _ _).alloc (Nat.le_refl _) _
  unfold I64 at h
  obtain ⟨T, hT⟩ : ∃ T, triesF s = T := ⟨_, rfl⟩
  rw [hT]
  unfold triesF outB at hT
  have HT := hide hT
  unfold StepD.cells at *
  obtain ⟨nm, st, r, wt, un, pv⟩ := s
  simp only at *
  clear hT
  by_cases h1 : r < 0
  · obtain rfl : T = 0 := by rw [← HT.out]; simp [h1]
    go_enter Tryz.func100, Tryz.ntmps100
    go_wp2
    go_ret
    exact ⟨rfl, HL.out⟩
  · by_cases h2 : 9 < r
    · obtain rfl : T = 0 := by rw [← HT.out]; simp [h2]
      go_enter Tryz.func100, Tryz.ntmps100
      go_wp2
      go_ret
      exact ⟨rfl, HL.out⟩
    · obtain rfl : T = r + 1 := by rw [← HT.out]; simp [h1, h2]
      clear HT
      go_enter Tryz.func100, Tryz.ntmps100
      go_wp2
      go_ret
      exact ⟨rfl, HL.out⟩
theorem hit_no {hs : List Bool} {k : Int} (h : k < 1 ∨ (hs.length : Int) < k) : hitB hs k = false := by
  unfold hitB
  rcases h with h | h
  · rw [decide_eq_false (show ¬ 0 < k by omega)]; rfl
  · rw [decide_eq_false (show ¬ k ≤ (hs.length : Int) by omega)]; simp
theorem hit_at {hs : List Bool} {q : Nat} {x : Bool} (h : hs[q]? = some x) : hitB hs ((q : Int) + 1) = x := by
  have hq := (List.getElem?_eq_some_iff.1 h).1
  unfold hitB
  rw [decide_eq_true (show (0 : Int) < (q : Int) + 1 by omega), decide_eq_true (show (q : Int) + 1 ≤ (hs.length : Int) by omega), show ((q : Int) + 1 - 1).toNat = q from by omega, h]
  simp
set_option maxHeartbeats 2000000 in
theorem isHit_any {F : Nat → Prop} {v : Value} {hs : List Bool} {k : Int} (h : BoolsAt F w v hs) :
    Calls Tryz.prog 102 #[v, .int .i64 k] w fun e w' => e = .returned (.bool (hitB hs k)) ∧ w' = w := by
  obtain ⟨A, c, rfl, h1, h2, _⟩ := FlatAt.shape h
  obtain ⟨n, hn⟩ : ∃ n, hs.length = n := ⟨_, rfl⟩
  rw [hn] at h1
  by_cases hk1 : k < 1
  · rw [hit_no (.inl hk1), hn]
    clear h hn
    have hk2 : ¬ 0 < k := by omega
    go_enter Tryz.func102, Tryz.ntmps102
    go_wp2
    go_ret
    exact ⟨rfl, rfl⟩
  · by_cases hk3 : (n : Int) < k
    · rw [hit_no (.inr (by omega)), hn]
      clear h hn
      have hk2 : 0 < k := by omega
      have hk4 : ¬ k ≤ (n : Int) := by omega
      go_enter Tryz.func102, Tryz.ntmps102
      go_wp2
      go_ret
      exact ⟨rfl, rfl⟩
    · obtain ⟨q, rfl⟩ : ∃ q : Nat, k = (q : Int) + 1 := ⟨(k - 1).toNat, by omega⟩
      have hqn : q < n := by omega
      have hq64 : (q : Int) < 9223372036854775807 := by unfold maxLen at h2; omega
      obtain ⟨x, b, off, c', hx, hvv, _, _, _, hr⟩ := BoolsAt.at_ h (i := q) (by omega)
      rw [hn] at hvv ⊢
      obtain ⟨rfl, rfl⟩ : A = some ⟨b, off, none⟩ ∧ c = c' := by injection hvv with e1 _ e3; exact ⟨e1, e3⟩
      rw [hit_at hx]
      have hk2 : (0 : Int) < (q : Int) + 1 := by omega
      have hk4 : (q : Int) + 1 ≤ (n : Int) := by omega
      have hk5 : (q : Int) + 1 - 1 = (q : Int) := by omega
      clear h hn hvv hx hk1 hk3
      go_enter Tryz.func102, Tryz.ntmps102
      go_wp2
      go_ret
      exact ⟨rfl, rfl⟩
set_option maxHeartbeats 2000000 in
theorem ris_any {F : Nat → Prop} {v : Value} {hs : List Bool} {k : Int} (h : BoolsAt F w v hs) (hk : I64 k) :
    Calls Tryz.prog 90 #[v, .int .i64 k] w fun e w' => e = .returned (.bool (hitB hs k)) ∧ w' = w := by
  obtain ⟨A, c, rfl, h1, h2, _⟩ := FlatAt.shape h
  obtain ⟨n, hn⟩ : ∃ n, hs.length = n := ⟨_, rfl⟩
  rw [hn] at h1
  unfold I64 at hk
  by_cases hk1 : k < 1
  · rw [hit_no (.inl hk1), hn]
    clear h hn
    have hk2 : ¬ 1 ≤ k := by omega
    go_enter Tryz.func90, Tryz.ntmps90
    go_wp2
    go_ret
    exact ⟨rfl, rfl⟩
  · by_cases hk3 : (n : Int) < k
    · rw [hit_no (.inr (by omega)), hn]
      clear h hn
      have hk2 : 1 ≤ k := by omega
      have hk4 : ¬ k ≤ (n : Int) := by omega
      go_enter Tryz.func90, Tryz.ntmps90
      go_wp2
      go_ret
      exact ⟨rfl, rfl⟩
    · obtain ⟨q, rfl⟩ : ∃ q : Nat, k = (q : Int) + 1 := ⟨(k - 1).toNat, by omega⟩
      have hqn : q < n := by omega
      obtain ⟨x, b, off, c', hx, hvv, _, _, _, hr⟩ := BoolsAt.at_ h (i := q) (by omega)
      rw [hn] at hvv ⊢
      obtain ⟨rfl, rfl⟩ : A = some ⟨b, off, none⟩ ∧ c = c' := by injection hvv with e1 _ e3; exact ⟨e1, e3⟩
      rw [hit_at hx]
      have hk2 : (1 : Int) ≤ (q : Int) + 1 := by omega
      have hk4 : (q : Int) + 1 ≤ (n : Int) := by omega
      have hk5 : (q : Int) + 1 - 1 = (q : Int) := by omega
      clear h hn hvv hx hk1 hk3
      go_enter Tryz.func90, Tryz.ntmps90
      go_wp2
      go_ret
      exact ⟨rfl, rfl⟩
end
end Go.Proofs.YtpckdhjnhnonhaaGreat
/- How often a step may be tried, and whether there is no way back: the code's and the document's. -/
namespace Go.Proofs.YtpckdhjnhnonhaaGreat
open Go.RowKit

theorem triesN_no {l : List StepD} {k : Int} (h : k < 1 ∨ (l.length : Int) < k) : triesN l k = 0 := by unfold triesN; rw [if_pos h]
theorem triesN_at {l : List StepD} {q : Nat} {s : StepD} (h : l[q]? = some s) : triesN l ((q : Int) + 1) = triesF s := by
  have hq := (List.getElem?_eq_some_iff.1 h).1
  unfold triesN
  rw [if_neg (by omega), show ((q : Int) + 1 - 1).toNat = q from by omega, h]
  rfl
section
variable {w : World}
set_option maxHeartbeats 4000000 in
theorem Tries_any {F : Nat → Prop} {name : ByteArray} {v : Value} {l : List StepD} {k : Int} (h : StepsAt F w v l) (hk : I64 k) (hw : ∀ s ∈ l, s.wf) :
    Calls Tryz.prog 76 #[.agg #[.string name, v], .int .i64 k] w fun e w' => e = .returned (.int .i64 (triesN l k)) ∧ Later w w' := by
  obtain ⟨A, cap, rfl, hc1, hc2, _⟩ := FlatAt.shape h
  obtain ⟨n, hn⟩ : ∃ n, l.length = n := ⟨_, rfl⟩
  rw [hn] at h hc1 ⊢
  obtain ⟨W1, hW1⟩ : ∃ W1, W1 = w.alloc (.cells #[.string name, .slice A n cap] 31 (0, 0)) := ⟨_, rfl⟩
  obtain ⟨y, hy⟩ : ∃ y, y = w.heap.size := ⟨_, rfl⟩
  have B1 : Hid (DefBox y name (.slice A n cap) W1) := by rw [hW1, hy]; exact heap_alloc_new w _
  have L1 : Hid (Later w W1) := by rw [hW1]; exact (Below.refl _ _).alloc (Nat.le_refl _) _
  have HW1 := hide hW1.symm
  have HY := hide hy.symm
  have H := hide (StepsAt.kept h (Kept.of_below L1.out _))
  have c1 : W1.cell? ⟨y, 1, none⟩ = some (.slice A n cap) := B1.out.steps
  obtain ⟨T, hT⟩ : ∃ T, triesN l k = T := ⟨_, rfl⟩
  rw [hT]
  have HT := hide hT
  unfold I64 at hk
  have HN := hide hn
  clear h hW1 hy hT hc2 hn
  by_cases hk1 : k < 1
  · obtain rfl : T = 0 := by rw [← HT.out]; exact triesN_no (.inl hk1)
    go_enter Tryz.func76, Tryz.ntmps76
    go_wp2_with (fail)
    have hw := HW1.out
    have hyy := HY.out
    simp only [hw, hyy]
    clear hw hyy
    go_wp2
    go_ret
    exact ⟨rfl, L1.out⟩
  · by_cases hk3 : (n : Int) < k
    · obtain rfl : T = 0 := by rw [← HT.out]; exact triesN_no (.inr (by rw [HN.out]; exact hk3))
      go_enter Tryz.func76, Tryz.ntmps76
      go_wp2_with (fail)
      have hw := HW1.out
      have hyy := HY.out
      simp only [hw, hyy]
      clear hw hyy
      go_wp2
      go_ret
      exact ⟨rfl, L1.out⟩
    · obtain ⟨q, rfl⟩ : ∃ q : Nat, k = (q : Int) + 1 := ⟨(k - 1).toNat, by omega⟩
      have hqn : q < n := by omega
      obtain ⟨s, b, off, c', hx, hvv, _, _, _, hr⟩ := StepsAt.at_ H.out (i := q) (by rw [HN.out]; exact hqn)
      rw [HN.out] at hvv
      obtain ⟨rfl, rfl⟩ : A = some ⟨b, off, none⟩ ∧ cap = c' := by injection hvv with e1 _ e3; exact ⟨e1, e3⟩
      obtain rfl : T = triesF s := by rw [← HT.out]; exact triesN_at hx
      have C := hide (tries_any (w := W1) s (hw s (List.mem_of_getElem? hx)).2.2.1)
      obtain ⟨r0, r1, r2, r3, r4, r5⟩ := range_step hr
      have hk5 : (q : Int) + 1 - 1 = (q : Int) := by omega
      have hk6 : ¬ ((n : Int) < (q : Int) + 1) := hk3
      have hk7 : ¬ ((q : Int) + 1 < 1) := hk1
      clear hvv hx hk1 hk3 hw hr
      unfold StepD.cells at C
      rw [← HW1.out] at r0 r1 r2 r3 r4 r5
      go_enter Tryz.func76, Tryz.ntmps76
      go_wp2_with (fail)
      have hw := HW1.out
      simp only [hw]
      clear hw r0 r1 r2 r3 r4 r5
      refine C.out.mono ?_
      rintro e w2 ⟨rfl, hl2⟩
      have HL := hide (L1.out.trans hl2)
      clear hl2 C
      go_wp2
      go_ret
      exact ⟨rfl, HL.out⟩

set_option maxHeartbeats 4000000 in
theorem rTries_any {F : Nat → Prop} {name : ByteArray} {v : Value} {l : List StepD} {k : Int} (h : StepsAt F w v l) (hk : I64 k) (hw : ∀ s ∈ l, s.wf) :
    Calls Tryz.prog 81 #[.agg #[.string name, v], .int .i64 k] w fun e w' => e = .returned (.int .i64 (triesN l k)) ∧ Later w w' := by
  obtain ⟨A, cap, rfl, hc1, hc2, _⟩ := FlatAt.shape h
  obtain ⟨n, hn⟩ : ∃ n, l.length = n := ⟨_, rfl⟩
  rw [hn] at h hc1 ⊢
  obtain ⟨W1, hW1⟩ : ∃ W1, W1 = w.alloc (.cells #[.string name, .slice A n cap] 31 (0, 0)) := ⟨_, rfl⟩
  obtain ⟨y, hy⟩ : ∃ y, y = w.heap.size := ⟨_, rfl⟩
  have B1 : Hid (DefBox y name (.slice A n cap) W1) := by rw [hW1, hy]; exact heap_alloc_new w _
  have L1 : Hid (Later w W1) := by rw [hW1]; exact (Below.refl _ _).alloc (Nat.le_refl _) _
  have HW1 := hide hW1.symm
  have HY := hide hy.symm
  have H := hide (StepsAt.kept h (Kept.of_below L1.out _))
  have c1 : W1.cell? ⟨y, 1, none⟩ = some (.slice A n cap) := B1.out.steps
  obtain ⟨T, hT⟩ : ∃ T, triesN l k = T := ⟨_, rfl⟩
  rw [hT]
  have HT := hide hT
  unfold I64 at hk
  have HN := hide hn
  clear h hW1 hy hT hc2 hn
  by_cases hk1 : k < 1
  · obtain rfl : T = 0 := by rw [← HT.out]; exact triesN_no (.inl hk1)
    go_enter Tryz.func81, Tryz.ntmps81
    go_wp2_with (fail)
    have hw := HW1.out
    have hyy := HY.out
    simp only [hw, hyy]
    clear hw hyy
    go_wp2
    go_ret
    exact ⟨rfl, L1.out⟩
  · by_cases hk3 : (n : Int) < k
    · obtain rfl : T = 0 := by rw [← HT.out]; exact triesN_no (.inr (by rw [HN.out]; exact hk3))
      go_enter Tryz.func81, Tryz.ntmps81
      go_wp2_with (fail)
      have hw := HW1.out
      have hyy := HY.out
      simp only [hw, hyy]
      clear hw hyy
      go_wp2
      go_ret
      exact ⟨rfl, L1.out⟩
    · obtain ⟨q, rfl⟩ : ∃ q : Nat, k = (q : Int) + 1 := ⟨(k - 1).toNat, by omega⟩
      have hqn : q < n := by omega
      obtain ⟨s, b, off, c', hx, hvv, _, _, _, hr⟩ := StepsAt.at_ H.out (i := q) (by rw [HN.out]; exact hqn)
      rw [HN.out] at hvv
      obtain ⟨rfl, rfl⟩ : A = some ⟨b, off, none⟩ ∧ cap = c' := by injection hvv with e1 _ e3; exact ⟨e1, e3⟩
      have hTs : T = triesF s := by rw [← HT.out]; exact triesN_at hx
      have hwf := (hw s (List.mem_of_getElem? hx)).2.2.1
      unfold triesF outB at hTs
      unfold I64 at hwf
      obtain ⟨r0, r1, r2, r3, r4, r5⟩ := range_step hr
      have hk5 : (q : Int) + 1 - 1 = (q : Int) := by omega
      have hk6 : ¬ ((n : Int) < (q : Int) + 1) := hk3
      have hk7 : ¬ ((q : Int) + 1 < 1) := hk1
      obtain ⟨r, hrr⟩ : ∃ r, s.retry = r := ⟨_, rfl⟩
      rw [hrr] at r2 hTs hwf
      clear hvv hx hk1 hk3 hw hr r0 r1 r3 r4 r5 hrr
      by_cases h1 : r < 0
      · obtain rfl : T = 0 := by rw [hTs]; simp [h1]
        clear hTs
        rw [← HW1.out] at r2
        go_enter Tryz.func81, Tryz.ntmps81
        go_wp2
        rw [HW1.out]
        go_ret
        exact ⟨rfl, L1.out⟩
      · by_cases h2 : 9 < r
        · obtain rfl : T = 0 := by rw [hTs]; simp [h2]
          clear hTs
          rw [← HW1.out] at r2
          go_enter Tryz.func81, Tryz.ntmps81
          go_wp2
          rw [HW1.out]
          go_ret
          exact ⟨rfl, L1.out⟩
        · obtain rfl : T = r + 1 := by rw [hTs]; simp [h1, h2]
          clear hTs HT
          rw [← HW1.out] at r2
          go_enter Tryz.func81, Tryz.ntmps81
          go_wp2
          rw [HW1.out]
          go_ret
          exact ⟨rfl, L1.out⟩

set_option maxHeartbeats 2000000 in
theorem sealed_any {F G : Nat → Prop} {name : ByteArray} {v v2 : Value} {l : List StepD} {hs : List Bool} (h : StepsAt F w v l) (hl : l.length ≤ 1000) (hh : BoolsAt G w v2 hs) :
    Calls Tryz.prog 83 #[.agg #[.string name, v], v2] w fun e w' => e = .returned (.bool (sealedF l hs)) ∧ Later w w' := by
  obtain ⟨A, cap, rfl, hc1, hc2, _⟩ := FlatAt.shape h
  obtain ⟨A2, cap2, rfl, _, _, _⟩ := FlatAt.shape hh
  obtain ⟨n, hn⟩ : ∃ n, l.length = n := ⟨_, rfl⟩
  obtain ⟨n2, hn2⟩ : ∃ n, hs.length = n := ⟨_, rfl⟩
  rw [hn] at h hc1
  rw [hn2] at hh
  rw [hn, hn2]
  obtain ⟨W1, hW1⟩ : ∃ W1, W1 = w.alloc (.cells #[.string name, .slice A n cap] 31 (0, 0)) := ⟨_, rfl⟩
  obtain ⟨y, hy⟩ : ∃ y, y = w.heap.size := ⟨_, rfl⟩
  have B1 : Hid (DefBox y name (.slice A n cap) W1) := by rw [hW1, hy]; exact heap_alloc_new w _
  have L1 : Hid (Later w W1) := by rw [hW1]; exact (Below.refl _ _).alloc (Nat.le_refl _) _
  have HW1 := hide hW1.symm
  have HY := hide hy.symm
  have C1 := hide (pivot_any (name := name) (StepsAt.kept h (Kept.of_below L1.out _)) hl)
  have C2 : Hid (∀ W, Later w W → Calls Tryz.prog 102 #[.slice A2 n2 cap2, .int .i64 ((pivotN l : Nat) : Int)] W fun e w' => e = .returned (.bool (sealedF l hs)) ∧ w' = W) := fun W hlW => isHit_any (BoolsAt.kept hh (Kept.of_below hlW _))
  have c0 : W1.cell? ⟨y, 0, none⟩ = some (.string name) := B1.out.name_
  have c1 : W1.cell? ⟨y, 1, none⟩ = some (.slice A n cap) := B1.out.steps
  obtain ⟨S, hS⟩ : ∃ S, sealedF l hs = S := ⟨_, rfl⟩
  obtain ⟨P, hP⟩ : ∃ P : Nat, pivotN l = P := ⟨_, rfl⟩
  rw [hS] at C2 ⊢
  rw [hP] at C1 C2
  clear h hh hn hn2 hW1 hy hc1 hc2 hS hP
  go_enter Tryz.func83, Tryz.ntmps83
  go_wp2_with (fail)
  have hw := HW1.out
  have hyy := HY.out
  simp only [hw, hyy]
  clear hw hyy
  go_wp2_with (fail)
  refine C1.out.mono ?_
  rintro e w2 ⟨rfl, hl2⟩
  have HL := hide (L1.out.trans hl2)
  clear hl2 C1 c0 c1
  go_wp2_with (fail)
  refine (C2.out _ HL.out).mono ?_
  rintro e w3 ⟨rfl, hq⟩
  obtain rfl := hq.symm
  go_wp2
  go_ret
  exact ⟨rfl, HL.out⟩

set_option maxHeartbeats 2000000 in
theorem rsealed_any {F G : Nat → Prop} {name : ByteArray} {v v2 : Value} {l : List StepD} {hs : List Bool} (h : StepsAt F w v l) (hl : l.length ≤ 1000) (hh : BoolsAt G w v2 hs) :
    Calls Tryz.prog 67 #[.agg #[.string name, v], v2] w fun e w' => e = .returned (.bool (sealedF l hs)) ∧ Later w w' := by
  obtain ⟨A, cap, rfl, hc1, hc2, _⟩ := FlatAt.shape h
  obtain ⟨A2, cap2, rfl, _, _, _⟩ := FlatAt.shape hh
  obtain ⟨n, hn⟩ : ∃ n, l.length = n := ⟨_, rfl⟩
  obtain ⟨n2, hn2⟩ : ∃ n, hs.length = n := ⟨_, rfl⟩
  have hle := pivotN_le l
  rw [hn] at h hc1
  rw [hn2] at hh
  rw [hn, hn2]
  obtain ⟨W1, hW1⟩ : ∃ W1, W1 = w.alloc (.cells #[.string name, .slice A n cap] 31 (0, 0)) := ⟨_, rfl⟩
  obtain ⟨y, hy⟩ : ∃ y, y = w.heap.size := ⟨_, rfl⟩
  have B1 : Hid (DefBox y name (.slice A n cap) W1) := by rw [hW1, hy]; exact heap_alloc_new w _
  have L1 : Hid (Later w W1) := by rw [hW1]; exact (Below.refl _ _).alloc (Nat.le_refl _) _
  have HW1 := hide hW1.symm
  have HY := hide hy.symm
  have C1 : Hid (∀ W, Later w W → Calls Tryz.prog 89 #[.agg #[.string name, .slice A n cap]] W fun e w' => e = .returned (.int .i64 ((pivotN l : Nat) : Int)) ∧ Later W w') := by
    have h2 := fun W (hlW : Later w W) => rpivot_any (name := name) (StepsAt.kept h (Kept.of_below hlW _)) hl
    exact h2
  have C2 : Hid (∀ W, Later w W → Calls Tryz.prog 90 #[.slice A2 n2 cap2, .int .i64 ((pivotN l : Nat) : Int)] W fun e w' => e = .returned (.bool (sealedF l hs)) ∧ w' = W) := fun W hlW => ris_any (BoolsAt.kept hh (Kept.of_below hlW _)) (by unfold I64; omega)
  have c0 : W1.cell? ⟨y, 0, none⟩ = some (.string name) := B1.out.name_
  have c1 : W1.cell? ⟨y, 1, none⟩ = some (.slice A n cap) := B1.out.steps
  obtain ⟨S, hS⟩ : ∃ S, sealedF l hs = S := ⟨_, rfl⟩
  have HS0 : Hid (pivotN l = 0 → S = false) := fun h0 => by rw [← hS]; unfold sealedF; exact hit_no (.inl (by rw [h0]; decide))
  obtain ⟨P, hP⟩ : ∃ P : Nat, pivotN l = P := ⟨_, rfl⟩
  rw [hS] at C2 ⊢
  rw [hP] at C1 C2 HS0 hle
  clear h hh hn hn2 hW1 hy hc1 hc2 hS hP
  go_enter Tryz.func67, Tryz.ntmps67
  go_wp2_with (fail)
  have hw := HW1.out
  have hyy := HY.out
  simp only [hw, hyy]
  clear hw hyy
  go_wp2_with (fail)
  refine (C1.out _ L1.out).mono ?_
  rintro e w2 ⟨rfl, hl2⟩
  have B2 := hide (B1.out.below hl2)
  have HL := hide (L1.out.trans hl2)
  have d0 : w2.cell? ⟨y, 0, none⟩ = some (.string name) := B2.out.name_
  have d1 : w2.cell? ⟨y, 1, none⟩ = some (.slice A n cap) := B2.out.steps
  clear hl2 c0 c1
  by_cases hp : P = 0
  · subst hp
    obtain rfl : S = false := HS0.out rfl
    go_wp2
    go_ret
    exact ⟨rfl, HL.out⟩
  · have hp2 : (0 : Int) < (P : Int) := by omega
    go_wp2_with (fail)
    refine (C1.out _ HL.out).mono ?_
    rintro e w3 ⟨rfl, hl3⟩
    have HL3 := hide (HL.out.trans hl3)
    clear hl3 d0 d1 C1
    go_wp2_with (fail)
    refine (C2.out _ HL3.out).mono ?_
    rintro e w4 ⟨rfl, hq⟩
    obtain rfl := hq.symm
    go_wp2
    go_ret
    exact ⟨rfl, HL3.out⟩
end
end Go.Proofs.YtpckdhjnhnonhaaGreat
/- The way down: steps are gone down by a range over a function. -/
namespace Go.Proofs.YtpckdhjnhnonhaaGreat
open Go.RowKit Go.Shelf

attribute [local go_sem] Oper.semAt_some

def noStep : StepD := ⟨⟨#[]⟩, 0, 0, 0, false, false⟩
def cameN (l : List StepD) (N k : Nat) : List (Nat × StepD) := (List.range k).map fun j => (N - j, (l[N - j - 1]?).getD noStep)
theorem came_succ (l : List StepD) (N k : Nat) : cameN l N (k + 1) = cameN l N k ++ [(N - k, (l[N - k - 1]?).getD noStep)] := by simp [cameN, List.range_succ]
theorem came_len (l : List StepD) (N k : Nat) : (cameN l N k).length = k := by simp [cameN]
theorem came_mem {l : List StepD} {N k j : Nat} (h : j < k) : (N - j, (l[N - j - 1]?).getD noStep) ∈ cameN l N k := by
  simp only [cameN, List.mem_map, List.mem_range]; exact ⟨j, h, rfl⟩
def offB (hs : List Bool) (p : Nat × StepD) : Bool := p.2.undo && hitB hs (p.1 : Int)
theorem off_at {l : List StepD} {hs : List Bool} {N j : Nat} (h : j < N) (hN : N ≤ l.length) : offB hs (N - j, (l[N - j - 1]?).getD noStep) = okAt l hs (N - j - 1) := by
  have hl : l[N - j - 1]? = some l[N - j - 1] := List.getElem?_eq_getElem (by omega)
  rw [okAt_hit hl]
  unfold offB
  rw [hl]
  simp only [Option.getD_some]
  rw [show ((N - j : Nat) : Int) = ((N - j - 1 : Nat) : Int) + 1 from by omega]
theorem down_skip {l : List StepD} {hs : List Bool} {N : Nat} : ∀ (k : Nat), k ≤ N → (∀ j, j < k → okAt l hs (N - j - 1) = false) → downN l hs N = downN l hs (N - k)
  | 0, _, _ => rfl
  | k + 1, hk, h => by
    rw [down_skip k (by omega) fun j hj => h j (by omega)]
    have h1 := h k (by omega)
    obtain ⟨m, hm⟩ : ∃ m, N - k = m + 1 := ⟨N - k - 1, by omega⟩
    rw [show N - k - 1 = m from by omega] at h1
    rw [hm, show N - (k + 1) = m from by omega, downN, if_neg (by rw [h1]; simp)]
theorem down_all {l : List StepD} {hs : List Bool} {N : Nat} (hN : N ≤ l.length) (h : ∀ p ∈ cameN l N N, offB hs p = false) : downN l hs N = 0 := by
  rw [down_skip N (Nat.le_refl _) fun j hj => by rw [← off_at hj hN]; exact h _ (came_mem hj), Nat.sub_self]
  rfl
theorem down_found {l : List StepD} {hs : List Bool} {N k : Nat} (hN : N ≤ l.length) (hk : k ≤ N) {ini : List (Nat × StepD)} {p : Nat × StepD} (he : cameN l N k = ini ++ [p]) (hi : ∀ q ∈ ini, offB hs q = false) (hp : offB hs p = true) : downN l hs N = p.1 := by
  obtain ⟨k', rfl⟩ : ∃ k', k = k' + 1 := by
    cases k with
    | zero => simp [cameN] at he
    | succ k' => exact ⟨k', rfl⟩
  rw [came_succ] at he
  obtain ⟨rfl, e5⟩ := List.append_inj' he rfl
  obtain rfl : (N - k', (l[N - k' - 1]?).getD noStep) = p := by simpa using e5
  rw [down_skip k' (by omega) fun j hj => by rw [← off_at (by omega) hN]; exact hi _ (came_mem hj)]
  rw [off_at (by omega) hN] at hp
  obtain ⟨m, hm⟩ : ∃ m, N - k' = m + 1 := ⟨N - k' - 1, by omega⟩
  rw [hm, Nat.add_sub_cancel] at hp
  rw [hm, downN, if_pos hp]

def Gave (l : List StepD) (N : Nat) (J Jx : List (Nat × StepD) → World → Prop) (W : World) : Prop := (∃ ys, ys = cameN l N N ∧ J ys W) ∨ (∃ pre, (∃ k, k ≤ N ∧ pre = cameN l N k) ∧ Jx pre W)
abbrev encS (x : Nat × StepD) : Array Value := #[.int .i64 (x.1 : Int), .agg #[.string x.2.name, .int .i64 x.2.stub, .int .i64 x.2.retry, .int .i64 x.2.wait, .bool x.2.undo, .bool x.2.pivot]]

set_option maxRecDepth 100000 in
set_option maxHeartbeats 2000000 in
theorem down1_in {G : Nat → Prop} (F : Fence) (n : Nat) (hF : F.fn 114) (hro : F.round = none) (hn : 1 ≤ n) (lr bf bl len cap N : Nat) {A : Option Addr} {l : List StepD} {w : World} (H : Hid (StepsAt G w (.slice A len cap) l)) (hlen : Hid (l.length = len)) (M : Int) (hM : M ≤ (len : Int)) (hM2 : -9223372036854775808 ≤ M) (hlen2 : len ≤ 1000) (hN : N = M.toNat) (fr : Int) (hfr : min fr (len : Int) = M) (J Jx : List (Nat × StepD) → World → Prop)
    (hY : ∀ pre x W, J pre W → pre.length < N → YieldAt F (n - 1) Tryz.prog lr (encS x) W fun e W' =>
      (e = .returned (.bool true) ∧ J (pre ++ [x]) W' ∧ Below w.heap.size W W') ∨ (e = .returned (.bool false) ∧ Jx (pre ++ [x]) W'))
    (W : World) (hW : Below w.heap.size w W) (bF : bf < w.heap.size) (bL : bl < w.heap.size) (hf : w.cell? ⟨bf, 0, none⟩ = some (.int .i64 fr)) (hl : w.cell? ⟨bl, 0, none⟩ = some (.slice A len cap)) (h0 : J [] W) :
    CallsIn F n Tryz.prog 114 #[.func (.yield lr) #[] #[], .pointer (some ⟨bf, 0, none⟩), .pointer (some ⟨bl, 0, none⟩)] W fun e W' => (∃ v, e = .returned v) ∧ Gave l N J Jx W' := by
  have cf : W.cell? ⟨bf, 0, none⟩ = some (.int .i64 fr) := (hW.cell (p := ⟨bf, 0, none⟩) bF).trans hf
  have cl : W.cell? ⟨bl, 0, none⟩ = some (.slice A len cap) := (hW.cell (p := ⟨bl, 0, none⟩) bL).trans hl
  have HM := hide hfr
  have HL := hide hl
  clear hfr hf hl
  refine callsIn_of_wp Tryz.func114 rfl hF ?_ hro
  simp only [Tryz.ntmps114, List.size_toArray, List.length_cons, List.length_nil, Nat.reduceAdd, Nat.reduceSub, Array.replicate_succ, Array.replicate_zero, List.push_toArray, List.append_toArray, List.nil_append, List.cons_append]
  gi_wp2
  have hm := HM.out
  simp only [hm]
  clear hm cf cl
  gi_loopw [4] (fun i wr => ∃ k : Nat, k ≤ N ∧ i = .int .i64 (M - (k : Int)) ∧ J (cameN l N k) wr ∧ Below w.heap.size w wr)
    (fun i _ => (Go.RowKit.intOf i).toNat)
  case atStart => exact ⟨0, Nat.zero_le _, by simp, h0, hW⟩
  case round =>
    obtain ⟨k, hk, rfl, hJs, hnx⟩ := hrel
    have cl : wr.cell? ⟨bl, 0, none⟩ = some (.slice A len cap) := (hnx.cell (p := ⟨bl, 0, none⟩) bL).trans HL.out
    by_cases hlt : k < N
    · have hq : N - k - 1 < len := by omega
      obtain ⟨s, b, off, c', hx, hvv, _, _, _, hr⟩ := StepsAt.at_ (StepsAt.kept H.out (Kept.of_below hnx _)) (i := N - k - 1) (by rw [hlen.out]; exact hq)
      rw [hlen.out] at hvv
      obtain ⟨rfl, rfl⟩ : A = some ⟨b, off, none⟩ ∧ cap = c' := by injection hvv with e1 _ e3; exact ⟨e1, e3⟩
      obtain ⟨fn, tmps, assign, body, hy, hR⟩ := hY _ (N - k, s) wr hJs (by rw [came_len]; exact hlt)
      obtain ⟨q, hqq⟩ : ∃ q : Nat, N - k - 1 = q := ⟨_, rfl⟩
      rw [hqq] at hr hq hx
      obtain ⟨r0, r1, r2, r3, r4, r5⟩ := range_step hr
      have e1 : M - (k : Int) = (q : Int) + 1 := by omega
      have e2 : N - k = q + 1 := by omega
      have e3 : (q : Int) + 1 - 1 = (q : Int) := by omega
      have HX := hide hx
      have HQ := hide hqq
      dsimp only [encS] at hy
      rw [e2] at hy hR
      simp only [Int.natCast_add, Int.cast_ofNat_Int] at hy
      have HK := hide hk
      have HLT := hide hlt
      have HN := hide hN
      have HMM := hide hM
      have hq0 : 0 < (q : Int) + 1 := by omega
      have HE1 := hide e1
      have HE2 := hide e2
      simp only [e1]
      clear hx hqq hvv hr e1 e2 hk hlt hN hM
      gi_wp2
      refine hR.mono ?_
      have hcame : cameN l N k ++ [(q + 1, s)] = cameN l N (k + 1) := by
        rw [came_succ, HE2.out, Nat.add_sub_cancel, HX.out]
        rfl
      rw [hcame]
      rintro e W3 (⟨rfl, hJ3, hk3⟩ | ⟨rfl, hJx3⟩)
      · gi_wp2
        go_roundw
        case rel => exact ⟨k + 1, HLT.out, by have := HE1.out; rw [show (q : Int) = M - ((k + 1 : Nat) : Int) from by omega], hJ3, hnx.trans hk3⟩
        case measure => simp [Go.RowKit.intOf]
      · gi_wp2
        refine bodyPost_ret (results_none rfl _ _ _) rfl ?_
        exact ⟨⟨_, rfl⟩, .inr ⟨_, ⟨k + 1, HLT.out, rfl⟩, hJx3⟩⟩
    · have hno : ¬ 0 < M - (k : Int) := by omega
      have hkN : k = N := by omega
      rw [hkN] at hJs
      have HJ := hide hJs
      clear hN hkN hJs hlt hk hM hM2 hY
      gi_wp2
      go_end0
      exact ⟨⟨_, rfl⟩, .inl ⟨_, rfl, HJ.out⟩⟩

theorem down_stops {G : Nat → Prop} (F : Fence) (n : Nat) (hF : F.fn 114) (hro : F.round = none) (hn : 1 ≤ n) (bf bl len cap N : Nat) {A : Option Addr} {l : List StepD} {w : World} (H : StepsAt G w (.slice A len cap) l) (hlen : l.length = len) (hlen2 : len ≤ 1000) (fr : Int) (hfr : I64 fr) (hN : N = (min fr (len : Int)).toNat)
    (bF : bf < w.heap.size) (bL : bl < w.heap.size) (hf : w.cell? ⟨bf, 0, none⟩ = some (.int .i64 fr)) (hl : w.cell? ⟨bl, 0, none⟩ = some (.slice A len cap)) :
    SeqStopsK F n Tryz.prog 114 #[.pointer (some ⟨bf, 0, none⟩), .pointer (some ⟨bl, 0, none⟩)] encS (Below w.heap.size) (fun ys => ys = cameN l N N) (fun pre => ∃ k, k ≤ N ∧ pre = cameN l N k) N w :=
  fun lr J Jx W hW _ _ hY h0 => down1_in F n hF hro hn lr bf bl len cap N (hide H) (hide hlen) (min fr (len : Int)) (by omega) (by unfold I64 at hfr; omega) hlen2 hN fr rfl J Jx hY W hW bF bL hf hl h0

theorem step_own {β : Type} (B : Nat) (s : StepD) : Own (fun (_ : β) W => StepBox B s W) := fun _ X Y row hs hg hrow =>
  (hg.block B (lt_of_block hs) (fun e => by obtain ⟨o, h1, h2⟩ := hrow B e.symm; rw [show X.heap[B]? = _ from hs] at h1; cases h1; cases h2)).trans hs

set_option maxHeartbeats 1000000 in
theorem downF_any (A : Option Addr) (len cap : Nat) (fr : Int) (w : World) :
    Calls Tryz.prog 103 #[.slice A len cap, .int .i64 fr] w fun e w' => e = .returned (.func (.func 114) #[] #[.pointer (some ⟨w.heap.size + 1, 0, none⟩), .pointer (some ⟨w.heap.size, 0, none⟩)]) ∧ w' = (w.alloc (.cells #[.slice A len cap] 29 (0, 0))).alloc (.cells #[.int .i64 fr] 3 (0, 0)) := by
  go_enter Tryz.func103, Tryz.ntmps103
  go_wp2
  go_ret
  exact ⟨rfl, rfl⟩

set_option maxRecDepth 100000 in
set_option maxHeartbeats 4000000 in
theorem Down_any {G G2 : Nat → Prop} {name : ByteArray} {v v2 : Value} {l : List StepD} {hs : List Bool} {fr : Int} {w : World} (h : StepsAt G w v l) (hl : l.length ≤ 1000) (hh : BoolsAt G2 w v2 hs) (hfr : I64 fr) :
    Calls Tryz.prog 88 #[.agg #[.string name, v], v2, .int .i64 fr] w fun e w' => e = .returned (.int .i64 ((downF l hs fr : Nat) : Int)) ∧ Later w w' := by
  obtain ⟨A, cap, rfl, hc1, hc2, _⟩ := FlatAt.shape h
  obtain ⟨A2, cap2, rfl, _, _, _⟩ := FlatAt.shape hh
  obtain ⟨len, hn⟩ : ∃ n, l.length = n := ⟨_, rfl⟩
  obtain ⟨n2, hn2⟩ : ∃ n, hs.length = n := ⟨_, rfl⟩
  rw [hn] at h hc1 hl ⊢
  rw [hn2] at hh ⊢
  have HN2 := hide hn2
  obtain ⟨R, hR⟩ : ∃ R, downF l hs fr = R := ⟨_, rfl⟩
  rw [hR]
  obtain ⟨N, hN⟩ : ∃ N, N = (min fr (len : Int)).toNat := ⟨_, rfl⟩
  have hR2 : R = downN l hs N := by rw [← hR, hN]; unfold downF; rw [hn]
  have hNl : N ≤ l.length := by omega
  have HR := hide hR2
  have HN := hide hN
  have HNL := hide hNl
  have HLEN := hide hn
  have H := hide h
  have HH := hide hh
  clear h hh hn hn2 hR hR2 hc1 hc2 hN hNl
  refine (callsIn_wide (n := 5)).1 ?_
  refine callsIn_of_wp_marks Tryz.func88 rfl trivial ?_ rfl
  simp only [Tryz.ntmps88, List.size_toArray, List.length_cons, List.length_nil, Nat.reduceAdd, Nat.reduceSub, Array.replicate_succ, Array.replicate_zero, List.push_toArray, List.append_toArray, List.nil_append, List.cons_append]
  gi_wp2_with (refine ⟨trivial, ?_⟩; gi_at_call 103; refine (callsIn_wide.2 (downF_any _ _ _ _ _)).mono ?_; rintro e w' ⟨rfl, rfl⟩)
  have bH := (((Boxed.new (w.alloc (.cells #[.string name, .slice A len cap] 31 (0, 0))) 104 (.slice A2 n2 cap2)).alloc (.cells #[.int .i64 0] 3 (0, 0))).alloc (.cells #[.slice A len cap] 29 (0, 0))).alloc (.cells #[.int .i64 fr] 3 (0, 0))
  have bR := ((Boxed.new ((w.alloc (.cells #[.string name, .slice A len cap] 31 (0, 0))).alloc (.cells #[.slice A2 n2 cap2] 104 (0, 0))) 3 (.int .i64 0)).alloc (.cells #[.slice A len cap] 29 (0, 0))).alloc (.cells #[.int .i64 fr] 3 (0, 0))
  have bL := (Boxed.new (((w.alloc (.cells #[.string name, .slice A len cap] 31 (0, 0))).alloc (.cells #[.slice A2 n2 cap2] 104 (0, 0))).alloc (.cells #[.int .i64 0] 3 (0, 0))) 29 (.slice A len cap)).alloc (.cells #[.int .i64 fr] 3 (0, 0))
  have bF := Boxed.new ((((w.alloc (.cells #[.string name, .slice A len cap] 31 (0, 0))).alloc (.cells #[.slice A2 n2 cap2] 104 (0, 0))).alloc (.cells #[.int .i64 0] 3 (0, 0))).alloc (.cells #[.slice A len cap] 29 (0, 0))) 3 (.int .i64 fr)
  have hB0 : Below w.heap.size w (((((w.alloc (.cells #[.string name, .slice A len cap] 31 (0, 0))).alloc (.cells #[.slice A2 n2 cap2] 104 (0, 0))).alloc (.cells #[.int .i64 0] 3 (0, 0))).alloc (.cells #[.slice A len cap] 29 (0, 0))).alloc (.cells #[.int .i64 fr] 3 (0, 0))) :=
    (((((Below.refl _ w).alloc (Nat.le_refl _) _).alloc (by simp) _).alloc (by simp; omega) _).alloc (by simp; omega) _).alloc (by simp; omega) _
  have hsz : (((((w.alloc (.cells #[.string name, .slice A len cap] 31 (0, 0))).alloc (.cells #[.slice A2 n2 cap2] 104 (0, 0))).alloc (.cells #[.int .i64 0] 3 (0, 0))).alloc (.cells #[.slice A len cap] 29 (0, 0))).alloc (.cells #[.int .i64 fr] 3 (0, 0))).heap.size = w.heap.size + 5 := by simp
  simp only [World.size_alloc] at bH bR bL bF
  obtain ⟨W0, hW0⟩ : ∃ W0, ((((w.alloc (.cells #[.string name, .slice A len cap] 31 (0, 0))).alloc (.cells #[.slice A2 n2 cap2] 104 (0, 0))).alloc (.cells #[.int .i64 0] 3 (0, 0))).alloc (.cells #[.slice A len cap] 29 (0, 0))).alloc (.cells #[.int .i64 fr] 3 (0, 0)) = W0 := ⟨_, rfl⟩
  rw [hW0] at bH bR bL bF hB0 hsz ⊢
  clear hW0
  have H0 := StepsAt.kept H.out (Kept.of_below hB0 _)
  refine wpIn_rangeFunc_ownH rfl (by omega) (gf := 114) (lb := #[.pointer (some ⟨w.heap.size + 1 + 1 + 1 + 1, 0, none⟩), .pointer (some ⟨w.heap.size + 1 + 1 + 1, 0, none⟩)]) rfl trivial (enters_of Tryz.func114 (by kernel_rfl) rfl)
    (down_stops Fence.wide _ trivial rfl (by omega) (w.heap.size + 1 + 1 + 1 + 1) (w.heap.size + 1 + 1 + 1) len cap N H0 HLEN.out hl fr hfr HN.out (by omega) (by omega) bF.cell bL.cell) belowK_t (belowK_b (Nat.le_refl _)) (Below.refl _ _) (fun _ => rfl)
    (fun pre W => (((∀ p ∈ pre, offB hs p = false) ∧ Boxed W (w.heap.size + 1 + 1) 3 (.int .i64 0)) ∧ Boxed W (w.heap.size + 1) 104 (.slice A2 n2 cap2)) ∧ (Below w.heap.size w W ∧ W0.heap.size ≤ W.heap.size))
    (fun c pre W => (c = .ret ∧ ∃ ini p, pre = ini ++ [p] ∧ (∀ q ∈ ini, offB hs q = false) ∧ offB hs p = true ∧ Boxed W (w.heap.size + 1 + 1) 3 (.int .i64 (p.1 : Int))) ∧ Below w.heap.size w W)
    (OwnFrom.and (OwnFrom.and (OwnFrom.and (ownFrom_pure _ _) (Own.from (boxed_own _ _ _) _)) (Own.from (boxed_own _ _ _) _)) (OwnFrom.and (ownFrom_below (Nat.le_refl _) (by omega)) (fun _ X Y row hs' hg _ => Nat.le_trans hs' hg.size)))
    (fun c => OwnFrom.and (fun s X Y row hs' hg hr => by
      obtain ⟨hc, ini, p, e1, e2, e3, e4⟩ := hs'
      exact ⟨hc, ini, p, e1, e2, e3, boxed_own _ _ (fun (_ : Unit) => Value.int .i64 (p.1 : Int)) () X Y row e4 hg (fun r e => (hr r e).2)⟩) (ownFrom_below (Nat.le_refl _) (by omega)))
    ⟨⟨⟨by simp, bR⟩, bH⟩, hB0, Nat.le_refl _⟩
    (fun x a' W => ∃ Bx, w.heap.size + 4 < Bx ∧ StepBox Bx x.2 W ∧ a' = { tmps := #[.agg #[.string name, .slice A len cap], .slice A2 n2 cap2, .int .i64 fr, .pointer (some ⟨w.heap.size, 0, none⟩), .pointer (some ⟨w.heap.size + 1, 0, none⟩), undef, .pointer (some ⟨w.heap.size + 1 + 1, 0, none⟩), .int .i64 (x.1 : Int), .pointer (some ⟨Bx, 0, none⟩), .pointer (some ⟨w.heap.size, 1, none⟩), .slice A len cap, .int .i64 fr, .func (.func 114) #[] #[.pointer (some ⟨w.heap.size + 1 + 1 + 1 + 1, 0, none⟩), .pointer (some ⟨w.heap.size + 1 + 1 + 1, 0, none⟩)], .int .i64 (x.1 : Int), .agg #[.string x.2.name, .int .i64 x.2.stub, .int .i64 x.2.retry, .int .i64 x.2.wait, .bool x.2.undo, .bool x.2.pivot], undef, undef, undef, undef, undef, undef, undef, undef], defers := [] })
    (fun x a' _ X Y row hs' hg hr => by obtain ⟨Bx, e1, e2, e3⟩ := hs'; exact ⟨Bx, e1, step_own (β := Unit) Bx x.2 () X Y row e2 hg (fun r e => (hr r e).2), e3⟩)
    ?assign ?body ?done ?stop
  case assign =>
    rintro lr pre x W K ⟨⟨⟨hp, bR1⟩, bH1⟩, hB1, hS1⟩ hK
    gi_wp2
    exact hK _ _ ((KeepsOthers.alloc _ _).from _) ((Below.refl _ W).alloc hS1 _) ⟨⟨⟨hp, bR1.alloc _⟩, bH1.alloc _⟩, hB1.alloc hB1.size _, by simp; omega⟩ ⟨W.heap.size, by omega, heap_alloc_new W _, rfl⟩
  case body =>
    rintro lr pre x a' W hl' ⟨r, hr⟩ ⟨⟨⟨hp, bR1⟩, bH1⟩, hB1, hS1⟩ ⟨Bx, hBx, bX, rfl⟩ hlt
    have cH := bH1.cell
    have cR := bR1.cell
    have fR := bR1.frozen
    obtain ⟨b0, b1, b2, b3, b4, b5, bf⟩ := bX.cells
    have C := hide (isHit_any (k := (x.1 : Int)) (BoolsAt.kept HH.out (Kept.of_below hB1 _)))
    obtain ⟨q, hq⟩ : ∃ q, hitB hs (x.1 : Int) = q := ⟨_, rfl⟩
    obtain ⟨un, hun⟩ : ∃ un, x.2.undo = un := ⟨_, rfl⟩
    have HOF : Hid (offB hs x = (un && q)) := by show _ = _; unfold offB; rw [hq, hun]
    rw [hq] at C
    rw [hun] at b4
    have HP := hide hp
    clear b0 b1 b2 b3 b5 bf hq hun hp
    cases un with
    | false =>
      gi_wp2
      refine ⟨trivial, ?_⟩
      gi_wp2
      refine ⟨KeepsFrom.refl _ _, Below.refl _ _, ⟨⟨fun p hp' => ?_, bR1⟩, bH1⟩, hB1, hS1⟩
      rcases List.mem_append.1 hp' with h1 | h1
      · exact HP.out p h1
      · obtain rfl : p = x := by simpa using h1
        rw [HOF.out]; rfl
    | true =>
      gi_wp2_with (refine ⟨trivial, ?_⟩; gi_at_call 102; refine (CallsIn.inRound lr (callsIn_wide.2 C.out)).mono ?_; rintro e w' ⟨rfl, rfl⟩)
      · rename_i hq
        subst hq
        exact ⟨(KeepsOthers.setCell _ _ _).from _, ⟨rfl, pre, x, rfl, HP.out, by rw [HOF.out]; rfl, bR1.set _⟩, hB1.setCell (p := ⟨w.heap.size + 1 + 1, 0, none⟩) (by simp; omega) _⟩
      · rename_i hq
        subst hq
        refine ⟨KeepsFrom.refl _ _, Below.refl _ _, ⟨⟨fun p hp' => ?_, bR1⟩, bH1⟩, hB1, hS1⟩
        rcases List.mem_append.1 hp' with h1 | h1
        · exact HP.out p h1
        · obtain rfl : p = x := by simpa using h1
          rw [HOF.out]; rfl
  case done =>
    rintro D ys W hD rfl ⟨⟨⟨hp, bR1⟩, bH1⟩, hB1, hS1⟩ hK
    have cR := bR1.cell
    have fR := bR1.frozen
    have hR0 : R = 0 := by rw [HR.out]; exact down_all HNL.out hp
    subst hR0
    clear hp
    gi_wp2
    have hK' := (KeepsOthers.setCell W ⟨w.heap.size + 1 + 1, 0, none⟩ (.int .i64 0)).same D _ hK rfl
    refine ⟨by simp, .inl ⟨_, _, rfl, run_takeDeferred hK', ?_⟩⟩
    have hc5 := cell_kept (bR1.set (.int .i64 0)).cell (grownBy_putObj' _ D (.deferred none)) (fun r e => by cases e; exact ⟨_, hK', rfl⟩)
    refine ⟨.int .i64 0, ?_, rfl, (hB1.setCell (p := ⟨w.heap.size + 1 + 1, 0, none⟩) (by simp; omega) _).trans (belowK_b (w := w) (Nat.le_refl _) _ D _ _ (by omega) hK' rfl rfl)⟩
    simp [results, Tryz.f88, go_sem, hc5]
  case stop =>
    rintro D c pre W hD ⟨k, hk, rfl⟩ ⟨⟨rfl, ini, p, e1, e2, e3, bR1⟩, hB1⟩ hK
    have hR0 : R = p.1 := by rw [HR.out]; exact down_found HNL.out hk e1 e2 e3
    subst hR0
    clear e1 e2 e3
    gi_wp2
    refine ⟨by simp, .inl ⟨_, _, rfl, run_takeDeferred hK, ?_⟩⟩
    have hc5 := cell_kept bR1.cell (grownBy_putObj' _ D (.deferred none)) (fun r e => by cases e; exact ⟨_, hK, rfl⟩)
    refine ⟨.int .i64 (p.1 : Int), ?_, rfl, hB1.trans (belowK_b (w := w) (Nat.le_refl _) W D _ _ (by omega) hK rfl rfl)⟩
    simp [results, Tryz.f88, go_sem, hc5]
end Go.Proofs.YtpckdhjnhnonhaaGreat
/- The small functions of package saga: at, ended, hit, upTo. -/
namespace Go.Proofs.YtpckdhjnhnonhaaGreat
open Go.RowKit

def Gives (v : Value) (w : World) (e : Ending) (w' : World) : Prop := e = .returned v ∧ Later w w'
theorem heap_second (w : World) (A B : Obj) : ((w.alloc A).alloc B).heap[w.heap.size + 1]? = some B := by
  have h := heap_alloc_new (w.alloc A) B
  rwa [show (w.alloc A).heap.size = w.heap.size + 1 from by simp] at h
section
variable {w : World}
set_option maxHeartbeats 2000000 in
theorem at_any (s : SagaD) (st step : Int) : Calls Tryz.prog 82 #[s.val, .int .i64 st, .int .i64 step] w (Gives (s.at_ st step).val w) := by
  unfold SagaD.val SagaD.at_ SagaD.cells
  simp only
  go_enter Tryz.func82, Tryz.ntmps82
  go_wp2
  refine bodyPost_ret (results_cell_row Tryz.results82 _ _ (w.heap.size + 1) 36 _ (0, 0) _ (by rfl) (heap_second _ _ _) Tryz.underlying36 (by rfl) (by kernel_rfl)) (by rfl) ?_
  exact ⟨rfl, ((Below.refl _ _).alloc (Nat.le_refl _) _).alloc (by simp) _⟩
set_option maxHeartbeats 2000000 in
theorem ended_any (s : SagaD) (st step : Int) : Calls Tryz.prog 86 #[s.val, .int .i64 st, .int .i64 step] w (Gives (s.ended st step).val w) := by
  unfold SagaD.val SagaD.ended SagaD.cells
  simp only
  go_enter Tryz.func86, Tryz.ntmps86
  go_wp2
  refine bodyPost_ret (results_cell_row Tryz.results86 _ _ (w.heap.size + 1) 36 _ (0, 0) _ (by rfl) (heap_second _ _ _) Tryz.underlying36 (by rfl) (by kernel_rfl)) (by rfl) ?_
  exact ⟨rfl, ((Below.refl _ _).alloc (Nat.le_refl _) _).alloc (by simp) _⟩
def HitBox (g : Nat) (x : Hits) (w : World) : Prop := w.heap[g]? = some (.cells x.cells.toArray 34 (0, 0))
theorem HitBox.cells {g : Nat} {x : Hits} (h : HitBox g x w) : w.cell? ⟨g, 0, none⟩ = some (.bool x.a0) ∧ w.cell? ⟨g, 1, none⟩ = some (.bool x.a1) ∧ w.cell? ⟨g, 2, none⟩ = some (.bool x.a2) ∧ w.cell? ⟨g, 3, none⟩ = some (.bool x.a3) ∧
    w.cell? ⟨g, 4, none⟩ = some (.bool x.a4) ∧ w.cell? ⟨g, 5, none⟩ = some (.bool x.a5) ∧ w.cell? ⟨g, 6, none⟩ = some (.bool x.a6) ∧ w.cell? ⟨g, 7, none⟩ = some (.bool x.a7) ∧ ∀ i, w.frozen? ⟨g, i, none⟩ = false :=
  ⟨(cell_of_row w g 0 _ _ _ h).trans rfl, (cell_of_row w g 1 _ _ _ h).trans rfl, (cell_of_row w g 2 _ _ _ h).trans rfl, (cell_of_row w g 3 _ _ _ h).trans rfl, (cell_of_row w g 4 _ _ _ h).trans rfl, (cell_of_row w g 5 _ _ _ h).trans rfl, (cell_of_row w g 6 _ _ _ h).trans rfl, (cell_of_row w g 7 _ _ _ h).trans rfl, fun i => frozen_of_row w g i _ _ h⟩
theorem HitBox.set {g : Nat} {x y : Hits} {i : Nat} {v : Value} (h : HitBox g x w) (hs : y.cells.toArray = x.cells.toArray.setIfInBounds i v) : HitBox g y (w.setCell ⟨g, i, none⟩ v) := by
  unfold HitBox
  rw [hs]
  exact heap_setCell_same w g i _ _ v h
theorem up_next {q : Nat} (h : q < 8) : (upH ((q + 1 : Nat) : Int)).cells.toArray = (upH (q : Int)).cells.toArray.setIfInBounds q (.bool true) := by
  have hc : q = 0 ∨ q = 1 ∨ q = 2 ∨ q = 3 ∨ q = 4 ∨ q = 5 ∨ q = 6 ∨ q = 7 := by omega
  rcases hc with rfl | rfl | rfl | rfl | rfl | rfl | rfl | rfl <;> rfl
theorem up_cell {g q : Nat} {x : Hits} (h : HitBox g x w) (hq : q < 8) : ∃ b, w.cell? ⟨g, q, none⟩ = some (.bool b) := by
  obtain ⟨h0, h1, h2, h3, h4, h5, h6, h7, _⟩ := h.cells
  have hc : q = 0 ∨ q = 1 ∨ q = 2 ∨ q = 3 ∨ q = 4 ∨ q = 5 ∨ q = 6 ∨ q = 7 := by omega
  rcases hc with rfl | rfl | rfl | rfl | rfl | rfl | rfl | rfl
  all_goals first | exact ⟨_, h0⟩ | exact ⟨_, h1⟩ | exact ⟨_, h2⟩ | exact ⟨_, h3⟩ | exact ⟨_, h4⟩ | exact ⟨_, h5⟩ | exact ⟨_, h6⟩ | exact ⟨_, h7⟩
theorem hits_put (x y : Hits) : putAt x.cells.toArray 0 y.cells = y.cells.toArray := by simp [putAt, Hits.cells]
theorem up_neg {k : Int} (h : k ≤ 0) : upH k = upH ((0 : Nat) : Int) := by
  unfold upH
  simp only [Hits.mk.injEq, decide_eq_decide]
  omega
set_option maxHeartbeats 4000000 in
theorem upTo_any (k : Int) (hk : k ≤ 8) : Calls Tryz.prog 78 #[.int .i64 k] w (Gives (upH k).val w) := by
  have L0 : Hid (∀ o1 o2 : Obj, Later w ((w.alloc o1).alloc o2)) := fun o1 o2 => ((Below.refl _ _).alloc (Nat.le_refl _) _).alloc (by simp) _
  obtain ⟨W0, hW0⟩ : ∃ W0, W0 = (w.alloc (.cells (upH ((0 : Nat) : Int)).cells.toArray 34 (0, 0))).alloc (.cells (upH ((0 : Nat) : Int)).cells.toArray 34 (0, 0)) := ⟨_, rfl⟩
  obtain ⟨g, hg⟩ : ∃ g, g = w.heap.size := ⟨_, rfl⟩
  have B0 : Hid (HitBox g (upH ((0 : Nat) : Int)) W0) := by rw [hW0, hg]; exact (heap_alloc_old _ _ (by simp)).trans (heap_alloc_new _ _)
  have B1 : Hid (HitBox (g + 1) (upH ((0 : Nat) : Int)) W0) := by rw [hW0, hg]; exact heap_second _ _ _
  have L1 : Hid (Later w W0) := by rw [hW0]; exact L0.out _ _
  unfold Hits.cells upH at hW0
  simp only [Int.natCast_zero, Int.lt_irrefl, decide_false, show ¬ ((1:Int) < 0) by decide, show ¬ ((2:Int) < 0) by decide, show ¬ ((3:Int) < 0) by decide, show ¬ ((4:Int) < 0) by decide, show ¬ ((5:Int) < 0) by decide, show ¬ ((6:Int) < 0) by decide, show ¬ ((7:Int) < 0) by decide] at hW0
  have HW := hide hW0.symm
  have HG := hide hg.symm
  clear hW0 L0 hg
  go_enter Tryz.func78, Tryz.ntmps78
  go_wp2_with (fail)
  simp only [HW.out, HG.out]
  go_loopw [6] (fun i wr => ∃ q : Nat, i = .int .i64 (q : Int) ∧ ((q : Int) ≤ k ∨ q = 0) ∧ HitBox g (upH ((0 : Nat) : Int)) wr ∧ HitBox (g + 1) (upH (q : Int)) wr ∧ Later w wr) (fun i _ => (k - Go.RowKit.intOf i).toNat)
  case atStart => exact ⟨0, rfl, .inr rfl, B0.out, B1.out, L1.out⟩
  case round =>
    obtain ⟨q, rfl, hq, hb0, hb1, hl⟩ := hrel
    have HB0 := hide hb0
    have HB1 := hide hb1
    have HL := hide hl
    by_cases hlt : (q : Int) < k
    · have hq8 : q < 8 := by omega
      have HN := hide (hb1.set (up_next hq8))
      have HO : Hid (HitBox g (upH ((0 : Nat) : Int)) (wr.setCell ⟨g + 1, q, none⟩ (.bool true))) := (heap_setCell_other _ _ _ _ (by simp)).trans HB0.out
      have hgl : w.heap.size ≤ g + 1 := by rw [HG.out.symm]; omega
      have HL2 := hide (HL.out.setCell (p := ⟨g + 1, q, none⟩) hgl (.bool true))
      obtain ⟨ov, hov⟩ := up_cell hb1 hq8
      have hf := hb1.cells.2.2.2.2.2.2.2.2 q
      have hlq := hlt
      clear hb0 hb1 hl hgl hlt hq
      go_wp2
      go_roundw
      case rel => exact ⟨q + 1, by go_num, .inl (by omega), HO.out, HN.out, HL2.out⟩
      case measure => simp [Go.RowKit.intOf]; omega
    · have hu : upH (q : Int) = upH k := by
        rcases hq with hq | rfl
        · rw [show (q : Int) = k from by omega]
        · rw [up_neg (k := k) (by omega)]
      rw [hu] at hb1
      obtain ⟨d0, d1, d2, d3, d4, d5, d6, d7, df⟩ := hb1.cells
      obtain ⟨e0, e1, e2, e3, e4, e5, e6, e7, ef⟩ := hb0.cells
      have hgl : w.heap.size ≤ g := by rw [HG.out.symm]; omega
      clear hb0 hb1 hl hu hq
      go_wp2_with (fail)
      have hfin : (wr.setCells g 0 (upH k).cells).heap[g]? = some (.cells (upH k).cells.toArray 34 (0, 0)) := by
        have h1 := heap_setCells g (upH k).cells 0 wr _ HB0.out
        rwa [hits_put] at h1
      have HLF : Hid (Later w (wr.setCells g 0 (upH k).cells)) := HL.out.grown (grown_setCells g (upH k).cells 0 wr) (Below.size HL.out) (fun k hk => by have := Option.some.inj hk; omega)
      refine bodyPost_ret (results_cell_row Tryz.results78 _ (wr.setCells g 0 (upH k).cells) g 34 _ (0, 0) _ (by rfl) hfin Tryz.underlying34 (by rfl) (by kernel_rfl)) (by rfl) ?_
      exact ⟨rfl, HLF.out⟩
end
end Go.Proofs.YtpckdhjnhnonhaaGreat
