/- Texts merged: LexM, Math, Mem, Flat, Msgs, DefM, PlanM, SagM, MapHeld, BkM, Keep, Order, Shelf, Rune, Sets, Either, Grown, Box, Lit, Lit2, LitN, Parts, Parts2, PartI, Name, EqS, OrderT, SameDef, Equal. -/
import Derived.Laws.Strings2
import Derived.WalkKit
import Derived.WalkSpells
import Derived.Deep.AppendLies
import Derived.Maps.AppendAt
import Derived.Deep.Draws
import Derived.Deep.MidRow
import Derived.Maps.OwnSet
import Derived.Shelf.SlIterI.Nil
import Derived.OrdersHeld
import Derived.Deep.RegionHeld3
import Derived.Shelf.Strings.Runes
import Derived.Shelf.Small.Utf8
import Derived.Ground.NamesProg
import Derived.Test.YtdkiopajilakcaaGreatProg
import Derived.Laws.Runes
import Derived.Lib.OthersKept
import Derived.WalkMore
import Derived.RegionTactic
import Derived.BigRegion
import Derived.Laws.EntriesVeiled
import Derived.LoopTactic
import Derived.OneCell
import Derived.OwnWalk
import Derived.Laws.StructEq
import Derived.Deep.QuietTactic
import Derived.BigQuiet
/- The words of a text, as data: kinds of bytes, tokens, texts of tokens, names. -/
namespace Go.Proofs.YtdkiopajilakcaaGreat

def smallB (b : Nat) : Bool := decide (97 ≤ b) && decide (b ≤ 122)
def digitB (b : Nat) : Bool := decide (48 ≤ b) && decide (b ≤ 57)
def partB (b : Nat) : Bool := smallB b || (digitB b || (b == 45 || b == 95))
def signB (b : Nat) : Bool := b == 123 || (b == 125 || b == 59)
def blankB (b : Nat) : Bool := b == 32 || (b == 9 || b == 10)
/-- 1 a word, 2 a number, 3 a sign, 4 a blank, 5 a remark begins here; 0 what may not stand. -/
def kindB (b : Nat) : Nat := if smallB b then 1 else if digitB b then 2 else if signB b then 3 else if blankB b then 4 else if b == 35 then 5 else 0
/-- What a thing of kind k goes on with. -/
def goB (k b : Nat) : Bool := if k = 1 then partB b else if k = 2 then digitB b else if k = 5 then b != 10 else false

structure Tok where
  k : Nat
  s : List UInt8
  n : Nat
  at_ : Nat
def valF (l : List UInt8) : Nat := l.foldl (fun n c => min 1000000 (10 * n + (c.toNat - 48))) 0

def more (k : Nat) (r : List UInt8) : List UInt8 := r.takeWhile (fun c => goB k c.toNat)
def rest (k : Nat) (r : List UInt8) : List UInt8 := r.dropWhile (fun c => goB k c.toNat)
theorem more_rest (k : Nat) (r : List UInt8) : more k r ++ rest k r = r := List.takeWhile_append_dropWhile ..
theorem rest_len (k : Nat) (r : List UInt8) : (more k r).length + (rest k r).length = r.length := by
  have := congrArg List.length (more_rest k r)
  simpa using this
/-- The token of kind k that b and r begin with. -/
def tokOf (k : Nat) (b : UInt8) (r : List UInt8) (a : Nat) : Tok := ⟨k, b :: more k r, if k = 2 then valF (b :: more k r) else 0, a⟩
/-- One thing more ahead of what follows. -/
def ahead (l : List Tok) (p : List Tok × Option Nat) : List Tok × Option Nat := match p.2 with
  | some e => ([], some e)
  | none => (l ++ p.1, none)

/-- The tokens of l, of which the first byte stands at a; or where the byte stands that may not. -/
def toks (l : List UInt8) (a : Nat) : List Tok × Option Nat := match l with
  | [] => ([], none)
  | b :: r => if kindB b.toNat = 0 then ([], some a) else
    ahead (if kindB b.toNat ≤ 3 then [tokOf (kindB b.toNat) b r a] else []) (toks (rest (kindB b.toNat) r) (a + 1 + (more (kindB b.toNat) r).length))
termination_by l.length
decreasing_by
  have := rest_len (kindB b.toNat) r
  simp
  omega

theorem toks_nil (a : Nat) : toks [] a = ([], none) := by rw [toks]
theorem toks_bad {b : UInt8} (r : List UInt8) (a : Nat) (h : kindB b.toNat = 0) : toks (b :: r) a = ([], some a) := by rw [toks, if_pos h]
theorem toks_cons {b : UInt8} (r : List UInt8) (a : Nat) (h : kindB b.toNat ≠ 0) : toks (b :: r) a =
    ahead (if kindB b.toNat ≤ 3 then [tokOf (kindB b.toNat) b r a] else []) (toks (rest (kindB b.toNat) r) (a + 1 + (more (kindB b.toNat) r).length)) := by rw [toks, if_neg h]

theorem ahead_nil (p : List Tok × Option Nat) (h : p.2 ≠ none → p.1 = []) : ahead [] p = p := by
  obtain ⟨l, e⟩ := p
  cases e with
  | none => rfl
  | some x =>
    have : l = [] := h (by simp)
    rw [this]
    rfl
theorem ahead_ahead (a b : List Tok) (p : List Tok × Option Nat) : ahead a (ahead b p) = ahead (a ++ b) p := by
  obtain ⟨l, e⟩ := p
  cases e <;> simp [ahead]
theorem ahead_err (l : List Tok) (p : List Tok × Option Nat) : (ahead l p).2 = p.2 := by
  obtain ⟨x, e⟩ := p
  cases e <;> rfl

/-- Beside an error there are no tokens. -/
theorem toks_none (l : List UInt8) (a : Nat) : (toks l a).2 ≠ none → (toks l a).1 = [] := by
  cases l with
  | nil => rw [toks_nil]; simp
  | cons b r =>
    by_cases h : kindB b.toNat = 0
    · rw [toks_bad r a h]; simp
    · rw [toks_cons r a h]
      intro h2
      rw [ahead_err] at h2
      unfold ahead
      cases hp : (toks (rest (kindB b.toNat) r) (a + 1 + (more (kindB b.toNat) r).length)).2 with
      | none => exact absurd hp h2
      | some _ => rfl

theorem kind_cases (b : Nat) : kindB b = 0 ∨ kindB b = 1 ∨ kindB b = 2 ∨ kindB b = 3 ∨ kindB b = 4 ∨ kindB b = 5 := by
  unfold kindB
  repeat' split
  all_goals simp

/-- A token as it may stand. -/
def Tok.wf (t : Tok) : Prop := ∃ b m, t.s = b :: m ∧ kindB b.toNat = t.k ∧ 1 ≤ t.k ∧ t.k ≤ 3 ∧ (∀ c ∈ m, goB t.k c.toNat = true) ∧ t.n = if t.k = 2 then valF t.s else 0

theorem more_all (k : Nat) (r : List UInt8) : ∀ c ∈ more k r, goB k c.toNat = true := fun c hc => by
  have := List.all_takeWhile (p := fun c : UInt8 => goB k c.toNat) (l := r)
  rw [List.all_eq_true] at this
  exact this c hc
theorem tokOf_wf {b : UInt8} (r : List UInt8) (a : Nat) (h0 : kindB b.toNat ≠ 0) (h3 : kindB b.toNat ≤ 3) : (tokOf (kindB b.toNat) b r a).wf :=
  ⟨b, more (kindB b.toNat) r, rfl, rfl, by show 1 ≤ kindB b.toNat; omega, h3, more_all _ _, rfl⟩

/-- An induction along the things of a text. -/
theorem toks_ind {P : List UInt8 → Nat → Prop} (h0 : ∀ a, P [] a) (hb : ∀ b r a, kindB b.toNat = 0 → P (b :: r) a)
    (hc : ∀ b r a, kindB b.toNat ≠ 0 → P (rest (kindB b.toNat) r) (a + 1 + (more (kindB b.toNat) r).length) → P (b :: r) a) : ∀ (n : Nat) l a, l.length ≤ n → P l a
  | _, [], a, _ => h0 a
  | 0, b :: r, a, h => by simp at h
  | n + 1, b :: r, a, h => by
    by_cases hk : kindB b.toNat = 0
    · exact hb b r a hk
    · exact hc b r a hk (toks_ind h0 hb hc n _ _ (by have := rest_len (kindB b.toNat) r; simp at h; omega))

theorem ahead_mem {l : List Tok} {p : List Tok × Option Nat} {t : Tok} (h : t ∈ (ahead l p).1) : t ∈ l ∨ t ∈ p.1 := by
  obtain ⟨x, e⟩ := p
  cases e with
  | none => simpa [ahead] using h
  | some _ => simp [ahead] at h

theorem toks_wf (l : List UInt8) (a : Nat) : ∀ t ∈ (toks l a).1, t.wf := by
  refine toks_ind (P := fun l a => ∀ t ∈ (toks l a).1, t.wf) ?_ ?_ ?_ l.length l a (Nat.le_refl _)
  · intro a t ht; rw [toks_nil] at ht; simp at ht
  · intro b r a h t ht; rw [toks_bad r a h] at ht; simp at ht
  · intro b r a h ih t ht
    rw [toks_cons r a h] at ht
    rcases ahead_mem ht with h1 | h1
    · by_cases h3 : kindB b.toNat ≤ 3
      · rw [if_pos h3] at h1
        rw [List.mem_singleton.1 h1]
        exact tokOf_wf r a h h3
      · rw [if_neg h3] at h1; simp at h1
    · exact ih t h1

/-- Each token lies within the text, behind the one ahead of it. -/
def Placed (L : List UInt8) : Nat → List Tok → Prop
  | _, [] => True
  | a, t :: r => a ≤ t.at_ ∧ t.at_ + t.s.length ≤ L.length ∧ (L.drop t.at_).take t.s.length = t.s ∧ Placed L (t.at_ + t.s.length) r

theorem Placed.weak {L : List UInt8} : ∀ {l : List Tok} {a b : Nat}, b ≤ a → Placed L a l → Placed L b l
  | [], _, _, _, _ => trivial
  | _ :: _, _, _, h, ⟨h1, h2⟩ => ⟨Nat.le_trans h h1, h2⟩

theorem toks_placed (L : List UInt8) : ∀ (n : Nat) (l : List UInt8) (a : Nat), l.length ≤ n → L.drop a = l → a ≤ L.length → Placed L a (toks l a).1
  | _, [], a, _, _, _ => by rw [toks_nil]; trivial
  | 0, b :: r, a, h, _, _ => by simp at h
  | n + 1, b :: r, a, h, hd, ha => by
    by_cases hk : kindB b.toNat = 0
    · rw [toks_bad r a hk]; trivial
    · have hl := rest_len (kindB b.toNat) r
      have hlen : L.length = a + (r.length + 1) := by
        have := congrArg List.length hd
        simp at this
        omega
      have hd2 : L.drop (a + 1 + (more (kindB b.toNat) r).length) = rest (kindB b.toNat) r := by
        rw [show a + 1 + (more (kindB b.toNat) r).length = a + (1 + (more (kindB b.toNat) r).length) from by omega, ← List.drop_drop, hd]
        rw [Nat.add_comm 1, List.drop_succ_cons]
        have e := List.drop_left (l₁ := more (kindB b.toNat) r) (l₂ := rest (kindB b.toNat) r)
        rwa [more_rest] at e
      have ih := toks_placed L n (rest (kindB b.toNat) r) (a + 1 + (more (kindB b.toNat) r).length) (by simp at h; omega) hd2 (by omega)
      rw [toks_cons r a hk]
      unfold ahead
      cases hp : (toks (rest (kindB b.toNat) r) (a + 1 + (more (kindB b.toNat) r).length)).2 with
      | some e => trivial
      | none =>
        simp only
        by_cases h3 : kindB b.toNat ≤ 3
        · rw [if_pos h3]
          have hs : (tokOf (kindB b.toNat) b r a).s = b :: more (kindB b.toNat) r := rfl
          have ha' : (tokOf (kindB b.toNat) b r a).at_ = a := rfl
          refine ⟨Nat.le_refl _, ?_, ?_, ?_⟩
          · rw [hs, ha']; simp; omega
          · rw [hs, ha', hd]
            simp only [List.length_cons, List.take_succ_cons, List.cons.injEq, true_and]
            have e := List.take_left (l₁ := more (kindB b.toNat) r) (l₂ := rest (kindB b.toNat) r)
            rwa [more_rest] at e
          · rw [hs, ha']
            simp only [List.length_cons]
            rw [show a + ((more (kindB b.toNat) r).length + 1) = a + 1 + (more (kindB b.toNat) r).length from by omega]
            exact ih
        · rw [if_neg h3]
          exact ih.weak (by omega)

/-- The tokens but for their places. -/
def Alike (a b : List Tok) : Prop := a.map (fun t => (t.k, t.s, t.n)) = b.map (fun t => (t.k, t.s, t.n))

def shift (d : Nat) (p : List Tok × Option Nat) : List Tok × Option Nat := (p.1.map fun t => { t with at_ := t.at_ + d }, p.2.map (· + d))
theorem toks_shift (d : Nat) (l : List UInt8) (a : Nat) : toks l (a + d) = shift d (toks l a) := by
  refine toks_ind (P := fun l a => toks l (a + d) = shift d (toks l a)) ?_ ?_ ?_ l.length l a (Nat.le_refl _)
  · intro a; simp [toks_nil, shift]
  · intro b r a h; simp [toks_bad r _ h, shift]
  · intro b r a h ih
    rw [toks_cons r _ h, toks_cons r _ h, show a + d + 1 + (more (kindB b.toNat) r).length = a + 1 + (more (kindB b.toNat) r).length + d from by omega, ih]
    unfold ahead shift
    cases hp : (toks (rest (kindB b.toNat) r) (a + 1 + (more (kindB b.toNat) r).length)).2 with
    | some e => simp
    | none =>
      by_cases h3 : kindB b.toNat ≤ 3
      · simp [h3, tokOf]
      · simp [h3]
theorem alike_shift (d : Nat) (p : List Tok × Option Nat) : Alike (shift d p).1 p.1 := by
  unfold Alike shift
  simp [List.map_map, Function.comp_def]

/-- Where a thing ends, and what does not go on with it follows. -/
theorem more_stop (k : Nat) (m r : List UInt8) (hm : ∀ c ∈ m, goB k c.toNat = true) (hr : ∀ c t, r = c :: t → goB k c.toNat = false) : more k (m ++ r) = m ∧ rest k (m ++ r) = r := by
  induction m with
  | nil =>
    cases r with
    | nil => exact ⟨rfl, rfl⟩
    | cons c t =>
      have := hr c t rfl
      simp [more, rest, this]
  | cons x m ih =>
    have hx := hm x (by simp)
    have ⟨i1, i2⟩ := ih (fun c hc => hm c (by simp [hc]))
    unfold more at i1
    unfold rest at i2
    unfold more rest
    simp [hx, i1, i2]

theorem tok_step {t : Tok} (h : t.wf) (r : List UInt8) (a : Nat) (hr : ∀ c u, r = c :: u → goB t.k c.toNat = false) : toks (t.s ++ r) a = ahead [{ t with at_ := a }] (toks r (a + t.s.length)) := by
  obtain ⟨b, m, hs, hk, h1, h3, hm, hn⟩ := h
  obtain ⟨k, s, n, at_⟩ := t
  simp only at hs hk h1 h3 hm hn hr ⊢
  subst hs hn
  have ⟨e1, e2⟩ := more_stop k m r hm hr
  rw [List.cons_append, toks_cons (m ++ r) a (by omega), hk, if_pos h3, e1, e2]
  simp only [tokOf, e1, List.length_cons]
  rw [show a + 1 + m.length = a + (m.length + 1) from by omega]

theorem goB_blank (k : Nat) (h1 : 1 ≤ k) (h3 : k ≤ 3) : goB k 32 = false := by
  have : k = 1 ∨ k = 2 ∨ k = 3 := by omega
  rcases this with rfl | rfl | rfl <;> decide
theorem blank_step (c : UInt8) (hc : kindB c.toNat = 4) (r : List UInt8) (a : Nat) : toks (c :: r) a = toks r (a + 1) := by
  have e1 : more 4 r = [] ∧ rest 4 r = r := by
    cases r <;> simp [more, rest, goB]
  rw [toks_cons r a (by omega), hc, e1.1, e1.2, if_neg (by omega), List.length_nil, Nat.add_zero]
  exact ahead_nil _ (toks_none _ _)

def textF : List Tok → List UInt8
  | [] => []
  | t :: r => t.s ++ r.flatMap (fun x => 32 :: x.s)

theorem text_take (l : List Tok) (i : Nat) (t : Tok) (h : l[i]? = some t) : textF (l.take (i + 1)) = (if 0 < i then textF (l.take i) ++ [32] else textF (l.take i)) ++ t.s := by
  cases l with
  | nil => simp at h
  | cons x r =>
    cases i with
    | zero =>
      simp at h
      subst h
      simp [textF]
    | succ i =>
      simp at h
      rw [List.take_succ_cons, List.take_succ_cons, if_pos (by omega)]
      unfold textF
      rw [List.take_add_one, h]
      simp [List.flatMap_append]

theorem back_go : ∀ (r : List Tok) (a : Nat), (∀ t ∈ r, t.wf) → (toks (r.flatMap (fun x => 32 :: x.s)) a).2 = none ∧ Alike (toks (r.flatMap (fun x => 32 :: x.s)) a).1 r
  | [], a, _ => by simp [toks_nil, Alike]
  | t :: r, a, h => by
    have ht := h t (by simp)
    obtain ⟨b, m, hs, hk, h1, h3, _⟩ := id ht
    have ih := back_go r (a + 1 + t.s.length) (fun x hx => h x (by simp [hx]))
    rw [List.flatMap_cons, List.cons_append, blank_step 32 (by decide), tok_step ht _ _ (by
      intro c u e
      cases r with
      | nil => simp at e
      | cons y r =>
        simp at e
        rw [← e.1]
        exact goB_blank t.k h1 h3)]
    unfold ahead
    simp only [ih.1]
    exact ⟨trivial, by unfold Alike at *; simp [ih.2]⟩
/-- The text of tokens has these tokens. -/
theorem back (ts : List Tok) (h : ∀ t ∈ ts, t.wf) : (toks (textF ts) 0).2 = none ∧ Alike (toks (textF ts) 0).1 ts := by
  cases ts with
  | nil => simp [textF, toks_nil, Alike]
  | cons t r =>
    have ht := h t (by simp)
    obtain ⟨b, m, hs, hk, h1, h3, _⟩ := id ht
    have ih := back_go r (0 + t.s.length) (fun x hx => h x (by simp [hx]))
    unfold textF
    rw [tok_step ht _ _ (by
      intro c u e
      cases r with
      | nil => simp at e
      | cons y r =>
        simp at e
        rw [← e.1]
        exact goB_blank t.k h1 h3)]
    unfold ahead
    simp only [ih.1]
    exact ⟨trivial, by unfold Alike at *; simpa using ih.2⟩
theorem textF_cons (t : Tok) (r : List Tok) : textF (t :: r) = t.s ++ r.flatMap (fun x => 32 :: x.s) := rfl
theorem alike_text {a b : List Tok} (h : Alike a b) : textF a = textF b := by
  have hs : a.map (·.s) = b.map (·.s) := by
    have := congrArg (List.map fun x : Nat × List UInt8 × Nat => x.2.1) h
    simpa [List.map_map, Function.comp_def] using this
  cases a with
  | nil =>
    cases b with
    | nil => rfl
    | cons y b => simp at hs
  | cons x a =>
    cases b with
    | nil => simp at hs
    | cons y b =>
      simp only [List.map_cons, List.cons.injEq] at hs
      have e : ∀ l : List Tok, l.flatMap (fun x => 32 :: x.s) = (l.map (·.s)).flatMap (fun s => 32 :: s) := fun l => by
        rw [List.flatMap_map]
      rw [textF_cons, textF_cons, e, e, hs.1, hs.2]

theorem goB_feed (k : Nat) : goB k 10 = false := by
  unfold goB
  repeat' split
  all_goals first | rfl | decide
theorem more_feed (k : Nat) (r y : List UInt8) : more k (r ++ 10 :: y) = more k r ∧ rest k (r ++ 10 :: y) = rest k r ++ 10 :: y := by
  induction r with
  | nil => simp [more, rest, goB_feed]
  | cons x r ih =>
    unfold more rest at ih
    unfold more rest
    by_cases hx : goB k x.toNat = true
    · simp [hx, ih.1, ih.2]
    · simp [hx]
/-- Two texts with a line feed between. -/
theorem toks_join (y : List UInt8) (l : List UInt8) (a : Nat) : toks (l ++ 10 :: y) a = match (toks l a).2 with
    | some e => ([], some e)
    | none => ahead (toks l a).1 (toks y (a + l.length + 1)) := by
  refine toks_ind (P := fun l a => toks (l ++ 10 :: y) a = match (toks l a).2 with
    | some e => ([], some e)
    | none => ahead (toks l a).1 (toks y (a + l.length + 1))) ?_ ?_ ?_ l.length l a (Nat.le_refl _)
  · intro a
    rw [toks_nil, List.nil_append, blank_step 10 (by decide)]
    exact (ahead_nil _ (toks_none _ _)).symm
  · intro b r a h
    rw [List.cons_append, toks_bad _ a h, toks_bad _ a h]
  · intro b r a h ih
    have hl := rest_len (kindB b.toNat) r
    have e1 := (more_feed (kindB b.toNat) r y).1
    have e2 := (more_feed (kindB b.toNat) r y).2
    rw [List.cons_append, toks_cons _ a h, toks_cons _ a h, e1, e2, ih]
    have et : tokOf (kindB b.toNat) b (r ++ 10 :: y) a = tokOf (kindB b.toNat) b r a := by simp only [tokOf, e1]
    rw [et]
    cases hp : (toks (rest (kindB b.toNat) r) (a + 1 + (more (kindB b.toNat) r).length)).2 with
    | some e => simp [ahead, hp]
    | none =>
      simp only [ahead_ahead, ahead_err, hp]
      rw [show a + 1 + (more (kindB b.toNat) r).length + (rest (kindB b.toNat) r).length + 1 = a + (b :: r).length + 1 from by simp; omega]
      congr 1
      simp [ahead, hp]

/-- A name is one word. -/
def nameF (l : List UInt8) : Bool := match l with
  | [] => false
  | b :: r => decide (r.length < 16) && (smallB b.toNat && r.all (fun c => partB c.toNat))
theorem name_one (l : List UInt8) (h : nameF l = true) : toks l 0 = ([⟨1, l, 0, 0⟩], none) := by
  cases l with
  | nil => simp [nameF] at h
  | cons b r =>
    simp only [nameF, Bool.and_eq_true, decide_eq_true_eq, List.all_eq_true] at h
    obtain ⟨_, h1, h2⟩ := h
    have hk : kindB b.toNat = 1 := by simp [kindB, h1]
    have := tok_step (t := ⟨1, b :: r, 0, 0⟩) ⟨b, r, rfl, hk, by simp, by simp, fun c hc => by simpa [goB] using h2 c hc, by simp⟩ [] 0 (by simp)
    simpa [toks_nil, ahead] using this

/-- What the document's loop over digits keeps. -/
def refStep (n : Nat) (c : UInt8) : Nat := if n < 1000000 then 10 * n + (c.toNat - 48) else n
theorem ref_val : ∀ (l : List UInt8) (n : Nat), min (l.foldl refStep n) 1000000 = l.foldl (fun n c => min 1000000 (10 * n + (c.toNat - 48))) (min n 1000000)
  | [], n => rfl
  | c :: l, n => by
    rw [List.foldl_cons, List.foldl_cons, ref_val l]
    congr 1
    unfold refStep
    split <;> omega
theorem valF_ref (l : List UInt8) : valF l = min (l.foldl refStep 0) 1000000 := (ref_val l 0).symm
theorem refStep_le (n : Nat) (c : UInt8) (h : n ≤ 20000000) : refStep n c ≤ 20000000 := by
  unfold refStep
  have := c.toNat_lt
  split <;> omega
theorem foldRef_le : ∀ (l : List UInt8) (n : Nat), n ≤ 20000000 → l.foldl refStep n ≤ 20000000
  | [], _, h => h
  | c :: l, n, h => foldRef_le l _ (refStep_le n c h)
theorem foldVal_le : ∀ (l : List UInt8) (n : Nat), n ≤ 1000000 → l.foldl (fun n c => min 1000000 (10 * n + (c.toNat - 48))) n ≤ 1000000
  | [], _, h => h
  | _ :: l, _, _ => foldVal_le l _ (Nat.min_le_left _ _)
theorem valF_le (l : List UInt8) : valF l ≤ 1000000 := foldVal_le l 0 (by omega)

/-- The digits of a number. -/
def decF : Nat → Nat → List UInt8 → List UInt8
  | 0, _, d => d
  | f + 1, v, d => if v < 10 then UInt8.ofNat (48 + v % 10) :: d else decF f (v / 10) (UInt8.ofNat (48 + v % 10) :: d)

/-- What the loops and the laws ask of the answer. -/
def answer (l : List UInt8) : List Tok × Nat × Nat :=
  if 400 < l.length then ([], 0, 12) else match (toks l 0).2 with
    | some e => ([], e, 11)
    | none => ((toks l 0).1, 0, 0)

end Go.Proofs.YtdkiopajilakcaaGreat
/- Plain facts on numbers in groups of seven bits, on lists of naturals alone: the bytes of a number, and the number that bytes begin with. -/
namespace Go.Proofs.YtdkiopajilakcaaGreat

/-- The groups of a number, the lowest first; 'f' groups more may follow the first one. -/
def encF : Nat → Nat → List Nat
  | 0, v => [v % 128]
  | f + 1, v => if v / 128 = 0 then [v % 128] else (v % 128 + 128) :: encF f (v / 128)

def enc (v : Nat) : List Nat := encF 9 v

/-- The number that a list of bytes begins with: behind 'i' groups that came to 'a': the number, how many bytes, and the error's number. -/
def num : List Nat → Nat → Nat → Nat × Nat × Nat
  | [], _, _ => (0, 0, 3)
  | c :: r, i, a =>
    if (i = 9 ∧ 1 < c) ∨ (0 < i ∧ c = 0) then (0, 0, 4)
    else if c < 128 then (a + c % 128 * 2 ^ (7 * i), i + 1, 0)
    else num r (i + 1) (a + c % 128 * 2 ^ (7 * i))

theorem encF_len : ∀ f v, 1 ≤ (encF f v).length ∧ (encF f v).length ≤ f + 1
  | 0, v => by simp [encF]
  | f + 1, v => by
    have := encF_len f (v / 128)
    unfold encF
    split <;> simp <;> omega

theorem enc_len (v : Nat) : 1 ≤ (enc v).length ∧ (enc v).length ≤ 10 := encF_len 9 v

theorem encF_small : ∀ f v, ∀ x ∈ encF f v, x < 256
  | 0, v => by simp [encF]; omega
  | f + 1, v => by
    have := encF_small f (v / 128)
    unfold encF
    split
    · simp; omega
    · intro x hx
      rcases List.mem_cons.1 hx with rfl | h
      · omega
      · exact this x h

theorem enc_small (v : Nat) : ∀ x ∈ enc v, x < 256 := encF_small 9 v

theorem pow_step (i : Nat) : 2 ^ (7 * (i + 1)) = 128 * 2 ^ (7 * i) := by
  rw [show 7 * (i + 1) = 7 + 7 * i from by omega, Nat.pow_add]

theorem acc_step (v a p : Nat) : a + (v % 128) * p + (v / 128) * (128 * p) = a + v * p := by
  have h : v = v % 128 + 128 * (v / 128) := by omega
  have h2 : v * p = (v % 128) * p + (v / 128) * (128 * p) := by
    conv => lhs; rw [h]
    rw [Nat.add_mul, Nat.mul_comm 128 (v / 128), Nat.mul_assoc]
  omega

/-- A number comes back from its groups, whatever stands behind. -/
theorem num_encF (rest : List Nat) : ∀ f v i a, i + f = 9 → v < 2 * 128 ^ f → (0 < i → 0 < v) →
    num (encF f v ++ rest) i a = (a + v * 2 ^ (7 * i), i + (encF f v).length, 0)
  | 0, v, i, a, hi, hv, hp => by
    have hv2 : v < 2 := by simpa using hv
    have h1 : v % 128 = v := by omega
    unfold encF
    simp only [List.cons_append, List.nil_append, num, h1]
    rw [if_neg (by omega), if_pos (by omega)]
    simp
  | f + 1, v, i, a, hi, hv, hp => by
    unfold encF
    by_cases h : v / 128 = 0
    · have h1 : v % 128 = v := by omega
      simp only [h, if_true, List.cons_append, List.nil_append, num, h1]
      rw [if_neg (by omega), if_pos (by omega)]
      simp
    · have ih := num_encF rest f (v / 128) (i + 1) (a + v % 128 * 2 ^ (7 * i)) (by omega) (by rw [Nat.pow_succ] at hv; omega) (by omega)
      have h1 : (v % 128 + 128) % 128 = v % 128 := by omega
      rw [if_neg h]
      simp only [List.cons_append, num, h1]
      rw [if_neg (by omega), if_neg (by omega), ih, pow_step, acc_step]
      simp
      omega

/-- Cut off, it is none, and only short. -/
theorem num_cut : ∀ f v i a k, i + f = 9 → v < 2 * 128 ^ f → (0 < i → 0 < v) → k < (encF f v).length →
    num ((encF f v).take k) i a = (0, 0, 3)
  | 0, v, i, a, k, hi, hv, hp, hk => by
    have hk0 : k = 0 := by simpa [encF] using hk
    subst hk0
    simp [num]
  | f + 1, v, i, a, k, hi, hv, hp, hk => by
    rcases Nat.eq_zero_or_pos k with rfl | hk0
    · simp [num]
    · obtain ⟨m, rfl⟩ : ∃ m, k = m + 1 := ⟨k - 1, by omega⟩
      unfold encF at hk ⊢
      by_cases h : v / 128 = 0
      · simp [h] at hk
      · rw [if_neg h] at hk ⊢
        have ih := num_cut f (v / 128) (i + 1) (a + v % 128 * 2 ^ (7 * i)) m (by omega) (by rw [Nat.pow_succ] at hv; omega) (by omega) (by simpa using hk)
        have h1 : (v % 128 + 128) % 128 = v % 128 := by omega
        simp only [List.take_succ_cons, num, h1]
        rw [if_neg (by omega), if_neg (by omega), ih]

theorem u64_groups {v : Nat} (h : v < 18446744073709551616) : v < 2 * 128 ^ 9 := by
  have : (2 * 128 ^ 9 : Nat) = 18446744073709551616 := by decide
  omega

theorem num_enc (rest : List Nat) (v : Nat) (h : v < 18446744073709551616) : num (enc v ++ rest) 0 0 = (v, (enc v).length, 0) := by
  have := num_encF rest 9 v 0 0 rfl (u64_groups h) (by omega)
  simpa [enc] using this

theorem num_enc_cut (v k : Nat) (h : v < 18446744073709551616) (hk : k < (enc v).length) : num ((enc v).take k) 0 0 = (0, 0, 3) :=
  num_cut 9 v 0 0 k rfl (u64_groups h) (by omega) hk

theorem num_bound : ∀ (l : List Nat) (i a : Nat), (num l i a).2.1 ≤ i + l.length ∧ ((num l i a).2.2 ≠ 0 → (num l i a).1 = 0 ∧ (num l i a).2.1 = 0)
  | [], i, a => by simp [num]
  | c :: r, i, a => by
    have := num_bound r (i + 1) (a + c % 128 * 2 ^ (7 * i))
    unfold num
    split
    · simp
    · split
      · simp
      · simp only [List.length_cons]
        omega

end Go.Proofs.YtdkiopajilakcaaGreat
/- What is said of memory: a slice of bytes that holds a list of naturals, nil and empty ones among them; a row of bytes that the call itself made. -/
namespace Go.Proofs.YtdkiopajilakcaaGreat
open Go.RowKit

/-- A fact put aside, so that the walk doesn't take it for a rule. -/
theorem hide {p : Prop} (h : p) : Hid p := h

theorem ret_int {k : IntKind} {a b : Int} (h : a = b) : Ending.returned (.int k a) = .returned (.int k b) := by rw [h]

theorem ret_bool {a b : Bool} (h : a = b) : Ending.returned (.bool a) = .returned (.bool b) := by rw [h]

/-- A byte as a value. -/
def bv (x : Nat) : Value := .int .u8 (x : Int)
def bvs (l : List Nat) : List Value := l.map bv

theorem bvs_len (l : List Nat) : (bvs l).length = l.length := by simp [bvs]
theorem bvs_append (a b : List Nat) : bvs (a ++ b) = bvs a ++ bvs b := by simp [bvs]
theorem bvs_one (x : Nat) : bvs [x] = [.int .u8 (x : Int)] := rfl
theorem bvs_cell (l : List Nat) : ∀ u ∈ bvs l, u.oneCell' = true := by
  intro u hu
  obtain ⟨_, _, rfl⟩ := List.mem_map.1 hu
  rfl
theorem bvs_get {l : List Nat} {i : Nat} (h : i < l.length) : (bvs l)[i]? = some (.int .u8 (l.getD i 0 : Nat)) := by
  simp [bvs, bv, h]

/-- The slice at 'A', of 'n' bytes, holds the list l, in a block below B. -/
def Holds (w : World) (B : Nat) (A : Option Addr) (n : Nat) (l : List Nat) : Prop :=
  l.length = n ∧ (∀ x ∈ l, x < 256) ∧ (0 < n → ∃ b off, A = some ⟨b, off, none⟩ ∧ b < B ∧ ∀ i, i < n → w.cell? ⟨b, off + i, none⟩ = some (.int .u8 ((l.getD i 0 : Nat) : Int)))

section
variable {w w' : World} {B B' : Nat} {A : Option Addr} {n : Nat} {l : List Nat}

theorem Holds.nil_ (w : World) (B : Nat) : Holds w B none 0 [] := ⟨rfl, by simp, fun h => by omega⟩

theorem Holds.byte (h : Holds w B A n l) {i : Nat} (hi : i < n) : l.getD i 0 < 256 := by
  have hl : i < l.length := by have := h.1; omega
  rw [List.getD_eq_getElem?_getD, List.getElem?_eq_getElem hl]
  exact h.2.1 _ (List.getElem_mem hl)

theorem Holds.keep (h : Holds w B A n l) (hk : ∀ p : Addr, p.block < B → w'.cell? p = w.cell? p) : Holds w' B A n l :=
  ⟨h.1, h.2.1, fun hn => by
    obtain ⟨b, off, e, hb, hc⟩ := h.2.2 hn
    exact ⟨b, off, e, hb, fun i hi => (hk ⟨b, off + i, none⟩ hb).trans (hc i hi)⟩⟩
theorem Holds.below (h : Holds w B A n l) (hb : Below B w w') : Holds w' B A n l := h.keep fun _ hp => hb.cell hp
theorem Holds.more (h : Holds w B A n l) (hB : B ≤ B') : Holds w B' A n l :=
  ⟨h.1, h.2.1, fun hn => by
    obtain ⟨b, off, e, hb, hc⟩ := h.2.2 hn
    exact ⟨b, off, e, by omega, hc⟩⟩
theorem Holds.drew (h : Holds w B A n l) : Holds w.drew B A n l := h
theorem Holds.drewN (h : Holds w B A n l) (k : Nat) : Holds (w.drewN k) B A n l := h

/-- The first k of them. -/
theorem Holds.take (h : Holds w B A n l) {k : Nat} (hk : k ≤ n) : Holds w B A k (l.take k) :=
  ⟨by simp [h.1]; omega, fun x hx => h.2.1 x (List.mem_of_mem_take hx), fun hk0 => by
    obtain ⟨b, off, e, hb, hc⟩ := h.2.2 (by omega)
    refine ⟨b, off, e, hb, fun i hi => ?_⟩
    rw [hc i (by omega)]
    simp [hi]⟩

/-- What lies behind the first k. -/
theorem Holds.drop (h : Holds w B A n l) {k cap : Nat} (hk : k ≤ n) (hc : n ≤ cap) (A' : Option Addr) (hA' : ¬ cap = k → A' = A.map (·.add k)) : Holds w B A' (n - k) (l.drop k) :=
  ⟨by simp [h.1], fun x hx => h.2.1 x (List.mem_of_mem_drop hx), fun hk0 => by
    obtain ⟨b, off, rfl, hb, hcell⟩ := h.2.2 (by omega)
    refine ⟨b, off + k, ?_, hb, fun i hi => ?_⟩
    · rw [hA' (by omega)]
      simp [Addr.add]
    · rw [show off + k + i = off + (k + i) from by omega, hcell (k + i) (by omega)]
      simp⟩

/-- A row of the call's own is such a slice. -/
theorem Holds.of_own {base e : Nat} {v : Value} (h : w.ownsRow base e 1 v n (bvs l)) (hs : ∀ x ∈ l, x < 256) : ∃ A c, v = .slice A n c ∧ n ≤ c ∧ (A = none → c = 0) ∧ Holds w w.heap.size A n l := by
  have hl : l.length = n := by have := h.1; rw [bvs_len] at this; omega
  rcases h.2 with ⟨rfl, rfl⟩ | ⟨g, cap, cur, rfl, _, hg, hnc, _, _, _⟩
  · exact ⟨none, 0, rfl, Nat.le_refl _, fun _ => rfl, hl, hs, fun h => by omega⟩
  · refine ⟨some ⟨g, 0, none⟩, cap, rfl, hnc, (fun h => by cases h), hl, hs, fun hn => ⟨g, 0, rfl, ?_, fun i hi => ?_⟩⟩
    · exact (Array.getElem?_eq_some_iff.1 hg).1
    · have := h.cellAt i (by omega)
      rw [Nat.zero_add, this, bvs_get (by omega)]

end

/-- Below the base of a row that was written nothing has turned. -/
theorem below_of_grown {w w' : World} {base e n : Nat} {v : Value} {xs : List Value} (ho : w.ownsRow base e 1 v n xs) (hb : base ≤ w.heap.size) (hg : w.grownBy w' v.ownBlock) : Below base w w' :=
  (Below.refl _ _).grown hg hb fun k hk => (ho.lt k hk).1

/-- From w to w': nothing that was there has turned, but for block r; and what lay in r lies there, or in a new block, r'. -/
def Went (w : World) (r : Option Nat) (w' : World) (r' : Option Nat) : Prop := w.grownBy w' r ∧ (r' = r ∨ ∃ g, r' = some g ∧ w.heap.size ≤ g)

section
variable {w w1 w2 : World} {r r1 r2 : Option Nat}
theorem Went.refl (w : World) (r : Option Nat) : Went w r w r := ⟨World.grownBy.refl w r, .inl rfl⟩
theorem Went.size (h : Went w r w1 r1) : w.heap.size ≤ w1.heap.size := h.1.size
theorem Went.trans (h : Went w r w1 r1) (k : Went w1 r1 w2 r2) : Went w r w2 r2 := by
  refine ⟨⟨k.1.os.trans h.1.os, k.1.tape.trans h.1.tape, k.1.output.trans h.1.output, Nat.le_trans h.1.size k.1.size, fun i hi hne => ?_⟩, ?_⟩
  · refine (k.1.block i (Nat.lt_of_lt_of_le hi h.1.size) ?_).trans (h.1.block i hi hne)
    rcases h.2 with e | ⟨g, e, hg⟩
    · rw [e]; exact hne
    · rw [e]
      intro e2
      have := Option.some.inj e2
      omega
  · rcases k.2 with e | ⟨g, e, hg⟩
    · rw [e]; exact h.2
    · exact .inr ⟨g, e, Nat.le_trans h.1.size hg⟩
theorem Went.alloc (h : Went w r w1 r1) (o : Obj) : Went w r (w1.alloc o) r1 := h.trans ⟨World.grownBy_alloc w1 o r1, .inl rfl⟩
theorem Went.drew (h : Went w r w1 r1) : Went w r w1.drew r1 := h.trans ⟨⟨rfl, rfl, rfl, Nat.le_refl _, fun _ _ _ => rfl⟩, .inl rfl⟩
theorem Went.of_below (h : Below w.heap.size w w1) (r : Option Nat) : Went w r w1 r := ⟨⟨h.os, h.tape, h.output, h.size, fun k hk _ => h.block k hk⟩, .inl rfl⟩
theorem Went.of_at (hg : w.grownBy w1 r) (ha : r1 = r ∨ r1 = some w.heap.size) : Went w r w1 r1 := ⟨hg, ha.imp id fun e => ⟨_, e, Nat.le_refl _⟩⟩
/-- A block whose elements are of another type than the row's is as it was. -/
theorem Went.other {base e t n : Nat} {v : Value} {xs : List Value} {cs : Array Value} {g : Nat} (h : Went w v.ownBlock w1 r1) (ho : w.ownsRow base e 1 v n xs) (hb : w.heap[g]? = some (.cells cs t (0, 0))) (hne : e ≠ t) :
    w1.heap[g]? = some (.cells cs t (0, 0)) := by
  rw [h.1.block g (Array.getElem?_eq_some_iff.1 hb).1]
  · exact hb
  · rcases ho.2 with ⟨rfl, _⟩ | ⟨g', cap, cur, rfl, _, hh, _⟩
    · simp [Value.ownBlock]
    · intro e2
      have e3 : g = g' := by simpa [Value.ownBlock] using e2
      rw [← e3, hb] at hh
      injection hh with hh
      injection hh with _ ht
      exact hne ht.symm
theorem Went.below {base e n : Nat} {v : Value} {xs : List Value} (h : Went w v.ownBlock w1 r1) (ho : w.ownsRow base e 1 v n xs) (hb : base ≤ w.heap.size) : Below base w w1 := below_of_grown ho hb h.1
end

/-- What is owned stays owned where only new blocks came. -/
theorem own_below {w w1 : World} {base e n : Nat} {v : Value} {xs : List Value} (ho : w.ownsRow base e 1 v n xs) (hb : Below w.heap.size w w1) : w1.ownsRow base e 1 v n xs :=
  ho.kept (Went.of_below hb none).1 (by cases h : v.ownBlock <;> simp)

/-- The shape of a row of the call's own, with a length of a name of its own. -/
theorem row_slice {w : World} {base e n : Nat} {v : Value} {l : List Nat} (h : w.ownsRow base e 1 v n (bvs l)) (hs : ∀ x ∈ l, x < 256) :
    ∃ A m c, v = .slice A m c ∧ m ≤ c ∧ Hid (Holds w w.heap.size A m l) ∧ Hid (m = n) := by
  obtain ⟨A, c, hv, h1, _, h2⟩ := Holds.of_own h hs
  exact ⟨A, n, c, hv, h1, h2, rfl⟩

/-- What a call hands back that makes bytes: a slice of the call's own, that holds l; nothing that was there has turned. -/
def NewBytes (w : World) (l : List Nat) (e : Ending) (w' : World) : Prop :=
  ∃ A n c, e = .returned (.slice A n c) ∧ w'.ownsRow w.heap.size 5 1 (.slice A n c) n (bvs l) ∧ Holds w' w'.heap.size A n l ∧ n ≤ c ∧ Below w.heap.size w w'

theorem newBytes_of {w w' : World} {n : Nat} {v : Value} {l : List Nat} (ho : w'.ownsRow w.heap.size 5 1 v n (bvs l)) (hs : ∀ x ∈ l, x < 256) (hb : Below w.heap.size w w') : NewBytes w l (.returned v) w' := by
  obtain ⟨A, c, rfl, h1, _, h2⟩ := Holds.of_own ho hs
  exact ⟨A, n, c, rfl, ho, h2, h1, hb⟩

section
variable {P : Program} (w : World)

/-- 'append(row, b...)', the row the call's own, b whatever slice of bytes. -/
theorem run_append_bytes (base : Nat) (t ty e : TypeId) (i : TypeInfo) (z : Value) (ht : P.underlying t = some (.slice e)) (hi : P.info? e = some i) (hz : i.zero = some z)
    (hsize : i.size = 1) (hby : i.bytes = 1) (hzs : z.cells.size = 1)
    (v : Value) (n : Nat) (xs : List Value) (hown : w.ownsRow base e 1 v n xs)
    (B : Nat) (A : Option Addr) (m c : Nat) (l : List Nat) (hl : Holds w B A m l) (hroom : n + m ≤ 70368744177664) (hbase : base ≤ w.heap.size) :
    ∃ v' w', (Builtin.append_ #[t, t] ty #[v, .slice A m c]).run P w = .ok v' w' ∧ w'.ownsRow base e 1 v' (n + m) (xs ++ bvs l) ∧ Went w v.ownBlock w' v'.ownBlock := by
  have hlen := hl.1
  rcases A with _ | ad
  · have hm : m = 0 := by
      rcases Nat.eq_zero_or_pos m with h | h
      · exact h
      · obtain ⟨_, _, h, _⟩ := hl.2.2 h
        cases h
    subst hm
    have : l = [] := List.eq_nil_of_length_eq_zero hlen
    subst this
    refine ⟨v, w, ?_, by simpa [bvs] using hown, Went.refl w _⟩
    rcases hown.2 with ⟨rfl, rfl⟩ | ⟨g, cap, cur, rfl, _, _, hnc, _⟩
    · simp [Builtin.append_, run_underlying ht, sizeOf, typeInfo, hi, Builtin.lenOf, Builtin.firstCells]
    · simp [Builtin.append_, run_underlying ht, sizeOf, typeInfo, hi, Builtin.lenOf, Builtin.firstCells, hnc, storeCells]
  · obtain ⟨v', w', h1, h2, h3, _, h5⟩ := run_append_own_at (P := P) w base t ty e i z 1 1 ht hi hz hsize hby hzs (by omega) v n xs hown ad m c (bvs l) (by rw [bvs_len, hlen, Nat.mul_one])
      (fun j u hu => by
        have hj : j < l.length := by
          have := (List.getElem?_eq_some_iff.1 hu).1
          rwa [bvs_len] at this
        obtain ⟨b, off, h, _, hc⟩ := hl.2.2 (by omega)
        obtain rfl := Option.some.inj h
        rw [bvs_get hj] at hu
        rw [Addr.add_lit, hc j (by omega)]
        exact hu) (bvs_cell _) (by simp only [maxLen]; omega) (by omega) hbase
    exact ⟨v', w', h1, h2, .of_at h3 h5⟩

theorem wpList_append_bytes {ops : Array Oper} {rest : List Oper} {o : Oper} {a : Act} {Q : Exit → Act → World → Prop} (hgd : o.guard = none) (s x : Operand) (t : TypeId)
    (ho : o.op = .call { callee := .builtin .append, args := #[s, x], argTypes := #[t, t] })
    (base : Nat) (e : TypeId) (i : TypeInfo) (z : Value) (ht : P.underlying t = some (.slice e)) (hi : P.info? e = some i) (hz : i.zero = some z)
    (hsize : i.size = 1) (hby : i.bytes = 1) (hzs : z.cells.size = 1)
    (v : Value) (n : Nat) (xs : List Value) (hs : a.eval s = v) (hown : w.ownsRow base e 1 v n xs)
    (B : Nat) (A : Option Addr) (m c : Nat) (l : List Nat) (hx : a.eval x = .slice A m c) (hl : Holds w B A m l) (hroom : n + m ≤ 70368744177664) (hbase : base ≤ w.heap.size)
    (h : ∀ v' w', w'.ownsRow base e 1 v' (n + m) (xs ++ bvs l) → Went w v.ownBlock w' v'.ownBlock → wpList P ops Q rest (a.put o.dst v') w') : wpList P ops Q (o :: rest) a w := by
  refine wpList_plain hgd fun K hK => ?_
  obtain ⟨v', w', hr, h2, h3⟩ := run_append_bytes (P := P) w base t o.type e i z ht hi hz hsize hby hzs v n xs hown B A m c l hl hroom hbase
  unfold Oper.wp execOp
  simp only [ho, resolve, invoke, builtin, Sem.run_bind, Sem.run_pure, Result.andThen_ok, List.map_toArray, List.map_cons, List.map_nil, hs, hx, hr]
  exact hK _ _ (h v' w' h2 h3)
end

end Go.Proofs.YtdkiopajilakcaaGreat
/- Slices whose elements take k cells each, wherever they lie: what such a slice holds, cell by cell; the blocks that it may lie in. -/
namespace Go.Proofs.YtdkiopajilakcaaGreat
open Go.RowKit

/-- The slice v holds n elements of k cells each, xs in all; they lie in a block of which F holds. -/
def FlatAt (F : Nat → Prop) (w : World) (k : Nat) (v : Value) (n : Nat) (xs : List Value) : Prop :=
  xs.length = n * k ∧ (∀ u ∈ xs, u.oneCell' = true) ∧ ∃ A c, v = .slice A n c ∧ n ≤ c ∧ c ≤ maxLen ∧ (A = none → c = 0) ∧
    (0 < n → ∃ b off, A = some ⟨b, off, none⟩ ∧ F b ∧ b < w.heap.size ∧ w.rangeAt b off xs)

/-- From w to w' no block of which F holds has turned. -/
def Kept (F : Nat → Prop) (w w' : World) : Prop := w.heap.size ≤ w'.heap.size ∧ ∀ i, i < w.heap.size → F i → w'.heap[i]? = w.heap[i]?

theorem Kept.refl (F : Nat → Prop) (w : World) : Kept F w w := ⟨Nat.le_refl _, fun _ _ _ => rfl⟩
theorem Kept.trans {F : Nat → Prop} {a b c : World} (h : Kept F a b) (k : Kept F b c) : Kept F a c :=
  ⟨Nat.le_trans h.1 k.1, fun i hi hf => (k.2 i (Nat.lt_of_lt_of_le hi h.1) hf).trans (h.2 i hi hf)⟩
theorem Kept.of_below {w w' : World} (h : Below w.heap.size w w') (F : Nat → Prop) : Kept F w w' := ⟨h.size, fun i hi _ => h.block i hi⟩
theorem Kept.of_grown {w w' : World} {r : Option Nat} (h : w.grownBy w' r) {F : Nat → Prop} (hr : ∀ g, r = some g → ¬ F g) : Kept F w w' :=
  ⟨h.size, fun i hi hf => h.block i hi (fun e => hr i e.symm hf)⟩
theorem Kept.mono {F G : Nat → Prop} {w w' : World} (h : Kept F w w') (hg : ∀ i, i < w.heap.size → G i → F i) : Kept G w w' := ⟨h.1, fun i hi hf => h.2 i hi (hg i hi hf)⟩
theorem Kept.drewN (F : Nat → Prop) (w : World) (n : Nat) : Kept F w (w.drewN n) := ⟨Nat.le_refl _, fun _ _ _ => rfl⟩
theorem Kept.drew (F : Nat → Prop) (w : World) : Kept F w w.drew := ⟨Nat.le_refl _, fun _ _ _ => rfl⟩
theorem Kept.cell {F : Nat → Prop} {w w' : World} (h : Kept F w w') {b o : Nat} (hb : b < w.heap.size) (hf : F b) : w'.cell? ⟨b, o, none⟩ = w.cell? ⟨b, o, none⟩ := World.cell?_of_block (h.2 b hb hf)

section
variable {F G : Nat → Prop} {w w' : World} {k n : Nat} {v : Value} {xs : List Value}

theorem FlatAt.kept (h : FlatAt F w k v n xs) (hk : Kept F w w') : FlatAt F w' k v n xs := by
  obtain ⟨h1, h2, A, c, hv, h3, h4, h5, h6⟩ := h
  refine ⟨h1, h2, A, c, hv, h3, h4, h5, fun hn => ?_⟩
  obtain ⟨b, off, hA, hf, hb, hr⟩ := h6 hn
  exact ⟨b, off, hA, hf, Nat.lt_of_lt_of_le hb hk.1, fun j u hj => (hk.cell hb hf).trans (hr j u hj)⟩
theorem FlatAt.mono (h : FlatAt F w k v n xs) (hg : ∀ i, i < w.heap.size → F i → G i) : FlatAt G w k v n xs := by
  obtain ⟨h1, h2, A, c, hv, h3, h4, h5, h6⟩ := h
  refine ⟨h1, h2, A, c, hv, h3, h4, h5, fun hn => ?_⟩
  obtain ⟨b, off, hA, hf, hb, hr⟩ := h6 hn
  exact ⟨b, off, hA, hg b hb hf, hb, hr⟩
theorem FlatAt.nil_ (F : Nat → Prop) (w : World) (k : Nat) : FlatAt F w k (.slice none 0 0) 0 [] :=
  ⟨by simp, by simp, none, 0, rfl, Nat.le_refl _, by unfold maxLen; omega, fun _ => rfl, fun h => by omega⟩
theorem FlatAt.of_own {base e : Nat} (h : w.ownsRow base e k v n xs) (h1 : ∀ u ∈ xs, u.oneCell' = true) : FlatAt (base ≤ ·) w k v n xs := by
  refine ⟨h.1, h1, ?_⟩
  rcases h.2 with ⟨rfl, rfl⟩ | ⟨g, cap, cur, rfl, hb, hg, hnc, hm, _, _⟩
  · exact ⟨none, 0, rfl, Nat.le_refl _, by unfold maxLen; omega, fun _ => rfl, fun h => by omega⟩
  · refine ⟨some ⟨g, 0, none⟩, cap, rfl, hnc, hm, (fun h => by cases h), fun _ => ⟨g, 0, rfl, hb, lt_of_block hg, fun j u hj => ?_⟩⟩
    have := h.cells (g := g) rfl j u hj
    rwa [Addr.add_lit] at this
theorem FlatAt.len (h : FlatAt F w k v n xs) : xs.length = n * k := h.1
/-- Its length is a name of its own. -/
theorem FlatAt.shape (h : FlatAt F w k v n xs) : ∃ A c, v = .slice A n c ∧ n ≤ c ∧ c ≤ maxLen ∧ (A = none → c = 0) := by
  obtain ⟨_, _, A, c, hv, h3, h4, h5, _⟩ := h
  exact ⟨A, c, hv, h3, h4, h5⟩
/-- The element at i: where it lies, and its cells. -/
theorem FlatAt.elem (h : FlatAt F w k v n xs) {i : Nat} (hi : i < n) : ∃ b off c, v = .slice (some ⟨b, off, none⟩) n c ∧ n ≤ c ∧ F b ∧ b < w.heap.size ∧ w.rangeAt b (off + i * k) ((xs.drop (i * k)).take k) := by
  obtain ⟨h1, h2, A, c, hv, h3, h4, h5, h6⟩ := h
  obtain ⟨b, off, rfl, hf, hb, hr⟩ := h6 (by omega)
  refine ⟨b, off, c, hv, h3, hf, hb, fun j u hj => ?_⟩
  rw [Nat.add_assoc]
  apply hr
  have hjk : j < k := by
    have := (List.getElem?_eq_some_iff.1 hj).1
    rw [List.length_take] at this
    omega
  rw [List.getElem?_take_of_lt hjk, List.getElem?_drop] at hj
  exact hj
end

/-- Elements one behind the other. -/
theorem flat_get {α : Type} (f : α → List Value) (k : Nat) : ∀ (l : List α) (i : Nat) (x : α), (∀ y ∈ l, (f y).length = k) → l[i]? = some x → ((l.flatMap f).drop (i * k)).take k = f x
  | [], _, _, _, h => by simp at h
  | y :: r, 0, x, hk, h => by
    have e : y = x := by simpa using h
    subst e
    have := hk y (by simp)
    simp [this.symm]
  | y :: r, i + 1, x, hk, h => by
    have h1 := hk y (by simp)
    have ih := flat_get f k r i x (fun z hz => hk z (by simp [hz])) (by simpa using h)
    rw [List.flatMap_cons, show (i + 1) * k = (f y).length + i * k from by rw [h1, Nat.add_mul]; omega, List.drop_append, List.drop_eq_nil_of_le (Nat.le_add_right _ _), Nat.add_sub_cancel_left]
    simpa using ih
theorem flat_len {α : Type} (f : α → List Value) (k : Nat) : ∀ (l : List α), (∀ y ∈ l, (f y).length = k) → (l.flatMap f).length = l.length * k
  | [], _ => by simp
  | y :: r, hk => by
    have ih := flat_len f k r (fun z hz => hk z (by simp [hz]))
    have h1 := hk y (by simp)
    rw [List.flatMap_cons, List.length_append, ih, h1, List.length_cons, Nat.add_mul]
    omega
theorem flat_set {α : Type} (f : α → List Value) (k : Nat) : ∀ (l : List α) (i : Nat) (x : α), (∀ y ∈ l, (f y).length = k) → (f x).length = k → i < l.length →
    (l.set i x).flatMap f = (l.flatMap f).take (i * k) ++ f x ++ (l.flatMap f).drop (i * k + k)
  | [], _, _, _, _, h => by simp at h
  | y :: r, 0, x, hk, hx, h => by
    have h1 := hk y (by simp)
    simp [List.set, List.flatMap_cons, ← h1]
  | y :: r, i + 1, x, hk, hx, h => by
    have h1 := hk y (by simp)
    have ih := flat_set f k r i x (fun z hz => hk z (by simp [hz])) hx (by simpa using h)
    have e : (i + 1) * k = (f y).length + i * k := by rw [h1, Nat.add_mul]; omega
    rw [List.set_cons_succ, List.flatMap_cons, List.flatMap_cons, ih, e, List.take_append, List.drop_append]
    simp [List.take_of_length_le, Nat.add_assoc]

section
variable {P : Program} (w : World)
/-- 'append(row, l...)', the row the call's own, l whatever slice of such elements. -/
theorem run_append_flat (base : Nat) (t ty e : TypeId) (i : TypeInfo) (z : Value) (k bytes : Nat) (ht : P.underlying t = some (.slice e)) (hi : P.info? e = some i) (hz : i.zero = some z)
    (hsize : i.size = k) (hby : i.bytes = bytes) (hzs : z.cells.size = k) (hk : 0 < k)
    (v : Value) (n : Nat) (xs : List Value) (hown : w.ownsRow base e k v n xs)
    (F : Nat → Prop) (A : Option Addr) (m c : Nat) (ys : List Value) (hl : FlatAt F w k (.slice A m c) m ys) (hroom : n + m ≤ maxLen) (hbytes : (n + m) * bytes ≤ 140737488355328) (hbase : base ≤ w.heap.size) :
    ∃ v' w', (Builtin.append_ #[t, t] ty #[v, .slice A m c]).run P w = .ok v' w' ∧ w'.ownsRow base e k v' (n + m) (xs ++ ys) ∧ w.grownBy w' v.ownBlock := by
  obtain ⟨hlen, h1, A', c', hv, h3, h4, h5, h6⟩ := hl
  obtain ⟨rfl, rfl⟩ : A = A' ∧ c = c' := by injection hv with e1 _ e3; exact ⟨e1, e3⟩
  rcases A with _ | ad
  · have hm : m = 0 := by
      rcases Nat.eq_zero_or_pos m with h | h
      · exact h
      · obtain ⟨_, _, h, _⟩ := h6 h
        cases h
    subst hm
    have : ys = [] := List.eq_nil_of_length_eq_zero (by simpa using hlen)
    subst this
    refine ⟨v, w, ?_, by simpa using hown, World.grownBy.refl w _⟩
    rcases hown.2 with ⟨rfl, rfl⟩ | ⟨g, cap, cur, rfl, _, _, hnc, _⟩
    · simp [Builtin.append_, run_underlying ht, sizeOf, typeInfo, hi, Builtin.lenOf, Builtin.firstCells]
    · simp [Builtin.append_, run_underlying ht, sizeOf, typeInfo, hi, Builtin.lenOf, Builtin.firstCells, hnc, storeCells]
  · obtain ⟨v', w', g1, g2, g3, _, _⟩ := run_append_own_at (P := P) w base t ty e i z k bytes ht hi hz hsize hby hzs hk v n xs hown ad m c ys hlen
      (fun j u hu => by
        have hj : j < ys.length := (List.getElem?_eq_some_iff.1 hu).1
        have hm : 0 < m := by
          rcases Nat.eq_zero_or_pos m with h | h
          · subst h
            omega
          · exact h
        obtain ⟨b, off, h, _, _, hr⟩ := h6 hm
        obtain rfl := Option.some.inj h
        rw [Addr.add_lit]
        exact hr j u hu) h1 hroom hbytes hbase
    exact ⟨v', w', g1, g2, g3⟩

theorem wpList_append_flat {ops : Array Oper} {rest : List Oper} {o : Oper} {a : Act} {Q : Exit → Act → World → Prop} (hgd : o.guard = none) (s x : Operand) (t : TypeId)
    (ho : o.op = .call { callee := .builtin .append, args := #[s, x], argTypes := #[t, t] })
    (base : Nat) (e : TypeId) (i : TypeInfo) (z : Value) (k bytes : Nat) (ht : P.underlying t = some (.slice e)) (hi : P.info? e = some i) (hz : i.zero = some z)
    (hsize : i.size = k) (hby : i.bytes = bytes) (hzs : z.cells.size = k) (hk : 0 < k)
    (v : Value) (n : Nat) (xs : List Value) (hs : a.eval s = v) (hown : w.ownsRow base e k v n xs)
    (F : Nat → Prop) (A : Option Addr) (m c : Nat) (ys : List Value) (hx : a.eval x = .slice A m c) (hl : FlatAt F w k (.slice A m c) m ys) (hroom : n + m ≤ maxLen) (hbytes : (n + m) * bytes ≤ 140737488355328) (hbase : base ≤ w.heap.size)
    (h : ∀ v' w', w'.ownsRow base e k v' (n + m) (xs ++ ys) → w.grownBy w' v.ownBlock → wpList P ops Q rest (a.put o.dst v') w') : wpList P ops Q (o :: rest) a w := by
  refine wpList_plain hgd fun K hK => ?_
  obtain ⟨v', w', hr, h2, h3⟩ := run_append_flat (P := P) w base t o.type e i z k bytes ht hi hz hsize hby hzs hk v n xs hown F A m c ys hl hroom hbytes hbase
  unfold Oper.wp execOp
  simp only [ho, resolve, invoke, builtin, Sem.run_bind, Sem.run_pure, Result.andThen_ok, List.map_toArray, List.map_cons, List.map_nil, hs, hx, hr]
  exact hK _ _ (h v' w' h2 h3)
end
/-- An empty row of the call's own, made by a literal. -/
theorem ownsRow_lit (w : World) (e k : Nat) : (w.alloc (.cells #[] e)).ownsRow w.heap.size e k (.slice (some ⟨w.heap.size, 0, none⟩) 0 0) 0 [] :=
  ⟨by simp, .inr ⟨w.heap.size, 0, #[], rfl, Nat.le_refl _, heap_alloc_new w _, Nat.le_refl _, Nat.zero_le _, by simp, by simp⟩⟩
theorem later_own {w w' : World} {base e size n : Nat} {v : Value} {xs : List Value} (ho : w.ownsRow base e size v n xs) (hb : base ≤ w.heap.size) (hg : w.grownBy w' v.ownBlock) : Below base w w' :=
  (Below.refl _ _).grown hg hb fun k hk => (ho.lt k hk).1
end Go.Proofs.YtdkiopajilakcaaGreat
/- Steps, operations and messages: what they say, and how they lie in memory. -/
namespace Go.Proofs.YtdkiopajilakcaaGreat
open Go.RowKit

/-- A step. -/
structure StepD where
  name : ByteArray
  stub : Int
  retry : Int
  wait : Int
  undo : Bool
  pivot : Bool
  deriving DecidableEq
namespace StepD
def cells (s : StepD) : List Value := [.string s.name, .int .i64 s.stub, .int .i64 s.retry, .int .i64 s.wait, .bool s.undo, .bool s.pivot]
theorem len (s : StepD) : s.cells.length = 6 := rfl
theorem one (s : StepD) : ∀ u ∈ s.cells, u.oneCell' = true := by simp [cells, Value.oneCell']
end StepD

def I64 (x : Int) : Prop := -9223372036854775808 ≤ x ∧ x < 9223372036854775808
def StepD.wf (s : StepD) : Prop := s.name.size ≤ 140737488355328 ∧ I64 s.stub ∧ I64 s.retry ∧ I64 s.wait

/-- An operation. -/
structure OpD where
  kind : Int
  client : Int
  request : Int
  name : ByteArray
  steps : List StepD
  saga : Int
  step : Int
  try_ : Int
  back : Bool
  good : Bool
  deriving DecidableEq
namespace OpD
/-- Its cells, its steps' slice being s. -/
def cells (o : OpD) (s : Value) : List Value := [.int .i64 o.kind, .int .i64 o.client, .int .i64 o.request, .string o.name, s, .int .i64 o.saga, .int .i64 o.step, .int .i64 o.try_, .bool o.back, .bool o.good]
theorem len (o : OpD) (s : Value) : (o.cells s).length = 10 := rfl
def wf (o : OpD) : Prop := I64 o.kind ∧ I64 o.client ∧ I64 o.request ∧ o.name.size ≤ 140737488355328 ∧ (∀ s ∈ o.steps, s.wf) ∧ I64 o.saga ∧ I64 o.step ∧ I64 o.try_
def zero : OpD := ⟨0, 0, 0, ⟨#[]⟩, [], 0, 0, 0, false, false⟩
end OpD

/-- The slice v holds these steps. -/
def StepsAt (F : Nat → Prop) (w : World) (v : Value) (l : List StepD) : Prop := FlatAt F w 6 v l.length (l.flatMap StepD.cells)
/-- The value v is this operation. -/
def OpAt (F : Nat → Prop) (w : World) (v : Value) (o : OpD) : Prop := ∃ s, v = .agg (o.cells s).toArray ∧ StepsAt F w s o.steps ∧ s.oneCell' = true
/-- The slice v holds these operations, their steps' slices beside them. -/
def OpsIn (F : Nat → Prop) (w : World) (v : Value) (ps : List (OpD × Value)) : Prop :=
  FlatAt F w 10 v ps.length (ps.flatMap fun p => p.1.cells p.2) ∧ ∀ p ∈ ps, StepsAt F w p.2 p.1.steps
def OpsAt (F : Nat → Prop) (w : World) (v : Value) (l : List OpD) : Prop := ∃ ps, ps.map (·.1) = l ∧ OpsIn F w v ps
/-- The slice v holds these integers. -/
def IncsAt (F : Nat → Prop) (w : World) (v : Value) (l : List Int) : Prop := FlatAt F w 1 v l.length (l.map fun x => .int .i64 x)

section
variable {F G : Nat → Prop} {w w' : World} {v : Value}
theorem StepsAt.kept {l : List StepD} (h : StepsAt F w v l) (hk : Kept F w w') : StepsAt F w' v l := FlatAt.kept h hk
theorem StepsAt.mono {l : List StepD} (h : StepsAt F w v l) (hg : ∀ i, i < w.heap.size → F i → G i) : StepsAt G w v l := FlatAt.mono h hg
theorem IncsAt.kept {l : List Int} (h : IncsAt F w v l) (hk : Kept F w w') : IncsAt F w' v l := FlatAt.kept h hk
theorem IncsAt.mono {l : List Int} (h : IncsAt F w v l) (hg : ∀ i, i < w.heap.size → F i → G i) : IncsAt G w v l := FlatAt.mono h hg
theorem OpsIn.kept {ps : List (OpD × Value)} (h : OpsIn F w v ps) (hk : Kept F w w') : OpsIn F w' v ps := ⟨h.1.kept hk, fun p hp => (h.2 p hp).kept hk⟩
theorem OpsIn.mono {ps : List (OpD × Value)} (h : OpsIn F w v ps) (hg : ∀ i, i < w.heap.size → F i → G i) : OpsIn G w v ps := ⟨h.1.mono hg, fun p hp => (h.2 p hp).mono hg⟩
theorem OpsAt.kept {l : List OpD} (h : OpsAt F w v l) (hk : Kept F w w') : OpsAt F w' v l := let ⟨ps, e, h'⟩ := h; ⟨ps, e, h'.kept hk⟩
theorem OpsAt.mono {l : List OpD} (h : OpsAt F w v l) (hg : ∀ i, i < w.heap.size → F i → G i) : OpsAt G w v l := let ⟨ps, e, h'⟩ := h; ⟨ps, e, h'.mono hg⟩
theorem OpAt.kept {o : OpD} (h : OpAt F w v o) (hk : Kept F w w') : OpAt F w' v o := let ⟨s, e, h', h1⟩ := h; ⟨s, e, h'.kept hk, h1⟩
theorem OpAt.mono {o : OpD} (h : OpAt F w v o) (hg : ∀ i, i < w.heap.size → F i → G i) : OpAt G w v o := let ⟨s, e, h', h1⟩ := h; ⟨s, e, h'.mono hg, h1⟩
theorem FlatAt.oneCell {k n : Nat} {xs : List Value} (h : FlatAt F w k v n xs) : v.oneCell' = true := by
  obtain ⟨_, _, _, _, rfl, _⟩ := h
  rfl
theorem StepsAt.nil_ (F : Nat → Prop) (w : World) : StepsAt F w (.slice none 0 0) [] := FlatAt.nil_ F w 6
theorem IncsAt.nil_ (F : Nat → Prop) (w : World) : IncsAt F w (.slice none 0 0) [] := FlatAt.nil_ F w 1
theorem OpsAt.nil_ (F : Nat → Prop) (w : World) : OpsAt F w (.slice none 0 0) [] := ⟨[], rfl, FlatAt.nil_ F w 10, by simp⟩
theorem OpsIn.one {ps : List (OpD × Value)} (h : OpsIn F w v ps) : ∀ u ∈ ps.flatMap (fun p => p.1.cells p.2), u.oneCell' = true := h.1.2.1

/-- The step at i, and its cells. -/
theorem StepsAt.at_ {l : List StepD} (h : StepsAt F w v l) {i : Nat} (hi : i < l.length) : ∃ s b off c, l[i]? = some s ∧ v = .slice (some ⟨b, off, none⟩) l.length c ∧ l.length ≤ c ∧ F b ∧ b < w.heap.size ∧ w.rangeAt b (off + i * 6) s.cells := by
  obtain ⟨b, off, c, hv, hc, hf, hb, hr⟩ := FlatAt.elem h hi
  have hs : l[i]? = some l[i] := List.getElem?_eq_getElem hi
  refine ⟨l[i], b, off, c, hs, hv, hc, hf, hb, ?_⟩
  rwa [flat_get StepD.cells 6 l i _ (fun y _ => y.len) hs] at hr
theorem OpsIn.at_ {ps : List (OpD × Value)} (h : OpsIn F w v ps) {i : Nat} (hi : i < ps.length) : ∃ o s b off c, ps[i]? = some (o, s) ∧ v = .slice (some ⟨b, off, none⟩) ps.length c ∧ ps.length ≤ c ∧ F b ∧ b < w.heap.size ∧ w.rangeAt b (off + i * 10) (o.cells s) ∧ StepsAt F w s o.steps := by
  obtain ⟨b, off, c, hv, hc, hf, hb, hr⟩ := FlatAt.elem h.1 hi
  have hs : ps[i]? = some ps[i] := List.getElem?_eq_getElem hi
  refine ⟨ps[i].1, ps[i].2, b, off, c, hs, hv, hc, hf, hb, ?_, h.2 _ (List.getElem_mem hi)⟩
  rwa [flat_get (fun p : OpD × Value => p.1.cells p.2) 10 ps i _ (fun y _ => y.1.len y.2) hs] at hr
theorem IncsAt.at_ {l : List Int} (h : IncsAt F w v l) {i : Nat} (hi : i < l.length) : ∃ x b off c, l[i]? = some x ∧ v = .slice (some ⟨b, off, none⟩) l.length c ∧ l.length ≤ c ∧ F b ∧ b < w.heap.size ∧ w.cell? ⟨b, off + i, none⟩ = some (.int .i64 x) := by
  obtain ⟨b, off, c, hv, hc, hf, hb, hr⟩ := FlatAt.elem h hi
  have hs : l[i]? = some l[i] := List.getElem?_eq_getElem hi
  refine ⟨l[i], b, off, c, hs, hv, hc, hf, hb, ?_⟩
  have := hr 0 (.int .i64 l[i]) (by simp [List.getElem?_drop, hs])
  simpa using this
end

/-- A message. -/
structure MsgD where
  kind : Int
  src : Int
  dst : Int
  view : Int
  last : Int
  num : Int
  commit : Int
  nonce : Int
  request : Int
  lead : Bool
  good : Bool
  fenced : Bool
  op : OpD
  rerr : Int
  rsaga : Int
  rstate : Int
  rstep : Int
  cview : Int
  cstub : Int
  csaga : Int
  cstep : Int
  ctry : Int
  cback : Bool
  ops : List OpD
  incs : List Int
  deriving DecidableEq
namespace MsgD
/-- Its cells ahead of its operation, and behind it. -/
def front (m : MsgD) : List Value := [.int .i64 m.kind, .int .i64 m.src, .int .i64 m.dst, .int .i64 m.view, .int .i64 m.last, .int .i64 m.num, .int .i64 m.commit, .int .i64 m.nonce, .int .i64 m.request, .bool m.lead, .bool m.good, .bool m.fenced]
def middle (m : MsgD) : List Value := [.int .i64 m.rerr, .int .i64 m.rsaga, .int .i64 m.rstate, .int .i64 m.rstep, .int .i64 m.cview, .int .i64 m.cstub, .int .i64 m.csaga, .int .i64 m.cstep, .int .i64 m.ctry, .bool m.cback]
/-- Its cells: s its operation's steps, o its operations, i its incarnations. -/
def cells (m : MsgD) (s o i : Value) : List Value :=
  [.int .i64 m.kind, .int .i64 m.src, .int .i64 m.dst, .int .i64 m.view, .int .i64 m.last, .int .i64 m.num, .int .i64 m.commit, .int .i64 m.nonce, .int .i64 m.request, .bool m.lead, .bool m.good, .bool m.fenced,
   .int .i64 m.op.kind, .int .i64 m.op.client, .int .i64 m.op.request, .string m.op.name, s, .int .i64 m.op.saga, .int .i64 m.op.step, .int .i64 m.op.try_, .bool m.op.back, .bool m.op.good,
   .int .i64 m.rerr, .int .i64 m.rsaga, .int .i64 m.rstate, .int .i64 m.rstep, .int .i64 m.cview, .int .i64 m.cstub, .int .i64 m.csaga, .int .i64 m.cstep, .int .i64 m.ctry, .bool m.cback, o, i]
theorem len (m : MsgD) (s o i : Value) : (m.cells s o i).length = 34 := rfl
def wf (m : MsgD) : Prop :=
  I64 m.kind ∧ I64 m.src ∧ I64 m.dst ∧ I64 m.view ∧ I64 m.last ∧ I64 m.num ∧ I64 m.commit ∧ I64 m.nonce ∧ I64 m.request ∧ m.op.wf ∧ I64 m.rerr ∧ I64 m.rsaga ∧ I64 m.rstate ∧ I64 m.rstep ∧
  I64 m.cview ∧ I64 m.cstub ∧ I64 m.csaga ∧ I64 m.cstep ∧ I64 m.ctry ∧ (∀ o ∈ m.ops, o.wf) ∧ (∀ x ∈ m.incs, I64 x)
def zero : MsgD := ⟨0, 0, 0, 0, 0, 0, 0, 0, 0, false, false, false, .zero, 0, 0, 0, 0, 0, 0, 0, 0, 0, false, [], []⟩
end MsgD

/-- The lists of a message's value: its operation's steps, its operations, its incarnations. -/
def Lists (F : Nat → Prop) (w : World) (m : MsgD) (s o i : Value) : Prop := StepsAt F w s m.op.steps ∧ OpsAt F w o m.ops ∧ IncsAt F w i m.incs
/-- The value v is this message. -/
def MsgAt (F : Nat → Prop) (w : World) (v : Value) (m : MsgD) : Prop := ∃ s o i, v = .agg (m.cells s o i).toArray ∧ Lists F w m s o i
section
variable {F G : Nat → Prop} {w w' : World} {v s o i : Value} {m : MsgD}
theorem Lists.kept (h : Lists F w m s o i) (hk : Kept F w w') : Lists F w' m s o i := ⟨h.1.kept hk, h.2.1.kept hk, h.2.2.kept hk⟩
theorem Lists.mono (h : Lists F w m s o i) (hg : ∀ i, i < w.heap.size → F i → G i) : Lists G w m s o i := ⟨h.1.mono hg, h.2.1.mono hg, h.2.2.mono hg⟩
theorem MsgAt.kept (h : MsgAt F w v m) (hk : Kept F w w') : MsgAt F w' v m := let ⟨s, o, i, e, h'⟩ := h; ⟨s, o, i, e, h'.kept hk⟩
theorem MsgAt.mono (h : MsgAt F w v m) (hg : ∀ i, i < w.heap.size → F i → G i) : MsgAt G w v m := let ⟨s, o, i, e, h'⟩ := h; ⟨s, o, i, e, h'.mono hg⟩
theorem Lists.cell (h : Lists F w m s o i) : s.oneCell' = true ∧ o.oneCell' = true ∧ i.oneCell' = true := by
  obtain ⟨h1, ⟨ps, _, h2⟩, h3⟩ := h
  exact ⟨FlatAt.oneCell h1, FlatAt.oneCell h2.1, FlatAt.oneCell h3⟩
theorem MsgD.one (m : MsgD) (h1 : s.oneCell' = true) (h2 : o.oneCell' = true) (h3 : i.oneCell' = true) : ∀ u ∈ m.cells s o i, u.oneCell' = true := by
  simp [MsgD.cells, h1, h2, h3]
  simp [Value.oneCell']
theorem OpD.one (x : OpD) (h1 : s.oneCell' = true) : ∀ u ∈ x.cells s, u.oneCell' = true := by
  simp [OpD.cells, h1]
  simp [Value.oneCell']
theorem MsgAt.zero (F : Nat → Prop) (w : World) : MsgAt F w (.agg (MsgD.zero.cells (.slice none 0 0) (.slice none 0 0) (.slice none 0 0)).toArray) .zero :=
  ⟨_, _, _, rfl, StepsAt.nil_ F w, OpsAt.nil_ F w, IncsAt.nil_ F w⟩
end

/-- The cells of a block that is known whole. -/
theorem box10 {w : World} {g t : Nat} {c0 c1 c2 c3 c4 c5 c6 c7 c8 c9 : Value} (h : w.heap[g]? = some (.cells #[c0, c1, c2, c3, c4, c5, c6, c7, c8, c9] t (0, 0))) :
    w.cell? ⟨g, 0, none⟩ = some c0 ∧ w.cell? ⟨g, 1, none⟩ = some c1 ∧ w.cell? ⟨g, 2, none⟩ = some c2 ∧ w.cell? ⟨g, 3, none⟩ = some c3 ∧ w.cell? ⟨g, 4, none⟩ = some c4 ∧ w.cell? ⟨g, 5, none⟩ = some c5 ∧ w.cell? ⟨g, 6, none⟩ = some c6 ∧ w.cell? ⟨g, 7, none⟩ = some c7 ∧ w.cell? ⟨g, 8, none⟩ = some c8 ∧ w.cell? ⟨g, 9, none⟩ = some c9 :=
  ⟨cell_of_row w g 0 _ t (0, 0) h, cell_of_row w g 1 _ t (0, 0) h, cell_of_row w g 2 _ t (0, 0) h, cell_of_row w g 3 _ t (0, 0) h, cell_of_row w g 4 _ t (0, 0) h, cell_of_row w g 5 _ t (0, 0) h, cell_of_row w g 6 _ t (0, 0) h, cell_of_row w g 7 _ t (0, 0) h, cell_of_row w g 8 _ t (0, 0) h, cell_of_row w g 9 _ t (0, 0) h⟩
theorem box34 {w : World} {g t : Nat} {c0 c1 c2 c3 c4 c5 c6 c7 c8 c9 c10 c11 c12 c13 c14 c15 c16 c17 c18 c19 c20 c21 c22 c23 c24 c25 c26 c27 c28 c29 c30 c31 c32 c33 : Value} (h : w.heap[g]? = some (.cells #[c0, c1, c2, c3, c4, c5, c6, c7, c8, c9, c10, c11, c12, c13, c14, c15, c16, c17, c18, c19, c20, c21, c22, c23, c24, c25, c26, c27, c28, c29, c30, c31, c32, c33] t (0, 0))) :
    w.cell? ⟨g, 0, none⟩ = some c0 ∧ w.cell? ⟨g, 1, none⟩ = some c1 ∧ w.cell? ⟨g, 2, none⟩ = some c2 ∧ w.cell? ⟨g, 3, none⟩ = some c3 ∧ w.cell? ⟨g, 4, none⟩ = some c4 ∧ w.cell? ⟨g, 5, none⟩ = some c5 ∧ w.cell? ⟨g, 6, none⟩ = some c6 ∧ w.cell? ⟨g, 7, none⟩ = some c7 ∧ w.cell? ⟨g, 8, none⟩ = some c8 ∧ w.cell? ⟨g, 9, none⟩ = some c9 ∧ w.cell? ⟨g, 10, none⟩ = some c10 ∧ w.cell? ⟨g, 11, none⟩ = some c11 ∧ w.cell? ⟨g, 12, none⟩ = some c12 ∧ w.cell? ⟨g, 13, none⟩ = some c13 ∧ w.cell? ⟨g, 14, none⟩ = some c14 ∧ w.cell? ⟨g, 15, none⟩ = some c15 ∧ w.cell? ⟨g, 16, none⟩ = some c16 ∧ w.cell? ⟨g, 17, none⟩ = some c17 ∧ w.cell? ⟨g, 18, none⟩ = some c18 ∧ w.cell? ⟨g, 19, none⟩ = some c19 ∧ w.cell? ⟨g, 20, none⟩ = some c20 ∧ w.cell? ⟨g, 21, none⟩ = some c21 ∧ w.cell? ⟨g, 22, none⟩ = some c22 ∧ w.cell? ⟨g, 23, none⟩ = some c23 ∧ w.cell? ⟨g, 24, none⟩ = some c24 ∧ w.cell? ⟨g, 25, none⟩ = some c25 ∧ w.cell? ⟨g, 26, none⟩ = some c26 ∧ w.cell? ⟨g, 27, none⟩ = some c27 ∧ w.cell? ⟨g, 28, none⟩ = some c28 ∧ w.cell? ⟨g, 29, none⟩ = some c29 ∧ w.cell? ⟨g, 30, none⟩ = some c30 ∧ w.cell? ⟨g, 31, none⟩ = some c31 ∧ w.cell? ⟨g, 32, none⟩ = some c32 ∧ w.cell? ⟨g, 33, none⟩ = some c33 :=
  ⟨cell_of_row w g 0 _ t (0, 0) h, cell_of_row w g 1 _ t (0, 0) h, cell_of_row w g 2 _ t (0, 0) h, cell_of_row w g 3 _ t (0, 0) h, cell_of_row w g 4 _ t (0, 0) h, cell_of_row w g 5 _ t (0, 0) h, cell_of_row w g 6 _ t (0, 0) h, cell_of_row w g 7 _ t (0, 0) h, cell_of_row w g 8 _ t (0, 0) h, cell_of_row w g 9 _ t (0, 0) h, cell_of_row w g 10 _ t (0, 0) h, cell_of_row w g 11 _ t (0, 0) h, cell_of_row w g 12 _ t (0, 0) h, cell_of_row w g 13 _ t (0, 0) h, cell_of_row w g 14 _ t (0, 0) h, cell_of_row w g 15 _ t (0, 0) h, cell_of_row w g 16 _ t (0, 0) h, cell_of_row w g 17 _ t (0, 0) h, cell_of_row w g 18 _ t (0, 0) h, cell_of_row w g 19 _ t (0, 0) h, cell_of_row w g 20 _ t (0, 0) h, cell_of_row w g 21 _ t (0, 0) h, cell_of_row w g 22 _ t (0, 0) h, cell_of_row w g 23 _ t (0, 0) h, cell_of_row w g 24 _ t (0, 0) h, cell_of_row w g 25 _ t (0, 0) h, cell_of_row w g 26 _ t (0, 0) h, cell_of_row w g 27 _ t (0, 0) h, cell_of_row w g 28 _ t (0, 0) h, cell_of_row w g 29 _ t (0, 0) h, cell_of_row w g 30 _ t (0, 0) h, cell_of_row w g 31 _ t (0, 0) h, cell_of_row w g 32 _ t (0, 0) h, cell_of_row w g 33 _ t (0, 0) h⟩
theorem box_free {w : World} {g t : Nat} {cs : Array Value} (h : w.heap[g]? = some (.cells cs t (0, 0))) (j : Nat) : w.frozen? ⟨g, j, none⟩ = false := frozen_of_row w g j cs t h
/-- The cells of a range, one by one. -/
theorem range_step {w : World} {b o : Nat} {s : StepD} (h : w.rangeAt b o s.cells) :
    w.cell? ⟨b, o, none⟩ = some (.string s.name) ∧ w.cell? ⟨b, o + 1, none⟩ = some (.int .i64 s.stub) ∧ w.cell? ⟨b, o + 2, none⟩ = some (.int .i64 s.retry) ∧ w.cell? ⟨b, o + 3, none⟩ = some (.int .i64 s.wait) ∧
    w.cell? ⟨b, o + 4, none⟩ = some (.bool s.undo) ∧ w.cell? ⟨b, o + 5, none⟩ = some (.bool s.pivot) :=
  ⟨h 0 _ rfl, h 1 _ rfl, h 2 _ rfl, h 3 _ rfl, h 4 _ rfl, h 5 _ rfl⟩
theorem range_op {w : World} {b p : Nat} {o : OpD} {s : Value} (h : w.rangeAt b p (o.cells s)) :
    w.cell? ⟨b, p, none⟩ = some (.int .i64 o.kind) ∧ w.cell? ⟨b, p + 1, none⟩ = some (.int .i64 o.client) ∧ w.cell? ⟨b, p + 2, none⟩ = some (.int .i64 o.request) ∧ w.cell? ⟨b, p + 3, none⟩ = some (.string o.name) ∧
    w.cell? ⟨b, p + 4, none⟩ = some s ∧ w.cell? ⟨b, p + 5, none⟩ = some (.int .i64 o.saga) ∧ w.cell? ⟨b, p + 6, none⟩ = some (.int .i64 o.step) ∧ w.cell? ⟨b, p + 7, none⟩ = some (.int .i64 o.try_) ∧
    w.cell? ⟨b, p + 8, none⟩ = some (.bool o.back) ∧ w.cell? ⟨b, p + 9, none⟩ = some (.bool o.good) :=
  ⟨h 0 _ rfl, h 1 _ rfl, h 2 _ rfl, h 3 _ rfl, h 4 _ rfl, h 5 _ rfl, h 6 _ rfl, h 7 _ rfl, h 8 _ rfl, h 9 _ rfl⟩
end Go.Proofs.YtdkiopajilakcaaGreat
/- A definition, as data: what may be in it, and what tokens say it. -/
namespace Go.Proofs.YtdkiopajilakcaaGreat
open Go.RowKit

def outB (n lo hi : Int) : Bool := decide (n < lo) || decide (hi < n)
/-- Is something of the step itself wrong? -/
def stepBad (s : StepD) : Bool := !nameF s.name.data.toList || (outB s.stub 1 4 || (outB s.retry 0 9 || outB s.wait 1 99))
def namedB (done : List StepD) (s : StepD) : Bool := done.any fun a => decide (a.name = s.name)
def pivotB (done : List StepD) : Bool := done.any fun a => a.pivot
/-- What is wrong with a step behind others; 0: nothing. -/
def stepErr (done : List StepD) (s : StepD) : Nat :=
  if stepBad s then 2 else if namedB done s || (pivotB done && s.pivot) then 9 else if s.undo == (pivotB done || s.pivot) then 10 else 0
/-- The first step that may not be, and why. -/
def firstBad : List StepD → List StepD → Nat × Nat
  | _, [] => (0, 0)
  | done, s :: r => if stepErr done s = 0 then firstBad (done ++ [s]) r else (done.length + 1, stepErr done s)
def checkF (name : ByteArray) (steps : List StepD) : Nat × Nat :=
  if !nameF name.data.toList || (decide (steps.length < 1) || decide (8 < steps.length)) then (0, 2) else firstBad [] steps

theorem firstBad_at {l : List StepD} {k : Nat} {s : StepD} (h : l[k]? = some s) : firstBad (l.take k) (l.drop k) = if stepErr (l.take k) s = 0 then firstBad (l.take (k + 1)) (l.drop (k + 1)) else (k + 1, stepErr (l.take k) s) := by
  obtain ⟨hk, rfl⟩ := List.getElem?_eq_some_iff.1 h
  rw [List.drop_eq_getElem_cons hk, firstBad, List.take_succ_eq_append_getElem hk, List.length_take, Nat.min_eq_left (Nat.le_of_lt hk)]
theorem firstBad_end {l : List StepD} : firstBad (l.take l.length) (l.drop l.length) = (0, 0) := by
  rw [List.drop_length]; rfl
theorem firstBad_le : ∀ (r done : List StepD), (firstBad done r).1 ≤ done.length + r.length
  | [], done => by simp [firstBad]
  | s :: r, done => by
    unfold firstBad
    split
    · have := firstBad_le r (done ++ [s])
      simp at this ⊢
      omega
    · simp

/-- What a reader has: the tokens that are left, and whether one was wrong. -/
structure Rd where
  l : List Tok
  bad : Bool
def isP (f : Tok → Bool) (r : Rd) : Bool := match r.bad, r.l with
  | false, t :: _ => f t
  | _, _ => false
def Rd.go (r : Rd) : Rd := ⟨r.l.tail, r.bad⟩
def mayP (f : Tok → Bool) (r : Rd) : Rd := if isP f r then r.go else r
def mustP (f : Tok → Bool) (r : Rd) : Rd := if isP f r then r.go else ⟨r.l, true⟩
def noTok : Tok := ⟨0, [], 0, 0⟩
def tokP (f : Tok → Bool) (r : Rd) : Tok := if isP f r then r.l.headD noTok else noTok
def justF (s : List UInt8) (t : Tok) : Bool := decide (t.s = s)
def someF (k : Nat) (t : Tok) : Bool := t.k == k

abbrev wSaga : List UInt8 := [115, 97, 103, 97]
abbrev wStep : List UInt8 := [115, 116, 101, 112]
abbrev wStub : List UInt8 := [115, 116, 117, 98]
abbrev wRetry : List UInt8 := [114, 101, 116, 114, 121]
abbrev wWait : List UInt8 := [119, 97, 105, 116]
abbrev wUndo : List UInt8 := [117, 110, 100, 111]
abbrev wPivot : List UInt8 := [112, 105, 118, 111, 116]

/-- A word that may follow, and the number behind it: else d. -/
def numP (s : List UInt8) (d : Nat) (r : Rd) : Nat := if isP (justF s) r then (tokP (someF 2) r.go).n else d
def numR (s : List UInt8) (r : Rd) : Rd := if isP (justF s) r then mustP (someF 2) r.go else r

/-- A reader behind the word of a step: how it goes on. -/
def s1 (r : Rd) : Rd := mustP (someF 1) r
def s2 (r : Rd) : Rd := mustP (justF wStub) (s1 r)
def s3 (r : Rd) : Rd := mustP (someF 2) (s2 r)
def s4 (r : Rd) : Rd := numR wRetry (s3 r)
def s5 (r : Rd) : Rd := numR wWait (s4 r)
def s6 (r : Rd) : Rd := mayP (justF wUndo) (s5 r)
def s7 (r : Rd) : Rd := mayP (justF wPivot) (s6 r)
def s8 (r : Rd) : Rd := mustP (justF [59]) (s7 r)
/-- The step that is read there, and the place of its name. -/
def stepP (r : Rd) : StepD := ⟨⟨(tokP (someF 1) r).s.toArray⟩, ((tokP (someF 2) (s2 r)).n : Int), (numP wRetry 0 (s3 r) : Int), (numP wWait 10 (s4 r) : Int), isP (justF wUndo) (s5 r), isP (justF wPivot) (s6 r)⟩
def placeP (r : Rd) : Nat := (tokP (someF 1) r).at_

theorem go_len (r : Rd) : r.go.l.length = r.l.length - 1 := by simp [Rd.go]
theorem may_len (f : Tok → Bool) (r : Rd) : (mayP f r).l.length ≤ r.l.length := by
  unfold mayP; split
  · rw [go_len]; omega
  · exact Nat.le_refl _
theorem must_len (f : Tok → Bool) (r : Rd) : (mustP f r).l.length ≤ r.l.length := by
  unfold mustP; split
  · rw [go_len]; omega
  · exact Nat.le_refl _
theorem num_len (s : List UInt8) (r : Rd) : (numR s r).l.length ≤ r.l.length := by
  unfold numR; split
  · have := must_len (someF 2) r.go
    rw [go_len] at this
    omega
  · exact Nat.le_refl _
theorem s8_len (r : Rd) : (s8 r).l.length ≤ r.l.length := by
  have h1 : (s1 r).l.length ≤ r.l.length := must_len (someF 1) r
  have h2 : (s2 r).l.length ≤ (s1 r).l.length := must_len (justF wStub) (s1 r)
  have h3 : (s3 r).l.length ≤ (s2 r).l.length := must_len (someF 2) (s2 r)
  have h4 : (s4 r).l.length ≤ (s3 r).l.length := num_len wRetry (s3 r)
  have h5 : (s5 r).l.length ≤ (s4 r).l.length := num_len wWait (s4 r)
  have h6 : (s6 r).l.length ≤ (s5 r).l.length := may_len (justF wUndo) (s5 r)
  have h7 : (s7 r).l.length ≤ (s6 r).l.length := may_len (justF wPivot) (s6 r)
  have h8 : (s8 r).l.length ≤ (s7 r).l.length := must_len (justF [59]) (s7 r)
  omega
theorem isP_len {f : Tok → Bool} {r : Rd} (h : isP f r = true) : 0 < r.l.length := by
  unfold isP at h
  obtain ⟨l, b⟩ := r
  cases b with
  | true => simp at h
  | false =>
    cases l with
    | nil => simp at h
    | cons t l => simp
/-- The steps that follow, with the places of their names. -/
def stepsP (r : Rd) : List (StepD × Nat) × Rd :=
  if _h : isP (justF wStep) r = true then ((stepP r.go, placeP r.go) :: (stepsP (s8 r.go)).1, (stepsP (s8 r.go)).2) else ([], r)
termination_by r.l.length
decreasing_by
  all_goals
    have h1 := isP_len (by assumption)
    have h2 := s8_len r.go
    have h3 := go_len r
    omega
theorem stepsP_yes {r : Rd} (h : isP (justF wStep) r = true) : stepsP r = ((stepP r.go, placeP r.go) :: (stepsP (s8 r.go)).1, (stepsP (s8 r.go)).2) := by rw [stepsP, dif_pos h]
theorem stepsP_no {r : Rd} (h : isP (justF wStep) r = false) : stepsP r = ([], r) := by rw [stepsP, dif_neg (by simp [h])]

/-- A reader over the tokens of a definition. -/
def d1 (ts : List Tok) : Rd := mustP (justF wSaga) ⟨ts, false⟩
def d2 (ts : List Tok) : Rd := mustP (someF 1) (d1 ts)
def d3 (ts : List Tok) : Rd := mustP (justF [123]) (d2 ts)
def d4 (ts : List Tok) : Rd := (stepsP (d3 ts)).2
def d5 (ts : List Tok) : Rd := mustP (justF [125]) (d4 ts)
def d6 (ts : List Tok) : Rd := ⟨(d5 ts).l, (d5 ts).bad || !(d5 ts).l.isEmpty⟩
def dName (ts : List Tok) : ByteArray := ⟨(tokP (someF 1) (d1 ts)).s.toArray⟩
def dSteps (ts : List Tok) : List StepD := (stepsP (d3 ts)).1.map (·.1)
def dPlaces (ts : List Tok) : List Nat := (tokP (someF 1) (d1 ts)).at_ :: (stepsP (d3 ts)).1.map (·.2)
/-- What Parse answers: the name, the steps, the place, the error. -/
def parseF (L : List UInt8) : ByteArray × List StepD × Nat × Nat :=
  if (answer L).2.2 ≠ 0 then (⟨#[]⟩, [], (answer L).2.1, (answer L).2.2)
  else if (d6 (answer L).1).bad then (⟨#[]⟩, [], ((d6 (answer L).1).l.head?.map (·.at_)).getD L.length, 11)
  else if (checkF (dName (answer L).1) (dSteps (answer L).1)).2 ≠ 0 then (⟨#[]⟩, [], (dPlaces (answer L).1).getD (checkF (dName (answer L).1) (dSteps (answer L).1)).1 0, (checkF (dName (answer L).1) (dSteps (answer L).1)).2)
  else (dName (answer L).1, dSteps (answer L).1, 0, 0)

theorem stepsP_len : ∀ (n : Nat) (r : Rd), r.l.length ≤ n → (stepsP r).1.length ≤ n := by
  intro n
  induction n with
  | zero =>
    intro r hr
    cases h : isP (justF wStep) r with
    | false => rw [stepsP_no h]; simp
    | true => have := isP_len h; omega
  | succ n ih =>
    intro r hr
    cases h : isP (justF wStep) r with
    | false => rw [stepsP_no h]; simp
    | true =>
      rw [stepsP_yes h]
      have h1 := isP_len (by assumption)
      have h2 := s8_len r.go
      have h3 := go_len r
      have := ih (s8 r.go) (by omega)
      simp
      omega
theorem checkF_le (name : ByteArray) (steps : List StepD) : (checkF name steps).1 ≤ steps.length := by
  unfold checkF
  split
  · simp
  · have := firstBad_le steps []
    simpa using this
end Go.Proofs.YtdkiopajilakcaaGreat
/- What a definition means, as data: its pivot, tries, the way down, and sums. -/
namespace Go.Proofs.YtdkiopajilakcaaGreat
open Go.RowKit

/-- The number of the first step that is the pivot; 0: none. -/
def pivotN (l : List StepD) : Nat := if l.findIdx (fun s => s.pivot) < l.length then l.findIdx (fun s => s.pivot) + 1 else 0
def triesF (s : StepD) : Int := if outB s.retry 0 9 then 0 else s.retry + 1
def triesN (l : List StepD) (k : Int) : Int := if k < 1 ∨ (l.length : Int) < k then 0 else ((l[(k - 1).toNat]?).map triesF).getD 0
/-- Is step k hit? -/
def hitB (hs : List Bool) (k : Int) : Bool := decide (0 < k) && (decide (k ≤ (hs.length : Int)) && (hs[(k - 1).toNat]?).getD false)
/-- Of step k + 1: is it hit, and has it a way back? -/
def okAt (l : List StepD) (hs : List Bool) (k : Nat) : Bool := ((l[k]?).map (fun s => s.undo)).getD false && (hs[k]?).getD false
/-- The greatest of the first k steps that is hit and has a way back. -/
def downN (l : List StepD) (hs : List Bool) : Nat → Nat
  | 0 => 0
  | k + 1 => if okAt l hs k then k + 1 else downN l hs k
def downF (l : List StepD) (hs : List Bool) (n : Int) : Nat := downN l hs (min n (l.length : Int)).toNat
def sealedF (l : List StepD) (hs : List Bool) : Bool := hitB hs (pivotN l : Int)
def ticksF (s : StepD) : Int := triesF s * s.wait
def sumL (f : StepD → Int) : List StepD → Int
  | [] => 0
  | s :: r => (if s.undo then f s * 2 else f s) + sumL f r
def sumF (f : StepD → Int) (name : ByteArray) (l : List StepD) : Int := if (checkF name l).2 = 0 then sumL f l else 0

theorem find_at {f : StepD → Bool} {l : List StepD} {q : Nat} {s : StepD} (h : (l.take q).any f = false) (hs : l[q]? = some s) (hf : f s = true) : l.findIdx f = q := by
  obtain ⟨hq, rfl⟩ := List.getElem?_eq_some_iff.1 hs
  rw [List.findIdx_eq hq]
  refine ⟨hf, fun j hj => ?_⟩
  rw [List.any_eq_false] at h
  have := h l[j] (List.mem_iff_getElem.2 ⟨j, by simp; omega, by simp⟩)
  simpa using this
theorem find_none {f : StepD → Bool} {l : List StepD} (h : l.any f = false) : l.findIdx f = l.length := by
  rw [List.findIdx_eq_length]
  rw [List.any_eq_false] at h
  intro x hx
  simpa using h x hx
theorem pivot_at {l : List StepD} {q : Nat} {s : StepD} (h : (l.take q).any (fun s => s.pivot) = false) (hs : l[q]? = some s) (hf : s.pivot = true) : pivotN l = q + 1 := by
  unfold pivotN
  rw [find_at h hs hf, if_pos (List.getElem?_eq_some_iff.1 hs).1]
theorem pivot_none {l : List StepD} (h : l.any (fun s => s.pivot) = false) : pivotN l = 0 := by
  unfold pivotN
  rw [find_none h, if_neg (by omega)]
theorem pivotN_le (l : List StepD) : pivotN l ≤ l.length := by unfold pivotN; split <;> omega
theorem downN_le (l : List StepD) (hs : List Bool) : ∀ k, downN l hs k ≤ k
  | 0 => Nat.le_refl _
  | k + 1 => by
    unfold downN
    split
    · omega
    · have := downN_le l hs k; omega
theorem downF_le (l : List StepD) (hs : List Bool) (n : Int) : downF l hs n ≤ l.length := by
  unfold downF
  have := downN_le l hs (min n (l.length : Int)).toNat
  omega
theorem okAt_hit {l : List StepD} {hs : List Bool} {k : Nat} {s : StepD} (h : l[k]? = some s) : okAt l hs k = (s.undo && hitB hs ((k : Int) + 1)) := by
  unfold okAt hitB
  have e1 : ((k : Int) + 1 - 1).toNat = k := by omega
  rw [h, e1, decide_eq_true (show (0 : Int) < (k : Int) + 1 by omega), Bool.true_and]
  simp only [Option.map_some, Option.getD_some]
  by_cases hk : (k : Int) + 1 ≤ (hs.length : Int)
  · rw [decide_eq_true hk, Bool.true_and]
  · rw [decide_eq_false hk, List.getElem?_eq_none (by omega)]
    simp

/-- Each step of a definition that may be may be. -/
theorem firstBad_good : ∀ (l done : List StepD), (firstBad done l).2 = 0 → ∀ s ∈ l, stepBad s = false
  | [], _, _, _, h => by cases h
  | x :: r, done, h, s, hs => by
    unfold firstBad at h
    split at h
    · rename_i h0
      rcases List.mem_cons.1 hs with rfl | hs
      · cases hb : stepBad s with
        | false => rfl
        | true => unfold stepErr at h0; rw [if_pos hb] at h0; cases h0
      · exact firstBad_good r _ h s hs
    · exact absurd h ‹_›
theorem check_good {name : ByteArray} {l : List StepD} (h : (checkF name l).2 = 0) : l.length ≤ 8 ∧ 1 ≤ l.length ∧ nameF name.data.toList = true ∧ ∀ s ∈ l, stepBad s = false := by
  unfold checkF at h
  split at h
  · cases h
  · rename_i hb
    have h1 : nameF name.data.toList = true := by cases hq : nameF name.data.toList <;> simp_all
    have h2 : ¬ l.length < 1 := fun hl => hb (by rw [h1, decide_eq_true hl]; rfl)
    have h3 : ¬ 8 < l.length := fun hl => hb (by rw [h1, decide_eq_true hl]; simp)
    exact ⟨by omega, by omega, h1, firstBad_good l [] h⟩
theorem good_nums {s : StepD} (h : stepBad s = false) : 0 ≤ s.retry ∧ s.retry ≤ 9 ∧ 1 ≤ s.wait ∧ s.wait ≤ 99 := by
  unfold stepBad outB at h
  simp at h
  omega
theorem tries_good {s : StepD} (h : stepBad s = false) : triesF s = s.retry + 1 := by
  have := good_nums h
  unfold triesF outB
  rw [if_neg (by simp; omega)]
theorem tries_range {s : StepD} (h : stepBad s = false) : 0 ≤ triesF s ∧ triesF s ≤ 1000 := by
  have := good_nums h
  rw [tries_good h]
  omega
theorem ticks_range {s : StepD} (h : stepBad s = false) : 0 ≤ ticksF s ∧ ticksF s ≤ 1000 := by
  have h1 := good_nums h
  unfold ticksF
  rw [tries_good h]
  constructor
  · exact Int.mul_nonneg (by omega) (by omega)
  · exact Int.le_trans (Int.mul_le_mul (show s.retry + 1 ≤ 10 by omega) (show s.wait ≤ 99 by omega) (by omega) (by omega)) (by decide)
theorem sumL_app (f : StepD → Int) : ∀ (l : List StepD) (s : StepD), sumL f (l ++ [s]) = sumL f l + (if s.undo then f s * 2 else f s)
  | [], s => by simp [sumL]
  | x :: r, s => by rw [List.cons_append, sumL, sumL, sumL_app f r s]; omega
theorem sumL_range {f : StepD → Int} : ∀ {l : List StepD}, (∀ s ∈ l, 0 ≤ f s ∧ f s ≤ 1000) → 0 ≤ sumL f l ∧ sumL f l ≤ 2000 * l.length
  | [], _ => by simp [sumL]
  | x :: r, h => by
    have ih := sumL_range (l := r) fun s hs => h s (List.mem_cons_of_mem _ hs)
    have hx := h x (List.mem_cons_self ..)
    unfold sumL
    rw [List.length_cons]
    split <;> omega
theorem sumF_range {f : StepD → Int} (hf : ∀ s, stepBad s = false → 0 ≤ f s ∧ f s ≤ 1000) (name : ByteArray) (l : List StepD) : 0 ≤ sumF f name l ∧ sumF f name l ≤ 16000 := by
  unfold sumF
  split
  · rename_i h
    obtain ⟨h1, _, _, h3⟩ := check_good h
    have := sumL_range (f := f) (l := l) fun s hs => hf s (h3 s hs)
    omega
  · omega
end Go.Proofs.YtdkiopajilakcaaGreat
/- A saga, as data: what its calls make of it. -/
namespace Go.Proofs.YtdkiopajilakcaaGreat
open Go.RowKit

/-- Of each of eight steps, whether it is hit. -/
structure Hits where
  a0 : Bool
  a1 : Bool
  a2 : Bool
  a3 : Bool
  a4 : Bool
  a5 : Bool
  a6 : Bool
  a7 : Bool
  deriving DecidableEq
def Hits.l (x : Hits) : List Bool := [x.a0, x.a1, x.a2, x.a3, x.a4, x.a5, x.a6, x.a7]
def Hits.cells (x : Hits) : List Value := [.bool x.a0, .bool x.a1, .bool x.a2, .bool x.a3, .bool x.a4, .bool x.a5, .bool x.a6, .bool x.a7]
abbrev Hits.val (x : Hits) : Value := .agg x.cells.toArray
def Hits.set (x : Hits) (k : Nat) (b : Bool) : Hits := match k with
  | 0 => { x with a0 := b }
  | 1 => { x with a1 := b }
  | 2 => { x with a2 := b }
  | 3 => { x with a3 := b }
  | 4 => { x with a4 := b }
  | 5 => { x with a5 := b }
  | 6 => { x with a6 := b }
  | 7 => { x with a7 := b }
  | _ => x
/-- What is hit, if all steps up to that one are. -/
def upH (k : Int) : Hits := ⟨decide (0 < k), decide (1 < k), decide (2 < k), decide (3 < k), decide (4 < k), decide (5 < k), decide (6 < k), decide (7 < k)⟩

structure SagaD where
  name : ByteArray
  p : Option Addr
  n : Nat
  c : Nat
  st : Int
  step : Int
  tr : Int
  hit : Hits
def SagaD.cells (s : SagaD) : List Value := [.string s.name, .slice s.p s.n s.c, .int .i64 s.st, .int .i64 s.step, .int .i64 s.tr, .bool s.hit.a0, .bool s.hit.a1, .bool s.hit.a2, .bool s.hit.a3, .bool s.hit.a4, .bool s.hit.a5, .bool s.hit.a6, .bool s.hit.a7]
abbrev SagaD.v (s : SagaD) : Value := .slice s.p s.n s.c
abbrev SagaD.val (s : SagaD) : Value := .agg s.cells.toArray
def SagaD.zero : SagaD := ⟨⟨#[]⟩, none, 0, 0, 0, 0, 0, upH 0⟩
def SagaD.at_ (s : SagaD) (st step : Int) : SagaD := ⟨s.name, s.p, s.n, s.c, st, step, 1, s.hit⟩
def SagaD.ended (s : SagaD) (st step : Int) : SagaD := ⟨s.name, s.p, s.n, s.c, st, step, 0, s.hit⟩
def SagaD.hitN (s : SagaD) (b : Bool) : SagaD := ⟨s.name, s.p, s.n, s.c, s.st, s.step, s.tr, s.hit.set (s.step - 1).toNat b⟩
def SagaD.withV (s : SagaD) (p : Option Addr) (n c : Nat) : SagaD := ⟨s.name, p, n, c, s.st, s.step, s.tr, s.hit⟩
def cameF (s : SagaD) : Bool := decide (s.hit = upH (s.step - 1)) || decide (s.hit = upH s.step)
def undoAt (l : List StepD) (k : Int) : Bool := ((l[(k - 1).toNat]?).map (fun s => s.undo)).getD false
/-- May there be such a saga? -/
def goodF (l : List StepD) (s : SagaD) : Bool :=
  if (checkF s.name l).2 ≠ 0 then false
  else if s.st = 1 then decide (1 ≤ s.tr) && (decide (s.tr ≤ triesN l s.step) && cameF s)
  else if s.st = 2 then decide (1 ≤ s.tr) && (decide (s.tr ≤ triesN l s.step) && (decide (s.hit = upH s.step) && undoAt l s.step))
  else if s.st = 5 then decide (s.tr = 0) && (decide (0 < triesN l s.step) && cameF s)
  else if s.st = 3 then decide (s.tr = 0) && (decide (s.step = 0) && decide (s.hit = upH l.length))
  else if s.st = 4 then decide (s.tr = 0) && (decide (s.step = 0) && decide (s.hit = upH 0))
  else false
def sealedS (l : List StepD) (s : SagaD) : Bool := sealedF l s.hit.l
def downS (l : List StepD) (s : SagaD) : SagaD := if downF l s.hit.l s.step = 0 then s.ended 4 0 else s.at_ 2 (downF l s.hit.l s.step : Int)
def failsS (l : List StepD) (s : SagaD) : SagaD := if sealedS l s then s.ended 5 s.step else downS l s
def missedS (l : List StepD) (s : SagaD) : SagaD :=
  if s.tr < triesN l s.step then ⟨s.name, s.p, s.n, s.c, s.st, s.step, s.tr + 1, s.hit⟩
  else if s.st = 2 then s.ended 5 s.step else failsS l s
def nextS (l : List StepD) (s : SagaD) : SagaD := if s.step = (l.length : Int) then s.ended 3 0 else s.at_ 1 (s.step + 1)
/-- What is to be done next. -/
structure CmdD where
  stub : Int
  step : Int
  tr : Int
  back : Bool
def CmdD.cells (c : CmdD) : List Value := [.int .i64 0, .int .i64 c.stub, .int .i64 0, .int .i64 c.step, .int .i64 c.tr, .bool c.back]
abbrev CmdD.val (c : CmdD) : Value := .agg c.cells.toArray
def wantsB (l : List StepD) (s : SagaD) : Bool := goodF l s && (decide (s.st = 1) || decide (s.st = 2))
def stepAt (l : List StepD) (k : Int) : StepD := (l[(k - 1).toNat]?).getD ⟨⟨#[]⟩, 0, 0, 0, false, false⟩
def wantsC (l : List StepD) (s : SagaD) : CmdD := if wantsB l s then ⟨(stepAt l s.step).stub, s.step, s.tr, decide (s.st = 2)⟩ else ⟨0, 0, 0, false⟩
def wantsW (l : List StepD) (s : SagaD) : Int := if wantsB l s then (stepAt l s.step).wait else 0
/-- Does a saga want just that? -/
def isIt (l : List StepD) (s : SagaD) (step tr : Int) (back : Bool) : Bool := wantsB l s && (decide (s.step = step) && (decide (s.tr = tr) && (decide (s.st = 2) == back)))
def reportE (l : List StepD) (s : SagaD) (back good : Bool) : SagaD := if good then (if back then downS l (s.hitN false) else nextS l (s.hitN true)) else missedS l s
def lapseE (l : List StepD) (s : SagaD) : SagaD := missedS l (s.hitN true)
def reportF (l : List StepD) (s : SagaD) (step tr : Int) (back good : Bool) : SagaD := if isIt l s step tr back then reportE l s back good else s
def lapseF (l : List StepD) (s : SagaD) (step tr : Int) (back : Bool) : SagaD := if isIt l s step tr back then lapseE l s else s
def lateB (l : List StepD) (s : SagaD) : Bool := decide (s.st ≠ 1) || (sealedS l s || decide (s.step = (pivotN l : Int)))
def cancelF (l : List StepD) (s : SagaD) : SagaD × Int :=
  if goodF l s then (if s.st = 2 then (s, 0) else if lateB l s then (SagaD.zero, 10) else (failsS l (s.hitN true), 0)) else (s, 2)
end Go.Proofs.YtdkiopajilakcaaGreat
/- A map keyed by integers, whatever its elements: what it holds, as the list of its keys, rising, with the values as they stand. -/
namespace Go.Proofs.YtdkiopajilakcaaGreat
open Go.RowKit

/-- An element reads as the value that it is. -/
def heldR (v : Value) : Option (DataW Value × List MemPlace) := some (.held v, [])
/-- The datum of a map of these keys and values. -/
def mapD (L : List (Int × Value)) : DataW Value := .map (L.map fun p => (.int .i64 p.1, .held p.2))

theorem has_mapD (L : List (Int × Value)) (a : Int) : Maps.has (mapD L) (.int .i64 a) = L.any (fun p => p.1 == a) := by
  unfold mapD
  rw [Maps.has_eq, List.any_map]
  congr 1
  funext p
  simp [Lit.sameKey, Function.comp]
  rfl
theorem size_mapD (L : List (Int × Value)) : Maps.size (mapD L) = L.length := by simp [mapD, Maps.size]
theorem find_mapD (L : List (Int × Value)) (a : Int) : (L.map fun p : Int × Value => ((.int .i64 p.1, .held p.2) : Lit × DataW Value)).find? (fun p => p.1.sameKey (.int .i64 a)) = (L.find? (fun p => p.1 == a)).map fun p => (.int .i64 p.1, .held p.2) := by
  rw [List.find?_map]
  congr 2
  funext p
  simp [Lit.sameKey, Function.comp]
  rfl
theorem at_mapD (L : List (Int × Value)) (a : Int) (z : DataW Value) : (mapD L).atKey (.int .i64 a) z = match L.find? (fun p => p.1 == a) with | some p => .held p.2 | none => z := by
  unfold mapD DataW.atKey
  simp only [find_mapD]
  cases L.find? (fun p => p.1 == a) <;> rfl
theorem insert_last (x : Lit × DataW Value) : ∀ l : List (Lit × DataW Value), (∀ p ∈ l, x.1.before p.1 = false) → DataW.insert x l = l ++ [x]
  | [], _ => rfl
  | y :: r, h => by
    unfold DataW.insert
    rw [if_neg (by rw [h y (by simp)]; simp), insert_last x r (fun p hp => h p (by simp [hp]))]
    rfl
theorem put_mapD (L : List (Int × Value)) (a : Int) (v : Value) (h : ∀ p ∈ L, p.1 < a) : (mapD L).put (.int .i64 a) (.held v) = mapD (L ++ [(a, v)]) := by
  unfold mapD
  show DataW.map (DataW.insert _ _) = _
  have e : (L.map fun p : Int × Value => ((.int .i64 p.1, .held p.2) : Lit × DataW Value)).filter (fun p => !p.1.sameKey (.int .i64 a)) = L.map fun p => (.int .i64 p.1, .held p.2) := by
    rw [List.filter_eq_self]
    intro p hp
    obtain ⟨q, hq, rfl⟩ := List.mem_map.1 hp
    have := h q hq
    simp [Lit.sameKey]
    omega
  rw [e, insert_last]
  · simp
  · intro p hp
    obtain ⟨q, hq, rfl⟩ := List.mem_map.1 hp
    have := h q hq
    simp [Lit.before]
    omega
theorem del_mapD (L : List (Int × Value)) (a : Int) : (mapD L).del (.int .i64 a) = mapD (L.filter fun p => !(p.1 == a)) := by
  unfold mapD
  show DataW.map _ = _
  rw [List.filter_map]
  congr 2
  congr 1
  funext p
  simp [Lit.sameKey, Function.comp]
  rfl

section
variable {P : Program} {w : World} {ops : Array Oper} {rest : List Oper} {o : Oper} {a : Act} {Q : Exit → Act → World → Prop}
/-- What a look-up finds: the value at that key, or the zero value. -/
def foundIn (L : List (Int × Value)) (z : Value) (key : Int) : Value × Bool := match L.find? (fun p => p.1 == key) with | some p => (p.2, true) | none => (z, false)
theorem look_held (c : Bool) {k e t : TypeId} (K : Maps.Keyed P k) (ht : P.underlying t = some (.map k e)) {z : Value} (hz : (zeroValue e).run P w = .ok z w) {b n : Nat} {L : List (Int × Value)} (hown : w.ownsMap P k heldR b n (mapD L)) {key : Int}
    (hkey : keyOf P k (Value.int .i64 key) = some (Lit.int .i64 key)) :
    (Instr.lookup t (.map (some b)) (.int .i64 key) c).run P w = .ok (if c then .tuple #[(foundIn L z key).1, .bool (foundIn L z key).2] else (foundIn L z key).1) w := by
  have hh := has_mapD L key
  have hat := at_mapD L key (.held z)
  have hf : (L.any fun p => p.1 == key) = (L.find? (fun p => p.1 == key)).isSome := by
    rw [Bool.eq_iff_iff, List.find?_isSome]
    simp [List.any_eq_true]
  cases c with
  | true =>
    obtain ⟨v, ps, hr, hv⟩ := hown.look_ok K ht hz (zd := .held z) (zp := []) rfl hkey
    rw [hat] at hv
    rw [hr, hh, hf]
    unfold foundIn
    cases h : L.find? (fun p => p.1 == key) with
    | some p => rw [h] at hv; simp only [heldR, Option.some.injEq, Prod.mk.injEq, DataW.held.injEq] at hv; simp [hv.1]
    | none => rw [h] at hv; simp only [heldR, Option.some.injEq, Prod.mk.injEq, DataW.held.injEq] at hv; simp [hv.1]
  | false =>
    obtain ⟨v, ps, hr, hv⟩ := hown.lookup K ht hz (zd := .held z) (zp := []) rfl hkey
    rw [hat] at hv
    rw [hr]
    unfold foundIn
    cases h : L.find? (fun p => p.1 == key) with
    | some p => rw [h] at hv; simp only [heldR, Option.some.injEq, Prod.mk.injEq, DataW.held.injEq] at hv; simp [hv.1]
    | none => rw [h] at hv; simp only [heldR, Option.some.injEq, Prod.mk.injEq, DataW.held.injEq] at hv; simp [hv.1]
/-- 'v, ok := m[k]', at the operation. -/
theorem wpList_lookup_held (hg : o.guard = none) (m x : Operand) (t : TypeId) (hop : o.op = Op.lookup t m x true)
    (k e : TypeId) (K : Maps.Keyed P k) (ht : P.underlying t = some (.map k e)) (z : Value) (hz : (zeroValue e).run P w = .ok z w) (b n : Nat) (L : List (Int × Value))
    (hm : a.eval m = .map (some b)) (hown : w.ownsMap P k heldR b n (mapD L)) (key : Int) (hx : a.eval x = .int .i64 key) (hkey : keyOf P k (Value.int .i64 key) = some (Lit.int .i64 key))
    (v : Value) (ok : Bool) (hres : foundIn L z key = (v, ok)) (hK : wpList P ops Q rest (a.put o.dst (.tuple #[v, .bool ok])) w) : wpList P ops Q (o :: rest) a w := by
  refine wpList_plain hg fun K' hK' => ?_
  have hr := look_held true K ht hz hown hkey
  rw [hres] at hr
  unfold Oper.wp
  simp [execOp, hop, hm, hx, hr, Result.andThen]
  exact hK' _ _ hK
/-- 'm[k] = v' at a key above all others, at an operation of a region that draws its order. -/
theorem wp_mapUpdate_held {K : Act → World → Prop} (m x v : Operand) (t : TypeId) (hop : o.op = Op.mapUpdate t m x v) (k e : TypeId) (Kd : Maps.Keyed P k) (ht : P.underlying t = some (.map k e)) (b n : Nat) (L : List (Int × Value))
    (hm : a.eval m = .map (some b)) (hown : w.ownsMap P k heldR b n (mapD L)) (hn : n < maxLen) (key : Int) (val : Value) (hx : a.eval x = .int .i64 key) (hv : a.eval v = val) (hkey : keyOf P k (Value.int .i64 key) = some (Lit.int .i64 key))
    (hL : ∀ p ∈ L, p.1 < key) (hK : ∀ w', w'.ownsMap P k heldR b (n + 1) (mapD (L ++ [(key, val)])) → w.mapTurned w' b → K (a.put o.dst undef) w') : Oper.wp P o a w K Q := by
  obtain ⟨w', hrun, r1, r2⟩ := hown.store Kd ht hn hkey (val := val) (d := .held val) (ps := []) rfl
  rw [put_mapD L key val hL] at r1
  unfold Oper.wp
  simp [execOp, hop, hm, hx, hv, hrun, Result.andThen]
  exact hK w' r1 r2
end
end Go.Proofs.YtdkiopajilakcaaGreat
/- A book, as data: its sagas by numbers, and what each operation tells and leaves. -/
namespace Go.Proofs.YtdkiopajilakcaaGreat
open Go.RowKit

/-- A saga with its number. -/
structure Ent where
  id : Int
  s : SagaD
  l : List StepD
def Ent.isOpen (x : Ent) : Bool := decide (x.s.st = 1) || decide (x.s.st = 2)
def entAt (L : List Ent) (id : Int) : Option Ent := L.find? (fun x => x.id == id)
/-- A saga is another one, or one more; by numbers. -/
def putE (x : Ent) : List Ent → List Ent
  | [] => [x]
  | y :: r => if y.id < x.id then y :: putE x r else if y.id = x.id then x :: r else x :: y :: r
def dropE (L : List Ent) (id : Int) : List Ent := L.filter fun x => !(x.id == id)
def openN (L : List Ent) : Nat := L.countP Ent.isOpen
def RiseE (L : List Ent) : Prop := L.Pairwise (fun x y => x.id < y.id)
def lows (L : List Ent) (id : Int) : List Ent := L.filter fun x => decide (x.id < id)

theorem entAt_mem {L : List Ent} {id : Int} {x : Ent} (h : entAt L id = some x) : x ∈ L ∧ x.id = id := by
  unfold entAt at h
  exact ⟨List.mem_of_find?_eq_some h, by simpa using List.find?_some h⟩
theorem entAt_none {L : List Ent} {id : Int} (h : entAt L id = none) : ∀ x ∈ L, x.id ≠ id := by
  unfold entAt at h
  intro x hx he
  have := List.find?_eq_none.1 h x hx
  simp [he] at this
theorem mem_putE {x y : Ent} : ∀ {L : List Ent}, y ∈ putE x L → y = x ∨ y ∈ L
  | [], h => .inl (by simpa [putE] using h)
  | z :: r, h => by
    unfold putE at h
    split at h
    · rcases List.mem_cons.1 h with rfl | h
      · exact .inr (by simp)
      · rcases mem_putE h with h | h
        · exact .inl h
        · exact .inr (by simp [h])
    · split at h
      · rcases List.mem_cons.1 h with rfl | h
        · exact .inl rfl
        · exact .inr (by simp [h])
      · rcases List.mem_cons.1 h with rfl | h
        · exact .inl rfl
        · exact .inr h
theorem putE_mem (x : Ent) : ∀ (L : List Ent), x ∈ putE x L
  | [] => by simp [putE]
  | z :: r => by
    unfold putE
    split
    · simp [putE_mem x r]
    · split <;> simp
theorem putE_rise (x : Ent) : ∀ {L : List Ent}, RiseE L → RiseE (putE x L)
  | [], _ => by simp [putE, RiseE]
  | z :: r, h => by
    obtain ⟨h1, h2⟩ := List.pairwise_cons.1 h
    unfold putE
    split
    · refine List.pairwise_cons.2 ⟨fun y hy => ?_, putE_rise x h2⟩
      rcases mem_putE hy with rfl | hy
      · assumption
      · exact h1 y hy
    · split
      · rename_i a b
        exact List.pairwise_cons.2 ⟨fun y hy => by have := h1 y hy; omega, h2⟩
      · rename_i a b
        refine List.pairwise_cons.2 ⟨fun y hy => ?_, h⟩
        rcases List.mem_cons.1 hy with rfl | hy
        · omega
        · have := h1 y hy; omega
theorem entAt_putE (x : Ent) : ∀ {L : List Ent}, RiseE L → entAt (putE x L) x.id = some x
  | [], _ => by simp [putE, entAt]
  | z :: r, h => by
    obtain ⟨h1, h2⟩ := List.pairwise_cons.1 h
    unfold putE
    split
    · rename_i a
      have := entAt_putE x h2
      unfold entAt at *
      rw [List.find?_cons_of_neg (by simp; omega)]
      exact this
    · split <;> simp [entAt]
theorem entAt_put_other (x : Ent) (id : Int) (hne : id ≠ x.id) : ∀ (L : List Ent), entAt (putE x L) id = entAt L id
  | [] => by simp [putE, entAt]; omega
  | z :: r => by
    have ih := entAt_put_other x id hne r
    unfold entAt at ih ⊢
    unfold putE
    split
    · simp only [List.find?_cons]
      split
      · rfl
      · exact ih
    · split
      · rename_i a b
        rw [List.find?_cons_of_neg (by simp; omega), List.find?_cons_of_neg (by simp; omega)]
      · rw [List.find?_cons_of_neg (by simp; omega)]
/-- Behind a greater number than all. -/
theorem putE_last (x : Ent) : ∀ {L : List Ent}, (∀ y ∈ L, y.id < x.id) → putE x L = L ++ [x]
  | [], _ => rfl
  | z :: r, h => by
    unfold putE
    rw [if_pos (h z (by simp)), putE_last x (fun y hy => h y (by simp [hy]))]
    rfl
theorem putE_len (x : Ent) : ∀ (L : List Ent), (putE x L).length ≤ L.length + 1
  | [] => by simp [putE]
  | z :: r => by
    have := putE_len x r
    unfold putE
    split
    · simp; omega
    · split <;> simp
/-- In place of another one: as many. -/
theorem putE_len_is (x : Ent) : ∀ {L : List Ent}, RiseE L → (∃ y ∈ L, y.id = x.id) → (putE x L).length = L.length
  | [], _, h => by obtain ⟨y, hy, _⟩ := h; cases hy
  | z :: r, hr, h => by
    obtain ⟨h1, h2⟩ := List.pairwise_cons.1 hr
    obtain ⟨y, hy, he⟩ := h
    unfold putE
    split
    · rename_i a
      rcases List.mem_cons.1 hy with rfl | hy
      · omega
      · have := putE_len_is x h2 ⟨y, hy, he⟩
        simp [this]
    · split
      · simp
      · rename_i a b
        rcases List.mem_cons.1 hy with rfl | hy
        · omega
        · have := h1 y hy
          omega
theorem dropE_sub {L : List Ent} {id : Int} : ∀ x ∈ dropE L id, x ∈ L := fun _ hx => (List.mem_filter.1 hx).1
theorem dropE_rise {L : List Ent} (id : Int) (h : RiseE L) : RiseE (dropE L id) := h.filter _

/-- The cells of a reply. -/
structure RepD where
  err : Int
  saga : Int
  st : Int
  step : Int
  deriving DecidableEq
def RepD.cells (r : RepD) : List Value := [.int .i64 r.err, .int .i64 r.saga, .int .i64 r.st, .int .i64 r.step]
abbrev RepD.val (r : RepD) : Value := .agg r.cells.toArray
def errR (e : Int) : RepD := ⟨e, 0, 0, 0⟩

/-- The last number that was used, and all sagas. -/
structure BkS where
  last : Int
  L : List Ent
def statusF (L : List Ent) (id : Int) : RepD := match entAt L id with | none => errR 8 | some x => ⟨0, id, x.s.st, x.s.step⟩
/-- The eldest saga that ended is forgotten, if there are as many as may be. -/
def roomF (L : List Ent) : List Ent := if L.length < 32 then L else match L.find? (fun x => !x.isOpen) with | none => L | some x => dropE L x.id
def newE (id : Int) (name : ByteArray) (l : List StepD) : Ent := ⟨id, ⟨name, none, 0, 0, 1, 1, 1, upH 0⟩, l⟩
def startS (most : Int) (t : BkS) (name : ByteArray) (l : List StepD) : BkS :=
  if (checkF name l).2 ≠ 0 then t else if most ≤ (openN t.L : Int) then t else ⟨t.last + 1, putE (newE (t.last + 1) name l) (roomF t.L)⟩
def startR (most : Int) (t : BkS) (name : ByteArray) (l : List StepD) : RepD :=
  if (checkF name l).2 ≠ 0 then errR ((checkF name l).2 : Nat) else if most ≤ (openN t.L : Int) then errR 7 else ⟨0, t.last + 1, 1, 1⟩
/-- Behind an event: ev says what a saga becomes, and the error. -/
def eventS (ev : List StepD → SagaD → SagaD × Int) (t : BkS) (id : Int) : BkS := match entAt t.L id with
  | none => t
  | some x => if (ev x.l x.s).2 ≠ 0 then t else ⟨t.last, putE ⟨id, (ev x.l x.s).1, x.l⟩ t.L⟩
def eventR (ev : List StepD → SagaD → SagaD × Int) (t : BkS) (id : Int) : RepD := match entAt t.L id with
  | none => errR 8
  | some x => if (ev x.l x.s).2 ≠ 0 then errR (ev x.l x.s).2 else ⟨0, id, (ev x.l x.s).1.st, (ev x.l x.s).1.step⟩
def reportV (step tr : Int) (back good : Bool) (l : List StepD) (s : SagaD) : SagaD × Int := if isIt l s step tr back then (reportE l s back good, 0) else (SagaD.zero, 10)
def lapseV (step tr : Int) (back : Bool) (l : List StepD) (s : SagaD) : SagaD × Int := if isIt l s step tr back then (lapseE l s, 0) else (SagaD.zero, 10)
/-- What an operation leaves. -/
def applyS (most : Int) (t : BkS) (o : OpD) : BkS :=
  if o.kind = 1 then startS most t o.name o.steps
  else if o.kind = 2 then eventS cancelF t o.saga
  else if o.kind = 4 then eventS (reportV o.step o.try_ o.back o.good) t o.saga
  else if o.kind = 5 then eventS (lapseV o.step o.try_ o.back) t o.saga
  else t
/-- What an operation tells. -/
def applyR (most : Int) (t : BkS) (o : OpD) : RepD :=
  if o.kind = 0 then errR 0
  else if o.kind = 1 then startR most t o.name o.steps
  else if o.kind = 2 then eventR cancelF t o.saga
  else if o.kind = 3 then statusF t.L o.saga
  else if o.kind = 4 then eventR (reportV o.step o.try_ o.back o.good) t o.saga
  else if o.kind = 5 then eventR (lapseV o.step o.try_ o.back) t o.saga
  else errR 2
/-- How many others go on. -/
def othersN (L : List Ent) (id : Int) : Nat := L.countP fun x => decide (x.id ≠ id) && x.isOpen
def setE (most : Int) (t : BkS) (x : Ent) : Int :=
  if x.id < 1 ∨ 1099511627776 < x.id ∨ goodF x.l x.s = false then 2
  else if ((entAt t.L x.id).isNone ∧ 32 ≤ t.L.length) ∨ (x.isOpen = true ∧ most ≤ (othersN t.L x.id : Int)) then 7 else 0
def setS (most : Int) (t : BkS) (x : Ent) : BkS := if setE most t x = 0 then ⟨max t.last x.id, putE x t.L⟩ else t
end Go.Proofs.YtdkiopajilakcaaGreat
/- Rows of the call's own, carried over; the cells that were there. -/
namespace Go.Proofs.YtdkiopajilakcaaGreat
open Go.RowKit

theorem bcell {W w1 : World} (hb : Below W.heap.size W w1) : (∀ b o, b < W.heap.size → w1.cell? ⟨b, o, none⟩ = W.cell? ⟨b, o, none⟩) ∧ (∀ b o, b < W.heap.size → w1.frozen? ⟨b, o, none⟩ = W.frozen? ⟨b, o, none⟩) :=
  ⟨fun b o h => hb.cell (p := ⟨b, o, none⟩) h, fun b o h => hb.frozen (p := ⟨b, o, none⟩) h⟩

/-- A row of the call's own is as it was where no block from its base on was written. -/
theorem own_same {w w' : World} {base e size n : Nat} {v : Value} {xs : List Value} (h : w.ownsRow base e size v n xs) (hk : ∀ g, base ≤ g → w'.heap[g]? = w.heap[g]?) : w'.ownsRow base e size v n xs := by
  refine ⟨h.1, ?_⟩
  rcases h.2 with hn | ⟨g, cap, cur, rfl, hb, hg, rest⟩
  · exact .inl hn
  · exact .inr ⟨g, cap, cur, rfl, hb, (hk g hb).trans hg, rest⟩
theorem own_holds {w : World} {base e n c : Nat} {A : Option Addr} {l : List Nat} (h : w.ownsRow base e 1 (.slice A n c) n (bvs l)) (hs : ∀ x ∈ l, x < 256) : n ≤ c ∧ Holds w w.heap.size A n l := by
  obtain ⟨A', c', h1, h2, _, h3⟩ := Holds.of_own h hs
  injection h1 with e1 e2 e3
  subst e1 e3
  exact ⟨h2, h3⟩

theorem own_base {w : World} {base base' e size n : Nat} {v : Value} {xs : List Value} (h : w.ownsRow base e size v n xs) (hb : base' ≤ base) : w.ownsRow base' e size v n xs := by
  refine ⟨h.1, ?_⟩
  rcases h.2 with hn | ⟨g, cap, cur, rfl, hg, rest⟩
  · exact .inl hn
  · exact .inr ⟨g, cap, cur, rfl, by omega, rest⟩

/-- A row of bytes of the call's own: where it lies, its cells, a cell that is written. -/
theorem own_at {w : World} {base e n : Nat} {v : Value} {l : List Nat} (h : w.ownsRow base e 1 v n (bvs l)) (hn : 0 < n) : ∃ g c, v = .slice (some ⟨g, 0, none⟩) n c ∧ base ≤ g ∧ g < w.heap.size ∧ n ≤ c ∧ c ≤ maxLen := by
  rcases h.2 with ⟨_, h0⟩ | ⟨g, cap, cur, hv, hb, hg, hnc, hm, _⟩
  · omega
  · refine ⟨g, cap, hv, hb, ?_, hnc, hm⟩
    rcases Nat.lt_or_ge g w.heap.size with hlt | hge
    · exact hlt
    · rw [Array.getElem?_eq_none hge] at hg
      cases hg
theorem own_cell {w : World} {base e g n c : Nat} {l : List Nat} (h : w.ownsRow base e 1 (.slice (some ⟨g, 0, none⟩) n c) n (bvs l)) {i : Nat} (hi : i < n) : w.cell? ⟨g, i, none⟩ = some (.int .u8 ((l.getD i 0 : Nat) : Int)) := by
  have hl : l.length = n := by have := h.1; rw [bvs_len] at this; omega
  have h1 := h.cellAt i (by omega)
  rw [h1, bvs_get (by omega)]
theorem own_set {w : World} {base e g n c : Nat} {l : List Nat} (h : w.ownsRow base e 1 (.slice (some ⟨g, 0, none⟩) n c) n (bvs l)) (i x : Nat) :
    (w.setCell ⟨g, i, none⟩ (.int .u8 (x : Int))).ownsRow base e 1 (.slice (some ⟨g, 0, none⟩) n c) n (bvs (l.set i x)) ∧ w.grownBy (w.setCell ⟨g, i, none⟩ (.int .u8 (x : Int))) (some g) := by
  have h1 := h.stored i (.int .u8 (x : Int))
  have e1 : bvs (l.set i x) = (bvs l).set i (.int .u8 (x : Int)) := by simp [bvs, bv, List.map_set]
  rw [e1]
  exact h1
end Go.Proofs.YtdkiopajilakcaaGreat
/- A region whose order is open, of calls that make memory beside operations that read what earlier calls made: what reads the same in all later worlds may come up at once. -/
namespace Go.Proofs.YtdkiopajilakcaaGreat
open Go.RowKit

/-- The later world: what was there has not turned. -/
def Later (w w' : World) : Prop := Below w.heap.size w w'
theorem Later.refl (w : World) : Later w w := Below.refl _ _
theorem Later.trans {a b c : World} (h : Later a b) (k : Later b c) : Later a c := Below.trans h (Below.mono k h.size)
theorem Later.drew (w : World) : Later w w.drew := (Below.refl _ _).drew

section
variable {P : Program} {ops : Array Oper} {Q : Exit → Act → World → Prop} {md : Region.Mode}

/-- Whatever order is picked from here on, and behind each operation the world is a later one. -/
def wpAnyL (P : Program) (md : Region.Mode) (ops : Array Oper) (Q : Exit → Act → World → Prop) : Nat → Array Bool → Act → World → Prop
  | 0, listed, a, w => Region.ready md ops listed = [] ∧ Q .normal a w
  | fuel + 1, listed, a, w =>
    (Region.ready md ops listed = [] → Q .normal a w) ∧
    ∀ i ∈ Region.ready md ops listed, wpOp P ops Q i (fun a' w' => Later w w' ∧ wpAnyL P md ops Q fuel (listed.setIfInBounds i true) a' w') a w

theorem wpAny_of_L : ∀ (fuel : Nat) (listed : Array Bool) (a : Act) (w : World), wpAnyL P md ops Q fuel listed a w → wpAny P md ops Q fuel listed a w
  | 0, _, _, _, h => h
  | fuel + 1, _, _, _, h => ⟨h.1, fun i hi => wpOp_mono (fun a' w' h' => wpAny_of_L fuel _ a' w' h'.2) (h.2 i hi)⟩

/-- What yields its value in all later worlds does so in those that are later than a later one. -/
theorem yields_later {o : Oper} {v : Value} {a : Act} {w w' : World} (h : YieldsIf P ops (Later w) o v a) (hl : Later w w') : YieldsIf P ops (Later w') o v a :=
  h.imp (fun ⟨hw, hv⟩ => ⟨hw, fun u hu => hv u (hl.trans hu)⟩) id

/-- Such an operation, if it may come up, may come up at once. -/
theorem wpAnyL_first {i : Nat} {oi : Oper} {v : Value} (hi : ops[i]? = some oi) (hsel : ∀ (j : Nat) (o : Oper) cs b, ops[j]? = some o → o.op ≠ .select cs b)
    (hQ : ∀ c a w, Q (.panic c) (a.put oi.dst v) w → Q (.panic c) a w) :
    ∀ (fuel : Nat) (listed : Array Bool) (a : Act) (w : World),
      (∀ j oj, ops[j]? = some oj → j ≠ i → listed.getD j true = false → (∀ e ∈ oj.after, Region.binds md e = true → e.on ≠ i) → oi.apart ops oj = true) →
      i ∈ Region.ready md ops listed → YieldsIf P ops (Later w) oi v a →
      wpAnyL P md ops Q fuel (listed.setIfInBounds i true) (a.put oi.dst v) w → wpAnyL P md ops Q (fuel + 1) listed a w := by
  intro fuel
  induction fuel with
  | zero =>
    intro listed a w _ hr hy H
    refine ⟨fun h => (by rw [h] at hr; cases hr), fun j hj => ?_⟩
    by_cases hji : j = i
    · subst hji
      exact hy.wpOp hi (Later.refl w) ⟨Later.refl w, H⟩
    · have := ready_mono hj hji
      rw [H.1] at this
      cases this
  | succ fuel ih =>
    intro listed a w hfree hr hy H
    refine ⟨fun h => (by rw [h] at hr; cases hr), fun j hj => ?_⟩
    by_cases hji : j = i
    · subst hji
      exact hy.wpOp hi (Later.refl w) ⟨Later.refl w, H⟩
    · have h1 := H.2 j (ready_mono hj hji)
      obtain ⟨hjun, oj, hoj, hall⟩ := mem_ready.1 hj
      have hnot : ∀ e ∈ oj.after, Region.binds md e = true → e.on ≠ i := fun e he hb heq => by
        have q1 := hall e he hb
        have q0 := (mem_ready.1 hr).1
        rw [heq] at q1
        rcases Nat.lt_or_ge i listed.size with h' | h'
        · simp [h'] at q0 q1
          rw [q0] at q1
          cases q1
        · simp [Array.getElem?_eq_none h'] at q1
      have h2 := wpOp_putIf hoj (hfree j oj hoj hji hjun hnot) (fun cs b => hsel i oi cs b hi) (fun cs b => hsel j oj cs b hoj) hQ hy h1
      have hfree' : ∀ k ok, ops[k]? = some ok → k ≠ i → (listed.setIfInBounds j true).getD k true = false →
          (∀ e ∈ ok.after, Region.binds md e = true → e.on ≠ i) → oi.apart ops ok = true := fun k ok hk hki hun hno => by
        refine hfree k ok hk hki ?_ hno
        by_cases hjk : j = k
        · subst hjk; exact hjun
        · rw [getD_set_ne true hjk] at hun; exact hun
      refine wpOp_mono (fun a' w' h3 => ⟨h3.2.1, ih (listed.setIfInBounds j true) a' w' hfree' (ready_mono hr (Ne.symm hji)) (yields_later h3.1 h3.2.1) ?_⟩) h2
      rw [Array.setIfInBounds_comm _ _ hji]
      exact h3.2.2

/-- The moves: an operation that may come up at once; the one that must; the end; the beginning. -/
theorem wpAnyL_take {i : Nat} {oi : Oper} {d : Option Tmp} {v : Value} {fuel : Nat} {listed : Array Bool} {a : Act} {w : World} (hi : ops[i]? = some oi) (hd : oi.dst = d)
    (hs : Region.noSelect ops = true) (hf : Region.free md ops listed i = true) (hr : (Region.ready md ops listed).contains i = true)
    (hQ : ∀ c a w, Q (.panic c) (a.put d v) w → Q (.panic c) a w) (hw : Region.wanted oi (yielded ops a.tmps) = true) (hy : ∀ w', Later w w' → (execOp a.eval oi).run P w' = .ok (.value v) w')
    (h : wpAnyL P md ops Q fuel (listed.setIfInBounds i true) (a.put d v) w) : wpAnyL P md ops Q (fuel + 1) listed a w := by
  subst hd
  exact wpAnyL_first hi (Region.noSelect_spec hs) hQ fuel listed a w (Region.free_spec hi hf) (by simpa using hr) (.inl ⟨hw, hy⟩) h

theorem wpAnyL_pass {i : Nat} {oi : Oper} {d : Option Tmp} {fuel : Nat} {listed : Array Bool} {a : Act} {w : World} (hi : ops[i]? = some oi) (hd : oi.dst = d)
    (hs : Region.noSelect ops = true) (hf : Region.free md ops listed i = true) (hr : (Region.ready md ops listed).contains i = true)
    (hQ : ∀ c a w, Q (.panic c) (a.put d undef) w → Q (.panic c) a w) (hw : Region.wanted oi (yielded ops a.tmps) = false)
    (h : wpAnyL P md ops Q fuel (listed.setIfInBounds i true) (a.put d undef) w) : wpAnyL P md ops Q (fuel + 1) listed a w := by
  subst hd
  exact wpAnyL_first hi (Region.noSelect_spec hs) hQ fuel listed a w (Region.free_spec hi hf) (by simpa using hr) (.inr ⟨hw, rfl⟩) h

theorem wpAnyL_only {i : Nat} {o : Oper} {fuel : Nat} {listed : Array Bool} {a : Act} {w : World} (ho : ops[i]? = some o) (hr : Region.ready md ops listed = [i]) (hw : Region.wanted o (yielded ops a.tmps) = true)
    (h : ∀ K' : Act → World → Prop, Hid (∀ a' w', Later w w' → wpAnyL P md ops Q fuel (listed.setIfInBounds i true) a' w' → K' a' w') → Oper.wp P o a w K' Q) : wpAnyL P md ops Q (fuel + 1) listed a w := by
  refine ⟨fun h0 => absurd (hr ▸ h0) (by simp), fun j hj => ?_⟩
  rw [hr] at hj
  obtain rfl : j = i := by simpa using hj
  refine wpOp_step ho fun K' hK => ?_
  rw [if_pos hw]
  exact h K' fun a' w' hl hn => hK a' w' ⟨hl, hn⟩

theorem wpAnyL_two {i j : Nat} {oi oj : Oper} {fuel : Nat} {listed : Array Bool} {a : Act} {w : World} (hoi : ops[i]? = some oi) (hoj : ops[j]? = some oj) (hr : Region.ready md ops listed = [i, j])
    (hwi : Region.wanted oi (yielded ops a.tmps) = true) (hwj : Region.wanted oj (yielded ops a.tmps) = true)
    (hi : ∀ K' : Act → World → Prop, Hid (∀ a' w', Later w w' → wpAnyL P md ops Q fuel (listed.setIfInBounds i true) a' w' → K' a' w') → Oper.wp P oi a w K' Q)
    (hj : ∀ K' : Act → World → Prop, Hid (∀ a' w', Later w w' → wpAnyL P md ops Q fuel (listed.setIfInBounds j true) a' w' → K' a' w') → Oper.wp P oj a w K' Q) : wpAnyL P md ops Q (fuel + 1) listed a w := by
  refine ⟨fun h0 => absurd (hr ▸ h0) (by simp), fun k hk => ?_⟩
  rw [hr] at hk
  rcases List.mem_cons.1 hk with rfl | hk
  · refine wpOp_step hoi fun K' hK => ?_
    rw [if_pos hwi]
    exact hi K' fun a' w' hl hn => hK a' w' ⟨hl, hn⟩
  · obtain rfl : k = j := by simpa using hk
    refine wpOp_step hoj fun K' hK => ?_
    rw [if_pos hwj]
    exact hj K' fun a' w' hl hn => hK a' w' ⟨hl, hn⟩

theorem wpAnyL_done {listed : Array Bool} {a : Act} {w : World} (hr : Region.ready md ops listed = []) (h : Q .normal a w) : ∀ fuel, wpAnyL P md ops Q fuel listed a w
  | 0 => ⟨hr, h⟩
  | _ + 1 => ⟨fun _ => h, by rw [hr]; simp⟩

theorem wp_region_L {id : Nat} {a : Act} {w : World} (hm : P.follows .mixedOrders = true)
    (h : wpAnyL P .any ops Q ops.size (Array.replicate ops.size false) a w.drew) : (Code.region id ops true).wp P Q a w :=
  wp_region_any hm (wpAny_of_L _ _ _ _ h)
end

end Go.Proofs.YtdkiopajilakcaaGreat
/- Contracts of the library laid at this program: its numbers, and that its bodies are the ones that the contracts speak of. -/
namespace Go.Proofs.YtdkiopajilakcaaGreat
open Go.Shelf
def Tryz.ixbA_ren : Go.Shelf.Ren := ⟨fun | 137 => 161 | 217 => 165 | 266 => 166 | n => n, fun | 9 => 9 | 5 => 5 | 3 => 3 | n => n, fun | n => n⟩
theorem Tryz.ixbA : Go.Proofs.Lays.n137 Tryz.prog Tryz.ixbA_ren := {
  mixed := by kernel_rfl
  f137 := Tryz.func161.trans (congrArg some (by kernel_rfl))
  f217 := Tryz.func165.trans (congrArg some (by kernel_rfl))
  f266 := Tryz.func166.trans (congrArg some (by kernel_rfl))
  t3 := Tryz.underlying3
  a3 := Tryz.isAgg3
  z3 := Tryz.sizeOf3
  v3 := Tryz.zeroValue3
  t5 := Tryz.underlying5
  a5 := Tryz.isAgg5
  z5 := Tryz.sizeOf5
  v5 := Tryz.zeroValue5
  t9 := Tryz.underlying9
  a9 := Tryz.isAgg9
  z9 := Tryz.sizeOf9
  v9 := Tryz.zeroValue9 }
def Tryz.vruneA_ren : Go.Shelf.Ren := ⟨fun | 119 => 162 | n => n, fun | 21 => 21 | 4 => 4 | n => n, fun | n => n⟩
theorem Tryz.vruneA : Go.Proofs.Lays.n119 Tryz.prog Tryz.vruneA_ren := {
  mixed := by kernel_rfl
  f119 := Tryz.func162.trans (congrArg some (by kernel_rfl))
  t4 := Tryz.underlying4
  a4 := Tryz.isAgg4
  z4 := Tryz.sizeOf4
  v4 := Tryz.zeroValue4
  t21 := Tryz.underlying21
  a21 := Tryz.isAgg21
  z21 := Tryz.sizeOf21
  v21 := Tryz.zeroValue21 }
def Tryz.iruneA_ren : Go.Shelf.Ren := ⟨fun | 152 => 160 | 137 => 161 | 119 => 162 | 224 => 163 | 225 => 164 | 217 => 165 | 266 => 166 | n => n, fun | 9 => 9 | 21 => 21 | 3 => 3 | 4 => 4 | 5 => 5 | 0 => 0 | 46 => 54 | n => n, fun | n => n⟩
theorem Tryz.iruneA : Go.Proofs.Lays.n152 Tryz.prog Tryz.iruneA_ren := {
  mixed := by kernel_rfl
  f119 := Tryz.func162.trans (congrArg some (by kernel_rfl))
  f137 := Tryz.func161.trans (congrArg some (by kernel_rfl))
  f152 := Tryz.func160.trans (congrArg some (by kernel_rfl))
  f217 := Tryz.func165.trans (congrArg some (by kernel_rfl))
  f224 := Tryz.func163.trans (congrArg some (by kernel_rfl))
  f225 := Tryz.func164.trans (congrArg some (by kernel_rfl))
  f266 := Tryz.func166.trans (congrArg some (by kernel_rfl))
  t0 := Tryz.underlying0
  a0 := Tryz.isAgg0
  z0 := Tryz.sizeOf0
  v0 := Tryz.zeroValue0
  t3 := Tryz.underlying3
  a3 := Tryz.isAgg3
  z3 := Tryz.sizeOf3
  v3 := Tryz.zeroValue3
  t4 := Tryz.underlying4
  a4 := Tryz.isAgg4
  z4 := Tryz.sizeOf4
  v4 := Tryz.zeroValue4
  t5 := Tryz.underlying5
  a5 := Tryz.isAgg5
  z5 := Tryz.sizeOf5
  v5 := Tryz.zeroValue5
  t9 := Tryz.underlying9
  a9 := Tryz.isAgg9
  z9 := Tryz.sizeOf9
  v9 := Tryz.zeroValue9
  t21 := Tryz.underlying21
  a21 := Tryz.isAgg21
  z21 := Tryz.sizeOf21
  v21 := Tryz.zeroValue21
  t46 := Tryz.underlying54
  a46 := Tryz.isAgg54
  z46 := Tryz.sizeOf54
  v46 := Tryz.zeroValue54 }
end Go.Proofs.YtdkiopajilakcaaGreat
/- Which bytes a text has: the library's IndexRune and ContainsRune at short texts of small bytes, whatever rune is asked. -/
namespace Go.Proofs.YtdkiopajilakcaaGreat
open Go.RowKit

theorem ixb_none (l : List UInt8) (c : UInt8) (h : ∀ b ∈ l, b ≠ c) : Lib.indexByte l c = -1 := by
  induction l with
  | nil => rfl
  | cons b l ih =>
    have hb : (b == c) = false := by simpa using h b (by simp)
    simp [Lib.indexByte, hb, ih (fun x hx => h x (by simp [hx]))]
theorem ixb_yes (l : List UInt8) (c : UInt8) : decide (0 ≤ Lib.indexByte l c) = l.contains c := by
  induction l with
  | nil => rfl
  | cons b l ih =>
    by_cases hb : b = c
    · subst hb
      simp [Lib.indexByte]
    · have hb' : (b == c) = false := by simpa using hb
      have hc' : (c == b) = false := by simpa using (fun e : c = b => hb e.symm)
      unfold Lib.indexByte
      rw [List.contains_cons, hb', hc', Bool.false_or, ← ih]
      by_cases h1 : Lib.indexByte l c = -1
      · simp [h1]
      · have : (Lib.indexByte l c == -1) = false := by simpa using h1
        have hge : -1 ≤ Lib.indexByte l c := by
          clear ih hb hb' hc' h1 this
          induction l with
          | nil => exact Int.le_refl _
          | cons x l ih =>
            unfold Lib.indexByte
            repeat' split
            all_goals omega
        simp [this]
        omega

set_option maxHeartbeats 2000000 in
set_option maxRecDepth 1000000 in
theorem irune_high (s : ByteArray) (r : Nat) (w : World) (hs : ∀ b ∈ s.data.toList, b.toNat < 128) (h0 : 128 ≤ r) (h1 : r < 2147483648) :
    Calls Tryz.prog 160 #[.string s, .int .i32 (r : Int)] w fun e w' => e = .returned (.int .i64 (-1)) ∧ Later w w' := by
  have HL0 : Hid (Later w w) := Later.refl w
  have hV := fun W : World => Any.utf8_ValidRune (P := Tryz.prog) (ρ := Tryz.vruneA_ren) { Tryz.vruneA with } (r : Int) W
  have hget : ∀ (j : Nat) (hj : j < s.size), (s[j]'hj).toNat < 128 := fun j hj => hs _ (by
    show s.data[j] ∈ s.data.toList
    simp)
  go_enter Tryz.func160, Tryz.ntmps160
  have hr0 : (0 : Int) ≤ (r : Int) := by omega
  have hr1 : ¬ ((r : Int) < 128) := by omega
  by_cases he : r = 65533
  · have he' : (r : Int) = 65533 := by omega
    clear he hV
    go_wp2
    go_loopw [] (fun wr => ∃ pos : Nat, wr.heap[w.heap.size]? = some (.stringIter s pos) ∧ Later w wr) (fun wr => s.size - wr.iterPos w.heap.size)
    case atStart =>
      exact ⟨0, World.iter_heap w s 0, (Below.refl _ w).alloc (Nat.le_refl _) _⟩
    case round =>
      obtain ⟨pos, hit, hbw⟩ := hrel
      have hsz : w.heap.size < wr.heap.size := (Array.getElem?_eq_some_iff.1 hit).1
      by_cases hp : pos < s.size
      · have ha := hget pos hp
        have hnx : ∀ ty, (Instr.next (.pointer (some ⟨w.heap.size, 0, none⟩)) true ty).run Tryz.prog wr = _ := fun ty => Lib.run_next_ascii_at wr w.heap.size s pos ty hit hp ha
        have hx : ¬ (((s[pos]'hp).toNat : Int) = 65533) := by omega
        go_wp2
        go_roundw
        case rel => exact ⟨pos + 1, Lib.iterAt_heap wr w.heap.size s pos (pos + 1) hit, Lib.below_iterAt hbw (Nat.le_refl _) s (pos + 1)⟩
        case measure =>
          simp only [World.iterPos, Lib.iterAt_heap wr w.heap.size s pos (pos + 1) hit, hit]
          omega
      · have hnx : ∀ ty, (Instr.next (.pointer (some ⟨w.heap.size, 0, none⟩)) true ty).run Tryz.prog wr = _ := fun ty => Lib.run_next_end_at wr w.heap.size s pos ty hit hp
        go_wp2
        go_ret
        exact ⟨rfl, hbw⟩
  · have he' : ((r : Int) == 65533) = false := by
      rw [beq_eq_false_iff_ne]
      omega
    have hQ := fun W : World => hV W
    clear he hV
    cases hv : Lib.validRune (r : Int) with
    | false =>
      simp only [hv] at hQ
      go_wp2_with (go_at_call 162; refine (hQ _).mono ?_; rintro e w' ⟨rfl, rfl⟩)
      go_ret
      exact ⟨rfl, HL0.out⟩
    | true =>
      simp only [hv] at hQ
      have hval : Utf8.valid (r : Int) = true := by
        simp only [Lib.validRune, decide_eq_true_eq] at hv
        simp [Utf8.valid]
        omega
      obtain ⟨E, hE⟩ : ∃ E, Utf8.encode (r : Int) = E := ⟨_, rfl⟩
      have hf := encode_facts (r : Int) hval (by omega)
      rw [hE] at hf
      obtain ⟨h2, h4, h5⟩ := hf
      obtain ⟨q, hq⟩ : ∃ q, E.size = q + 1 := ⟨E.size - 1, by omega⟩
      have hl := h5 (by omega)
      have hqs : (E.size : Int) - 1 = (q : Int) := by omega
      have hq1 : (q : Int) < (E.size : Int) := by omega
      have hq4 : q ≤ 3 := by omega
      obtain ⟨lb, hlb⟩ : ∃ lb : Nat, (E[q]'(by omega)).toNat = lb := ⟨_, rfl⟩
      have hlb128 : 128 ≤ lb := by rw [← hlb]; simpa [hq] using hl
      have hlb256 : lb < 256 := by rw [← hlb]; exact (E[q]'(by omega)).toNat_lt
      have hI : ∀ W : World, Calls Tryz.prog 161 #[.string (s.extract (q + 1) s.size), .int .u8 (lb : Int)] W fun e w' => e = .returned (.int .i64 (-1)) ∧ w' = W := fun W =>
        (Any.strings_IndexByte (P := Tryz.prog) (ρ := Tryz.ixbA_ren) { Tryz.ixbA with } (s.extract (q + 1) s.size) (lb : Int) W).mono fun e w' ⟨h1, h2⟩ => ⟨by
          rw [h1, ixb_none]
          intro b hb e2
          have hb2 : b ∈ s.data.toList := by
            rw [ByteArray.data_extract] at hb
            simp only [Array.toList_extract, List.extract_eq_take_drop] at hb
            exact List.mem_of_mem_drop (List.mem_of_mem_take hb)
          have := hs b hb2
          rw [e2] at this
          simp at this
          omega, h2⟩
      clear hval h5 hl hv
      have HE := hide hE
      have HI := hide hI
      clear hE hI
      go_wp2_with (fail)
      refine (hQ _).mono ?_
      rintro e w' ⟨rfl, rfl⟩
      clear hQ
      have hcv : ∀ W : World, (convert 21 9 (.int .i32 (r : Int))).run Tryz.prog W = .ok (.string E) W := fun W => by
        rw [run_convert_int_string W 21 9 .i32 (r : Int) (by rw [Tryz.underlying21]; rfl) Tryz.underlying9, HE.out]
      by_cases hlt : q < s.size
      · have hx := hget q hlt
        obtain ⟨x, hxx⟩ : ∃ x : Nat, (s[q]'hlt).toNat = x := ⟨_, rfl⟩
        have hxne : ((x : Int) == (lb : Int)) = false := by
          rw [beq_eq_false_iff_ne]
          omega
        have hlt' : (q : Int) < (s.size : Int) := by omega
        have hle' : (q : Int) + 1 ≤ (s.size : Int) := by omega
        have hq0 : (0 : Int) ≤ (q : Int) + 1 := by omega
        have htn : ((q : Int) + 1).toNat = q + 1 := by omega
        clear hget hs
        have hsl : ∀ W : World, (Instr.slice 9 (.string s) (some (.int .i64 ((q : Int) + 1))) none none).run Tryz.prog W = .ok (.string (s.extract (q + 1) s.size)) W := fun W => by
          rw [run_slice_string_from_if (P := Tryz.prog) W 9 s .i64 ((q : Int) + 1) Tryz.underlying9, if_pos ⟨hq0, hle'⟩, htn]
        have HSL := hide hsl
        clear hsl
        go_wp2_with (fail)
        go_step3
        go_wp2_with (fail)
        have hI := HI.out
        go_loopw [9] (fun v wr => v = .int .i64 (q : Int) ∧ wr = w') (fun _ _ => 0)
        case atStart => exact ⟨rfl, rfl⟩
        case round =>
          obtain ⟨rfl, rfl⟩ := hrel
          go_wp2_with (fail)
          go_step3
          go_wp2_with (fail)
          go_region
          go_wp2_with (fail)
          have hsl := HSL.out
          have hw1 : IntKind.i64.wrap ((q : Int) + 1) = (q : Int) + 1 := wrap_small _ (by omega) (by omega)
          clear hxne hxx hcv hqs he'
          refine wp_region_L (by kernel_rfl) ?_
          refine wpAnyL_take (i := 0) (d := some 34) (v := ?vaa0) rfl rfl (by kernel_rfl) (by kernel_rfl) (by kernel_rfl) (fun _ _ _ h => h) (by rfl) ?yaa0 ?_
          case yaa0 => (intro w' hw'; go_simp; try (with_reducible rfl))
          simp only [Act.put]; try simp only [List.setIfInBounds_toArray]; try simp only [List.set_cons_zero, List.set_cons_succ]
          refine wpAnyL_take (i := 1) (d := some 35) (v := ?vaa1) rfl rfl (by kernel_rfl) (by kernel_rfl) (by kernel_rfl) (fun _ _ _ h => h) (by rfl) ?yaa1 ?_
          case yaa1 => (intro w' hw'; go_simp; try (with_reducible rfl))
          simp only [Act.put]; try simp only [List.setIfInBounds_toArray]; try simp only [List.set_cons_zero, List.set_cons_succ]
          refine wpAnyL_take (i := 2) (d := some 36) (v := ?vaa2) rfl rfl (by kernel_rfl) (by kernel_rfl) (by kernel_rfl) (fun _ _ _ h => h) (by rfl) ?yaa2 ?_
          case yaa2 => (intro w' hw'; go_simp; try (with_reducible rfl))
          simp only [Act.put]; try simp only [List.setIfInBounds_toArray]; try simp only [List.set_cons_zero, List.set_cons_succ]
          refine wpAnyL_take (i := 3) (d := some 37) (v := .string (s.extract (q + 1) s.size)) rfl rfl (by kernel_rfl) (by kernel_rfl) (by kernel_rfl) (fun _ _ _ h => h) (by rfl) ?yaa3 ?_
          case yaa3 => (intro w' hw'; go_simp; try (intro h; exfalso; omega))
          simp only [Act.put]; try simp only [List.setIfInBounds_toArray]; try simp only [List.set_cons_zero, List.set_cons_succ]
          refine wpAnyL_take (i := 4) (d := some 38) (v := ?vaa4) rfl rfl (by kernel_rfl) (by kernel_rfl) (by kernel_rfl) (fun _ _ _ h => h) (by rfl) ?yaa4 ?_
          case yaa4 => (intro w' hw'; go_simp; try (with_reducible rfl))
          simp only [Act.put]; try simp only [List.setIfInBounds_toArray]; try simp only [List.set_cons_zero, List.set_cons_succ]
          refine wpAnyL_take (i := 5) (d := some 39) (v := ?vaa5) rfl rfl (by kernel_rfl) (by kernel_rfl) (by kernel_rfl) (fun _ _ _ h => h) (by rfl) ?yaa5 ?_
          case yaa5 => (intro w' hw'; go_simp; try (with_reducible rfl))
          simp only [Act.put]; try simp only [List.setIfInBounds_toArray]; try simp only [List.set_cons_zero, List.set_cons_succ]
          refine wpAnyL_take (i := 6) (d := some 40) (v := .int .u8 (lb : Int)) rfl rfl (by kernel_rfl) (by kernel_rfl) (by kernel_rfl) (fun _ _ _ h => h) (by rfl) ?yaa6 ?_
          case yaa6 => (intro w' hw'; go_simp; try (intro h; exfalso; omega))
          simp only [Act.put]; try simp only [List.setIfInBounds_toArray]; try simp only [List.set_cons_zero, List.set_cons_succ]
          refine wpAnyL_only (i := 7) rfl (by kernel_rfl) (by rfl) fun K hK => ?_
          go_simp
          refine (hI _).mono ?_
          rintro e w1 ⟨rfl, rfl⟩
          refine hK.out _ _ (Below.refl _ _) ?_
          clear hK K
          try (simp only [Act.put]; try simp only [List.setIfInBounds_toArray]; try simp only [List.set_cons_zero, List.set_cons_succ])
          refine wpAnyL_take (i := 8) (d := some 11) (v := ?vaa8) rfl rfl (by kernel_rfl) (by kernel_rfl) (by kernel_rfl) (fun _ _ _ h => h) (by rfl) ?yaa8 ?_
          case yaa8 => (intro w' hw'; go_simp; try (with_reducible rfl))
          simp only [Act.put]; try simp only [List.setIfInBounds_toArray]; try simp only [List.set_cons_zero, List.set_cons_succ]
          refine wpAnyL_done (by kernel_rfl) ?_ _
          go_wp2_with (fail)
          refine (?_ : bodyPost Tryz.prog Tryz.f160 (fun e w' => e = .returned (.int .i64 (-1)) ∧ Later wr w') .ret _ _)
          go_ret
          exact ⟨rfl, (Below.refl _ _).drew.drew⟩
      · have hlt' : ¬ ((q : Int) < (s.size : Int)) := by omega
        clear hget hs
        go_wp2_with (fail)
        go_step3
        go_wp2_with (fail)
        go_loopw [9] (fun v wr => v = .int .i64 (q : Int) ∧ wr = w') (fun _ _ => 0)
        case atStart => exact ⟨rfl, rfl⟩
        case round =>
          obtain ⟨rfl, rfl⟩ := hrel
          go_wp2_with (fail)
          rw [Exit.noGoto_ret]
          go_ret
          exact ⟨rfl, HL0.out⟩
end Go.Proofs.YtdkiopajilakcaaGreat
/- Sets of bytes: closures that capture bounds, texts, sets, lists of sets. -/
namespace Go.Proofs.YtdkiopajilakcaaGreat
open Go.RowKit

/-- A function of the program's own: its call enters it. -/
def Enters (F : FuncId) : Prop := ∀ (args : Array Value) (w : World), (callFunc F args).run Tryz.prog w = .ok (.enter F args) w
/-- A closure: its function, and what it captures. -/
structure SetV where
  F : FuncId
  cs : Array Value
def SetV.val (v : SetV) : Value := .func (.func v.F) #[] v.cs
/-- The closure v tells of each rune whether f holds of it, in all later worlds. -/
def SetAt (w : World) (v : SetV) (f : Nat → Bool) : Prop :=
  Enters v.F ∧ ∀ (W : World) (c : Nat), Later w W → c < 2147483648 → Calls Tryz.prog v.F (#[.int .i32 (c : Int)] ++ v.cs) W fun e W' => e = .returned (.bool (f c)) ∧ Later W W'
theorem SetAt.later {w w' : World} {v : SetV} {f : Nat → Bool} (h : SetAt w v f) (hl : Later w w') : SetAt w' v f := ⟨h.1, fun W c h1 => h.2 W c (hl.trans h1)⟩
/-- What hands back a set. -/
def NewSet (w : World) (f : Nat → Bool) (e : Ending) (w' : World) : Prop := ∃ v : SetV, e = .returned v.val ∧ SetAt w' v f ∧ Later w w'

section
variable {w : World}
theorem cell_later {w W : World} {b : Nat} {v : Value} {t : TypeId} (h : w.heap[b]? = some (.cells #[v] t (0, 0))) (hl : Later w W) : W.cell? ⟨b, 0, none⟩ = some v := by
  have h2 := (Below.block hl b (lt_of_block h)).trans h
  have := cell_of_row W b 0 _ _ _ h2
  simpa using this

def betw (lo hi c : Nat) : Bool := decide (lo ≤ c) && decide (c ≤ hi)
theorem between1_any (W : World) (lo hi c b1 b2 : Nat) (h1 : W.cell? ⟨b1, 0, none⟩ = some (.int .i32 (lo : Int))) (h2 : W.cell? ⟨b2, 0, none⟩ = some (.int .i32 (hi : Int))) :
    Calls Tryz.prog 153 #[.int .i32 (c : Int), .pointer (some ⟨b1, 0, none⟩), .pointer (some ⟨b2, 0, none⟩)] W fun e W' => e = .returned (.bool (betw lo hi c)) ∧ Later W W' := by
  have HL := hide (Later.refl W)
  unfold betw
  go_enter Tryz.func153, Tryz.ntmps153
  by_cases hlo : lo ≤ c
  · by_cases hhi : c ≤ hi
    · have e1 : (lo : Int) ≤ (c : Int) := by omega
      have e2 : (c : Int) ≤ (hi : Int) := by omega
      go_wp2
      go_ret
      exact ⟨ret_bool (by simp [hlo, hhi]), HL.out⟩
    · have e1 : (lo : Int) ≤ (c : Int) := by omega
      have e2 : ¬ (c : Int) ≤ (hi : Int) := by omega
      go_wp2
      go_ret
      exact ⟨ret_bool (by simp), HL.out⟩
  · have e1 : ¬ (lo : Int) ≤ (c : Int) := by omega
    go_wp2
    go_ret
    exact ⟨ret_bool (by simp), HL.out⟩
theorem enters_between1 : Enters 153 := fun args w => by go_simp
theorem between_any (lo hi : Nat) : Calls Tryz.prog 147 #[.int .i32 (lo : Int), .int .i32 (hi : Int)] w (NewSet w (betw lo hi)) := by
  have X1 := hide (heap_alloc2_old w (.cells #[.int .i32 (lo : Int)] 21 (0, 0)) (.cells #[.int .i32 (hi : Int)] 21 (0, 0)))
  have X2 := hide (heap_alloc2_new w (.cells #[.int .i32 (lo : Int)] 21 (0, 0)) (.cells #[.int .i32 (hi : Int)] 21 (0, 0)))
  have HB : Hid (Later w ((w.alloc (.cells #[.int .i32 (lo : Int)] 21 (0, 0))).alloc (.cells #[.int .i32 (hi : Int)] 21 (0, 0)))) := ((Below.refl _ _).alloc (Nat.le_refl _) _).alloc (by simp) _
  go_enter Tryz.func147, Tryz.ntmps147
  go_wp2
  go_ret
  exact ⟨⟨153, #[.pointer (some ⟨w.heap.size, 0, none⟩), .pointer (some ⟨w.heap.size + 1, 0, none⟩)]⟩, rfl, ⟨enters_between1, fun W c hl _ => between1_any W lo hi c _ _ (cell_later X1.out hl) (cell_later X2.out hl)⟩, HB.out⟩
theorem letter_any : Calls Tryz.prog 133 #[] w (NewSet w smallB) := by
  have C := hide (between_any (w := w) 97 122)
  go_enter Tryz.func133, Tryz.ntmps133
  go_wp2_with (fail)
  refine C.out.mono ?_
  rintro e w1 ⟨v, rfl, hs, hl⟩
  have HS := hide hs
  have HL := hide hl
  clear hs hl C
  go_wp2
  go_ret
  exact ⟨v, rfl, HS.out, HL.out⟩
theorem digit_any : Calls Tryz.prog 149 #[] w (NewSet w digitB) := by
  have C := hide (between_any (w := w) 48 57)
  go_enter Tryz.func149, Tryz.ntmps149
  go_wp2_with (fail)
  refine C.out.mono ?_
  rintro e w1 ⟨v, rfl, hs, hl⟩
  have HS := hide hs
  have HL := hide hl
  clear hs hl C
  go_wp2
  go_ret
  exact ⟨v, rfl, HS.out, HL.out⟩

/-- Which bytes stand in the text. -/
def hasB (s : List UInt8) (c : Nat) : Bool := decide (c < 128) && s.contains (UInt8.ofNat c)
theorem contains_rune (W : World) (l : List UInt8) (c : Nat) (hs : ∀ b ∈ l, b.toNat < 128) (hc : c < 2147483648) :
    Calls Tryz.prog 158 #[.string ⟨l.toArray⟩, .int .i32 (c : Int)] W fun e W' => e = .returned (.bool (hasB l c)) ∧ Later W W' := by
  by_cases h : c < 128
  · have C : Hid (Calls Tryz.prog 160 #[.string ⟨l.toArray⟩, .int .i32 (c : Int)] W fun e W' => e = .returned (.int .i64 (Lib.indexByte l (UInt8.ofNat c))) ∧ W' = W) :=
      (Any.strings_IndexRune_ascii (P := Tryz.prog) (ρ := Tryz.iruneA_ren) { Tryz.iruneA with } ⟨l.toArray⟩ (c : Int) W (by omega) (by omega)).mono fun e w' ⟨h1, h2⟩ => ⟨by rw [h1]; simp, h2⟩
    have e0 : hasB l c = decide (0 ≤ Lib.indexByte l (UInt8.ofNat c)) := by rw [ixb_yes, hasB]; simp [h]
    rw [e0]
    clear e0
    generalize Lib.indexByte l (UInt8.ofNat c) = z at C ⊢
    have HL := hide (Later.refl W)
    go_enter Tryz.func158, Tryz.ntmps158
    go_wp2_with (fail)
    refine C.out.mono ?_
    rintro e w1 ⟨rfl, rfl⟩
    clear C
    go_wp2
    go_ret
    exact ⟨rfl, HL.out⟩
  · have C := hide (irune_high ⟨l.toArray⟩ c W (by simpa using hs) (by omega) hc)
    have e0 : hasB l c = false := by simp [hasB, h]
    rw [e0]
    clear e0
    go_enter Tryz.func158, Tryz.ntmps158
    go_wp2_with (fail)
    refine C.out.mono ?_
    rintro e w1 ⟨rfl, hl⟩
    have HL := hide hl
    clear C hl
    go_wp2
    go_ret
    exact ⟨rfl, HL.out⟩
theorem among1_any (W : World) (l : List UInt8) (c b : Nat) (h : W.cell? ⟨b, 0, none⟩ = some (.string ⟨l.toArray⟩)) (hs : ∀ b ∈ l, b.toNat < 128) (hc : c < 2147483648) :
    Calls Tryz.prog 157 #[.int .i32 (c : Int), .pointer (some ⟨b, 0, none⟩)] W fun e W' => e = .returned (.bool (hasB l c)) ∧ Later W W' := by
  have C := hide (contains_rune W l c hs hc)
  clear hs hc
  go_enter Tryz.func157, Tryz.ntmps157
  go_wp2_with (fail)
  refine C.out.mono ?_
  rintro e w1 ⟨rfl, hl⟩
  have HL := hide hl
  clear C hl h
  go_wp2
  go_ret
  exact ⟨rfl, HL.out⟩
theorem enters_among1 : Enters 157 := fun args w => by go_simp
theorem among_any (l : List UInt8) (hs : ∀ b ∈ l, b.toNat < 128) : Calls Tryz.prog 150 #[.string ⟨l.toArray⟩] w (NewSet w (hasB l)) := by
  have X1 := hide (heap_alloc_new w (.cells #[.string ⟨l.toArray⟩] 9 (0, 0)))
  have HB : Hid (Later w (w.alloc (.cells #[.string ⟨l.toArray⟩] 9 (0, 0)))) := (Below.refl _ _).alloc (Nat.le_refl _) _
  have HS := hide hs
  clear hs
  go_enter Tryz.func150, Tryz.ntmps150
  go_wp2
  go_ret
  exact ⟨⟨157, #[.pointer (some ⟨w.heap.size, 0, none⟩)]⟩, rfl, ⟨enters_among1, fun W c hl hc => among1_any W l c _ (cell_later X1.out hl) HS.out hc⟩, HB.out⟩

end
end Go.Proofs.YtdkiopajilakcaaGreat
/- A set that is one of several: the library's ContainsFunc at closures. -/
namespace Go.Proofs.YtdkiopajilakcaaGreat
open Go.RowKit

/-- The slice v holds these closures, in old memory. -/
def SetsAt (w : World) (v : Value) (l : List (SetV × (Nat → Bool))) : Prop := FlatAt (fun _ => True) w 1 v l.length (l.map fun p => p.1.val) ∧ ∀ p ∈ l, SetAt w p.1 p.2
theorem SetsAt.later {w w' : World} {v : Value} {l : List (SetV × (Nat → Bool))} (h : SetsAt w v l) (hl : Later w w') : SetsAt w' v l := ⟨h.1.kept (Kept.of_below hl _), fun p hp => (h.2 p hp).later hl⟩
theorem SetsAt.at_ {w : World} {A : Option Addr} {n cap : Nat} {l : List (SetV × (Nat → Bool))} (h : SetsAt w (.slice A n cap) l) {i : Nat} (hi : i < n) :
    ∃ b off p, A = some ⟨b, off, none⟩ ∧ n ≤ cap ∧ l[i]? = some p ∧ b < w.heap.size ∧ w.cell? ⟨b, off + i, none⟩ = some p.1.val ∧ SetAt w p.1 p.2 := by
  have hn : n = l.length := by obtain ⟨A', c', e, _⟩ := h.1.shape; injection e
  subst hn
  obtain ⟨b, off, c, hv, hc, _, hb, hr⟩ := h.1.elem hi
  injection hv with e1 _ e3
  subst e1 e3
  have hp : l[i]? = some l[i] := List.getElem?_eq_getElem hi
  refine ⟨b, off, l[i], rfl, hc, hp, hb, ?_, h.2 _ (List.getElem_mem hi)⟩
  have := hr 0 l[i].1.val (by simp [hi])
  simpa using this

section
variable {w : World}
theorem either11_any (W : World) (v : SetV) (f : Nat → Bool) (c b : Nat) (h : W.cell? ⟨b, 0, none⟩ = some (.int .i32 (c : Int))) (hv : SetAt W v f) (hc : c < 2147483648) :
    Calls Tryz.prog 156 #[v.val, .pointer (some ⟨b, 0, none⟩)] W fun e W' => e = .returned (.bool (f c)) ∧ Later W W' := by
  have C := hide (hv.2 W c (Later.refl _) hc)
  have eg := hv.1
  obtain ⟨F, cs⟩ := v
  unfold Enters at eg
  unfold SetV.val
  simp only at eg C
  clear hv hc
  go_enter Tryz.func156, Tryz.ntmps156
  go_wp2_with (fail)
  refine C.out.mono ?_
  rintro e w1 ⟨rfl, hl⟩
  have HL := hide hl
  clear C hl h eg
  go_wp2
  go_ret
  exact ⟨rfl, HL.out⟩
theorem enters_either11 : Enters 156 := fun args w => by go_simp

set_option maxHeartbeats 2000000 in
set_option maxRecDepth 100000 in
theorem index_sets {A : Option Addr} {n cap b c : Nat} {l : List (SetV × (Nat → Bool))} (hb : w.heap[b]? = some (.cells #[.int .i32 (c : Int)] 21 (0, 0))) (h : SetsAt w (.slice A n cap) l) (hn : n = l.length) (hc : c < 2147483648) (hs : n ≤ 100) :
    Calls Tryz.prog 159 #[.slice A n cap, .func (.func 156) #[] #[.pointer (some ⟨b, 0, none⟩)]] w fun e w' => ∃ i : Int, e = .returned (.int .i64 i) ∧ decide (0 ≤ i) = l.any (fun p => p.2 c) ∧ Later w w' := by
  have H := hide h
  have HN := hide hn
  have HB := hide hb
  have eg : ∀ (args : Array Value) (w : World), (callFunc 156 args).run Tryz.prog w = .ok (.enter 156 args) w := enters_either11
  clear h hn hb
  go_enter Tryz.func159, Tryz.ntmps159
  go_wp2
  go_loopw [8] (fun i wr => ∃ q : Nat, q ≤ n ∧ i = .int .i64 (q : Int) ∧ (l.take q).any (fun p => p.2 c) = false ∧ Later w wr) (fun i _ => n - (Go.RowKit.intOf i).toNat)
  case atStart => exact ⟨0, by omega, rfl, by simp, Later.refl _⟩
  case round =>
    obtain ⟨q, hq, rfl, hall, hlat⟩ := hrel
    have HA := hide hall
    have HL := hide hlat
    clear hall hlat
    by_cases hlt : q < n
    · obtain ⟨k, off, p, rfl, hnc, hp, hkb, hcell, hset⟩ := (H.out.later HL.out).at_ hlt
      have HP := hide hp
      have C := hide (either11_any wr p.1 p.2 c b (cell_later HB.out HL.out) hset hc)
      obtain ⟨t, ht⟩ : ∃ t, p.2 c = t := ⟨_, rfl⟩
      rw [ht] at C
      have HT := hide ht
      obtain ⟨vv, hvv⟩ : ∃ vv, p.1.val = vv := ⟨_, rfl⟩
      rw [hvv] at C hcell
      have hone : vv.oneCell' = true := by rw [← hvv]; rfl
      clear hp ht hset hvv
      go_wp2_with (fail)
      refine C.out.mono ?_
      rintro e w1 ⟨rfl, hl⟩
      have HL1 := hide (HL.out.trans hl)
      clear hl C hcell
      cases t with
      | false =>
        go_wp2
        go_roundw
        case rel =>
          refine ⟨q + 1, by omega, by go_num, ?_, HL1.out⟩
          rw [List.take_add_one, HP.out, List.any_append, HA.out]
          simp [HT.out]
        case measure => simp [Go.RowKit.intOf]; omega
      | true =>
        go_wp2
        go_ret
        refine ⟨(q : Int), rfl, ?_, HL1.out⟩
        have hyes : l.any (fun p => p.2 c) = true := by
          rw [List.any_eq_true]
          exact ⟨p, List.mem_of_getElem? HP.out, HT.out⟩
        rw [hyes]
        simp
    · have hall : l.any (fun p => p.2 c) = false := by
        have h1 := HA.out
        rwa [List.take_of_length_le (by have := HN.out; omega)] at h1
      have HALL := hide hall
      clear hall
      go_wp2
      go_ret
      exact ⟨-1, rfl, by rw [HALL.out]; decide, HL.out⟩
theorem contains_sets {A : Option Addr} {n cap b c : Nat} {l : List (SetV × (Nat → Bool))} (hb : w.heap[b]? = some (.cells #[.int .i32 (c : Int)] 21 (0, 0))) (h : SetsAt w (.slice A n cap) l) (hn : n = l.length) (hc : c < 2147483648) (hs : n ≤ 100) :
    Calls Tryz.prog 155 #[.slice A n cap, .func (.func 156) #[] #[.pointer (some ⟨b, 0, none⟩)]] w fun e w' => e = .returned (.bool (l.any (fun p => p.2 c))) ∧ Later w w' := by
  have C := hide (index_sets hb h hn hc hs)
  clear h hn hb
  go_enter Tryz.func155, Tryz.ntmps155
  go_wp2_with (fail)
  refine C.out.mono ?_
  rintro e w1 ⟨i, rfl, hi, hl⟩
  have HI := hide hi
  have HL := hide hl
  clear hi hl C
  go_wp2
  go_ret
  exact ⟨ret_bool HI.out, HL.out⟩
theorem either1_any (W : World) {A : Option Addr} {n cap b c : Nat} {l : List (SetV × (Nat → Bool))} (hb : W.cell? ⟨b, 0, none⟩ = some (.slice A n cap)) (h : SetsAt W (.slice A n cap) l) (hn : n = l.length) (hc : c < 2147483648) (hs : n ≤ 100) :
    Calls Tryz.prog 154 #[.int .i32 (c : Int), .pointer (some ⟨b, 0, none⟩)] W fun e w' => e = .returned (.bool (l.any (fun p => p.2 c))) ∧ Later W w' := by
  have HB : Hid (Later W (W.alloc (.cells #[.int .i32 (c : Int)] 21 (0, 0)))) := (Below.refl _ _).alloc (Nat.le_refl _) _
  have X1 := heap_alloc_new W (.cells #[.int .i32 (c : Int)] 21 (0, 0))
  have C := hide (contains_sets X1 (h.later HB.out) hn hc hs)
  have hlt : b < W.heap.size := by
    rcases Nat.lt_or_ge b W.heap.size with h1 | h1
    · exact h1
    · simp [World.cell?, Array.getElem?_eq_none h1] at hb
  have hcell := (Below.cell HB.out (p := ⟨b, 0, none⟩) hlt).trans hb
  clear X1 h hn hb
  go_enter Tryz.func154, Tryz.ntmps154
  go_wp2_with (fail)
  refine C.out.mono ?_
  rintro e w1 ⟨rfl, hl⟩
  have HL := hide (HB.out.trans hl)
  clear hl C
  go_wp2
  go_ret
  exact ⟨rfl, HL.out⟩
theorem enters_either1 : Enters 154 := fun args w => by go_simp
theorem either_any {A : Option Addr} {n cap : Nat} {l : List (SetV × (Nat → Bool))} (h : SetsAt w (.slice A n cap) l) (hn : n = l.length) (hs : n ≤ 100) :
    Calls Tryz.prog 148 #[.slice A n cap] w (NewSet w fun c => l.any (fun p => p.2 c)) := by
  have X1 := hide (heap_alloc_new w (.cells #[.slice A n cap] 198 (0, 0)))
  have HB : Hid (Later w (w.alloc (.cells #[.slice A n cap] 198 (0, 0)))) := (Below.refl _ _).alloc (Nat.le_refl _) _
  have H := hide h
  have HN := hide hn
  clear h hn
  go_enter Tryz.func148, Tryz.ntmps148
  go_wp2
  go_ret
  exact ⟨⟨154, #[.pointer (some ⟨w.heap.size, 0, none⟩)]⟩, rfl, ⟨enters_either1, fun W c hl hc => either1_any W (cell_later X1.out hl) (H.out.later (HB.out.trans hl)) HN.out hc hs⟩, HB.out⟩
end
end Go.Proofs.YtdkiopajilakcaaGreat
/- Worlds of which all but one block is as it was; objects of the call's own that are written again and again. -/
namespace Go.Proofs.YtdkiopajilakcaaGreat
open Go.RowKit

theorem grown_set (w : World) (g o : Nat) (v : Value) : w.grownBy (w.setCell ⟨g, o, none⟩ v) (some g) :=
  ⟨rfl, rfl, rfl, by simp [World.setCell], fun i hi hne => Below.heap_setCell _ _ _ _ (fun e => hne (by rw [e]))⟩
theorem grown_trans {a b c : World} {r : Option Nat} (h : a.grownBy b r) (k : b.grownBy c r) : a.grownBy c r :=
  ⟨k.os.trans h.os, k.tape.trans h.tape, k.output.trans h.output, Nat.le_trans h.size k.size, fun i hi hne => (k.block i (Nat.lt_of_lt_of_le hi h.size) hne).trans (h.block i hi hne)⟩
theorem grown_later {a b : World} (h : Below a.heap.size a b) (r : Option Nat) : a.grownBy b r := ⟨h.os, h.tape, h.output, h.size, fun i hi _ => h.block i hi⟩
theorem grown_drewN (w : World) (r : Option Nat) (n : Nat) : w.grownBy (w.drewN n) r := ⟨rfl, rfl, rfl, Nat.le_refl _, fun _ _ _ => rfl⟩
theorem below_grown {a b : World} {B g : Nat} (h : a.grownBy b (some g)) (hB : B ≤ g) (hs : B ≤ a.heap.size) : Below B a b := (Below.refl _ _).grown h hs (fun k hk => by
  have := Option.some.inj hk
  omega)
theorem below_drewN (B : Nat) (w : World) (n : Nat) : Below B w (w.drewN n) := ⟨rfl, rfl, rfl, Nat.le_refl _, fun _ _ => rfl⟩
/-- What lies in new blocks may be written: to who stands before, only block r has turned. -/
theorem grown_new {a b c : World} {r : Option Nat} {q : Nat} (h : a.grownBy b r) (k : b.grownBy c (some q)) (hq : a.heap.size ≤ q) : a.grownBy c r :=
  ⟨k.os.trans h.os, k.tape.trans h.tape, k.output.trans h.output, Nat.le_trans h.size k.size, fun i hi hne => (k.block i (Nat.lt_of_lt_of_le hi h.size) (fun e => by
    have := Option.some.inj e
    omega)).trans (h.block i hi hne)⟩

/-- The block g holds the cells cs, none of them frozen. -/
def BlockAt (T : TypeId) (w : World) (g : Nat) (cs : List Value) : Prop := w.heap[g]? = some (.cells cs.toArray T (0, 0))
section
variable {T : TypeId} {w w' : World} {g : Nat} {cs : List Value}
theorem BlockAt.lt (h : BlockAt T w g cs) : g < w.heap.size := lt_of_block h
theorem BlockAt.cell (h : BlockAt T w g cs) {i : Nat} {v : Value} (hi : cs[i]? = some v) : w.cell? ⟨g, i, none⟩ = some v := by
  have h' : w.heap[g]? = some (.cells cs.toArray T (0, 0)) := h
  simp [World.cell?, h', hi]
theorem BlockAt.free (h : BlockAt T w g cs) (i : Nat) : w.frozen? ⟨g, i, none⟩ = false := by
  have h' : w.heap[g]? = some (.cells cs.toArray T (0, 0)) := h
  simp [World.frozen?, h']
theorem BlockAt.set (h : BlockAt T w g cs) (i : Nat) (v : Value) : BlockAt T (w.setCell ⟨g, i, none⟩ v) g (cs.set i v) := by
  have hlt := h.lt
  have h' : w.heap[g] = .cells cs.toArray T (0, 0) := by
    have h2 : w.heap[g]? = some (.cells cs.toArray T (0, 0)) := h
    simpa [Array.getElem?_eq_getElem hlt] using h2
  show (w.heap.modify g _)[g]? = _
  rw [Array.getElem?_eq_getElem (by simpa using hlt), Array.getElem_modify_self, h']
  simp
theorem BlockAt.kept (h : BlockAt T w g cs) (hk : w'.heap[g]? = w.heap[g]?) : BlockAt T w' g cs := by
  show w'.heap[g]? = _
  rw [hk]
  exact h
theorem BlockAt.below {B : Nat} (h : BlockAt T w g cs) (hb : Below B w w') (hg : g < B) : BlockAt T w' g cs := h.kept (hb.block g hg)
theorem BlockAt.other {r : Option Nat} (h : BlockAt T w g cs) (hg : w.grownBy w' r) (hr : some g ≠ r) : BlockAt T w' g cs := h.kept (hg.block g h.lt hr)
theorem BlockAt.made (w : World) (cs : List Value) (T : TypeId) : BlockAt T (w.alloc (.cells cs.toArray T (0, 0))) w.heap.size cs := heap_alloc_new _ _
end
end Go.Proofs.YtdkiopajilakcaaGreat
/- Blocks that are known whole: a struct read out of one, a struct written into one, at an operation; results that lie in such blocks. -/
namespace Go.Proofs.YtdkiopajilakcaaGreat
open Go.RowKit

/-- The cells with vs written from o on. -/
def putAt : Array Value → Nat → List Value → Array Value
  | cs, _, [] => cs
  | cs, o, v :: r => putAt (cs.setIfInBounds o v) (o + 1) r

theorem heap_setCells (b : Nat) {T : TypeId} : ∀ (vs : List Value) (o : Nat) (w : World) (cs : Array Value), w.heap[b]? = some (.cells cs T (0, 0)) → (w.setCells b o vs).heap[b]? = some (.cells (putAt cs o vs) T (0, 0))
  | [], _, _, _, h => h
  | v :: r, o, w, cs, h => heap_setCells b r (o + 1) _ _ (heap_setCell_same w b o cs T v h)
theorem grown_setCells (b : Nat) : ∀ (vs : List Value) (o : Nat) (w : World), w.grownBy (w.setCells b o vs) (some b)
  | [], _, w => World.grownBy.refl w _
  | v :: r, o, w => by
    have h1 : w.grownBy (w.setCell ⟨b, o, none⟩ v) (some b) := ⟨rfl, rfl, rfl, by simp [World.setCell], fun i hi hne => heap_setCell_other _ _ _ _ (fun e => hne (by rw [e]))⟩
    exact h1.trans (grown_setCells b r (o + 1) _)

section
variable {P : Program} {ops : Array Oper} {rest : List Oper} {op : Oper} {a : Act} {w : World} {Q : Exit → Act → World → Prop}

/-- A struct out of a block, from offset o on. -/
theorem wpList_load_box (hgd : op.guard = none) (ty : TypeId) (x : Operand) (ho : op.op = .load ty x)
    (g o : Nat) (hx : a.eval x = .pointer (some ⟨g, o, none⟩)) (T : TypeId) (cs : Array Value) (hg : w.heap[g]? = some (.cells cs T (0, 0))) (n : Nat) (d : TypeDesc)
    (hu : P.underlying ty = some d) (hd : d.isRow = true) (hi : (P.info? ty).map (·.size) = some n) (part : List Value) (hp : (cs.toList.drop o).take n = part) (hn : part.length = n)
    (h : wpList P ops Q rest (a.put op.dst (.agg part.toArray)) w) : wpList P ops Q (op :: rest) a w :=
  wpList_load_mid hgd ty x ho g o hx part d (fun j v hv => by
    rw [cell_of_row w g (o + j) cs T (0, 0) hg]
    have hj : j < n := by rw [← hn]; exact (List.getElem?_eq_some_iff.1 hv).1
    rw [← hp, List.getElem?_take_of_lt hj, List.getElem?_drop] at hv
    simpa using hv) hu hd (by rw [hn]; exact hi) h

/-- A struct into a block, from offset o on: some world in which that block alone has turned. -/
theorem wpList_store_box (hgd : op.guard = none) (ty : TypeId) (x y : Operand) (ho : op.op = .store ty x y)
    (g o : Nat) (cells : Array Value) (hx : a.eval x = .pointer (some ⟨g, o, none⟩)) (hy : a.eval y = .agg cells) (T : TypeId) (cs : Array Value) (hg : w.heap[g]? = some (.cells cs T (0, 0)))
    (hi : (P.info? ty).map (·.size) = some cells.size) (hfit : o + cells.size ≤ cs.size) (h1 : ∀ u ∈ cells.toList, u.oneCell' = true)
    (h : ∀ w', w'.heap[g]? = some (.cells (putAt cs o cells.toList) T (0, 0)) → w.grownBy w' (some g) → wpList P ops Q rest (a.put op.dst undef) w') : wpList P ops Q (op :: rest) a w :=
  wpList_store_mid hgd ty x y ho g o cells hx hy (fun j hj => ⟨by rw [cell_of_row w g (o + j) cs T (0, 0) hg]; simp; omega, frozen_of_row w g _ cs T hg⟩) hi
    (Array.all_eq_true_iff_forall_mem.2 fun v hv => h1 v (by simpa using hv)) (h _ (heap_setCells g _ o w cs hg) (grown_setCells g _ o w))
end

section
variable {P : Program} {op : Oper} {a : Act} {w : World}
/-- The same at an operation of a region that draws its order. -/
theorem exec_load_box (ty : TypeId) (x : Operand) (ho : op.op = .load ty x)
    (g o : Nat) (hx : a.eval x = .pointer (some ⟨g, o, none⟩)) (T : TypeId) (cs : Array Value) (hg : w.heap[g]? = some (.cells cs T (0, 0))) (n : Nat) (d : TypeDesc)
    (hu : P.underlying ty = some d) (hd : d.isRow = true) (hi : (P.info? ty).map (·.size) = some n) (part : List Value) (hp : (cs.toList.drop o).take n = part) (hn : part.length = n) :
    (execOp a.eval op).run P w = .ok (.value (.agg part.toArray)) w := by
  have hr : w.rangeAt g o part := fun j v hv => by
    rw [cell_of_row w g (o + j) cs T (0, 0) hg]
    have hj : j < n := by rw [← hn]; exact (List.getElem?_eq_some_iff.1 hv).1
    rw [← hp, List.getElem?_take_of_lt hj, List.getElem?_drop] at hv
    simpa using hv
  unfold execOp
  simp only [ho, hx, Instr.loadAt, Instr.sureAddr, Sem.run_bind, Sem.run_pure, Result.andThen_ok, run_loadVar_mid w g o ty part d hr hu hd (by rw [hn]; exact hi)]
theorem exec_load_range (ty : TypeId) (x : Operand) (ho : op.op = .load ty x)
    (g o : Nat) (hx : a.eval x = .pointer (some ⟨g, o, none⟩)) (part : List Value) (hr : w.rangeAt g o part) (d : TypeDesc)
    (hu : P.underlying ty = some d) (hd : d.isRow = true) (hi : (P.info? ty).map (·.size) = some part.length) :
    (execOp a.eval op).run P w = .ok (.value (.agg part.toArray)) w := by
  unfold execOp
  simp only [ho, hx, Instr.loadAt, Instr.sureAddr, Sem.run_bind, Sem.run_pure, Result.andThen_ok, run_loadVar_mid w g o ty part d hr hu hd hi]
theorem wp_store_box {K : Act → World → Prop} {Q : Exit → Act → World → Prop} (ty : TypeId) (x y : Operand) (ho : op.op = .store ty x y)
    (g o : Nat) (cells : Array Value) (hx : a.eval x = .pointer (some ⟨g, o, none⟩)) (hy : a.eval y = .agg cells) (T : TypeId) (cs : Array Value) (hg : w.heap[g]? = some (.cells cs T (0, 0)))
    (hi : (P.info? ty).map (·.size) = some cells.size) (hfit : o + cells.size ≤ cs.size) (h1 : ∀ u ∈ cells.toList, u.oneCell' = true)
    (h : ∀ w', w'.heap[g]? = some (.cells (putAt cs o cells.toList) T (0, 0)) → w.grownBy w' (some g) → K (a.put op.dst undef) w') : op.wp P a w K Q :=
  wp_store_mid ty x y ho g o cells hx hy (fun j hj => ⟨by rw [cell_of_row w g (o + j) cs T (0, 0) hg]; simp; omega, frozen_of_row w g _ cs T hg⟩) hi
    (Array.all_eq_true_iff_forall_mem.2 fun v hv => h1 v (by simpa using hv)) (h _ (heap_setCells g _ o w cs hg) (grown_setCells g _ o w))
end

theorem putAt_size : ∀ (vs : List Value) (o : Nat) (cs : Array Value), (putAt cs o vs).size = cs.size
  | [], _, _ => rfl
  | v :: r, o, cs => by rw [putAt, putAt_size r (o + 1)]; simp
theorem putAt_toList : ∀ (vs : List Value) (o : Nat) (cs : Array Value), o + vs.length ≤ cs.size → (putAt cs o vs).toList = cs.toList.take o ++ vs ++ cs.toList.drop (o + vs.length)
  | [], o, cs, _ => by simp [putAt]
  | v :: r, o, cs, h => by
    have hlt : o < cs.size := by simp at h; omega
    have ih := putAt_toList r (o + 1) (cs.setIfInBounds o v) (by simp at h ⊢; omega)
    rw [putAt, ih, Array.toList_setIfInBounds, List.take_succ_eq_append_getElem (by simpa using hlt), List.take_set_of_le (Nat.le_refl _), List.drop_set_of_lt (by omega)]
    simp [Nat.add_assoc, Nat.add_comm 1]
theorem take_splice (L c : List Value) (a N : Nat) (h : a + c.length ≤ N) (hN : N ≤ L.length) : (L.take a ++ c ++ L.drop (a + c.length)).take N = (L.take N).take a ++ c ++ (L.take N).drop (a + c.length) := by
  have hl : (L.take a ++ c).length = a + c.length := by simp; omega
  rw [List.take_append, List.take_of_length_le (by omega), List.take_take, Nat.min_eq_left (by omega), List.drop_take, hl]
/-- An element of a row of the call's own, written. -/
theorem ownsRow_stored {w w' : World} {base e k q n c : Nat} {xs cells : List Value} {cur : Array Value} (h : w.ownsRow base e k (.slice (some ⟨q, 0, none⟩) n c) n xs)
    (hc : w.heap[q]? = some (.cells cur e (0, 0))) {i : Nat} (hi : i < n) (hk : cells.length = k) (hw : w'.heap[q]? = some (.cells (putAt cur (i * k) cells) e (0, 0))) :
    w'.ownsRow base e k (.slice (some ⟨q, 0, none⟩) n c) n (xs.take (i * k) ++ cells ++ xs.drop (i * k + k)) := by
  have hle : i * k + k ≤ n * k := by
    have := Nat.mul_le_mul_right k (show i + 1 ≤ n from hi)
    rwa [Nat.add_mul, Nat.one_mul] at this
  have hl := h.1
  rcases h.2 with ⟨h0, _⟩ | ⟨g, cap, cur', hv, hb, hg, hnc, hm, hsz, ht⟩
  · cases h0
  · have e1 : q = g := by injection hv with e _ _; injection e with e; injection e
    have e2 : c = cap := by injection hv
    subst e1 e2
    obtain rfl : cur' = cur := by rw [hc] at hg; injection hg with e; injection e with e1; exact e1.symm
    have hnk : n * k ≤ cur'.size := by rw [hsz]; exact Nat.mul_le_mul_right _ hnc
    refine ⟨?_, .inr ⟨q, c, _, rfl, hb, hw, hnc, hm, by rw [putAt_size]; exact hsz, ?_⟩⟩
    · simp only [List.length_append, List.length_take, List.length_drop, hl, hk]
      omega
    · rw [putAt_toList _ _ _ (by rw [hk]; omega), ← ht, hk]
      have := take_splice cur'.toList cells (i * k) (n * k) (by omega) (by simpa using hnk)
      rw [hk] at this
      exact this

section
variable {P : Program}
/-- The results of a function: a struct in a block of its own, and a plain one. -/
theorem results_box2 {fn : Func} {p q : Tmp} {ty : TypeId} (h : fn.results = #[.cell p ty, .tmp q]) (tmps : Array Value) (w : World) (g : Nat) (T : TypeId) (cs : Array Value) (d : TypeDesc)
    (hp : tmps.getD p undef = .pointer (some ⟨g, 0, none⟩)) (hg : w.heap[g]? = some (.cells cs T (0, 0)))
    (hu : P.underlying ty = some d) (hd : (match d with | .struct _ | .array _ _ => true | _ => false) = true) (hi : (P.info? ty).map (·.size) = some cs.size) (v : Value) (hv : tmps.getD q undef = v) :
    (results fn tmps).run P w = .ok (.tuple #[.agg cs, v]) w := by
  have hp' : tmps[p]?.getD undef = .pointer (some ⟨g, 0, none⟩) := by simpa using hp
  have hv' : tmps[q]?.getD undef = v := by simpa using hv
  simp [results, h, hp', hv', asAddr, run_loadVar_row w g T ty cs (0, 0) d hg hu hd hi]
end
end Go.Proofs.YtdkiopajilakcaaGreat
/- A slice of one struct, made by a literal. -/
namespace Go.Proofs.YtdkiopajilakcaaGreat
open Go.RowKit

theorem fold_put : ∀ (vs : List Value) (n : Nat) (Z : Array Value), (vs.zipIdx n).foldl (fun cs (x : Value × Nat) => cs.setIfInBounds x.2 x.1) Z = putAt Z n vs
  | [], _, _ => rfl
  | v :: r, n, Z => by rw [List.zipIdx_cons, List.foldl_cons, fold_put r (n + 1), putAt]
theorem put_whole (cells Z : Array Value) (h : Z.size = cells.size) : putAt Z 0 cells.toList = cells := by
  apply Array.ext'
  rw [putAt_toList _ _ _ (by simp; omega)]
  simp [h]

section
variable {P : Program} {w : World}
theorem run_buildSlice_one (t e : TypeId) (i : TypeInfo) (z : Value) (k : Nat) (ht : P.underlying t = some (.slice e)) (hi : P.info? e = some i) (hz : i.zero = some z) (hs : i.size = k) (hk : 0 < k) (hk2 : k ≤ 16777216)
    (cells : Array Value) (hc : cells.size = k) :
    (Instr.buildSlice t 1 #[(0, .agg cells)]).run P w = .ok (.slice (some ⟨w.heap.size, 0, none⟩) 1 1) (w.alloc (.cells cells e (0, 0))) := by
  subst hs
  have hne : ¬ (i.size = 0) := by omega
  have hbig : ¬ (16777216 < i.size) := by omega
  have hfold : ∀ Z : Array Value, Z.size = i.size → Array.foldl (fun cs (x : Value × Nat) => cs.setIfInBounds x.2 x.1) Z cells.zipIdx 0 i.size = cells := fun Z hZ => by
    have h1 := fold_put cells.toList 0 Z
    rw [put_whole cells Z (by omega)] at h1
    rw [show i.size = cells.zipIdx.size from by simp [hc], ← Array.foldl_toList]
    simpa using h1
  simp [Instr.buildSlice, run_underlying ht, sizeOf, typeInfo, hi, hne, hbig, zeroValue, hz, Instr.fill, Value.cells, hc, newRow]
  rw [hfold _ (by simp)]

theorem wpList_buildSlice_one {ops : Array Oper} {rest : List Oper} {op : Oper} {a : Act} {Q : Exit → Act → World → Prop} (hgd : op.guard = none) (t e : TypeId) (x : Operand) (ho : op.op = .buildSlice t 1 #[(0, x)]) (i : TypeInfo) (z : Value) (k : Nat) (ht : P.underlying t = some (.slice e)) (hi : P.info? e = some i) (hz : i.zero = some z) (hs : i.size = k) (hk : 0 < k) (hk2 : k ≤ 16777216)
    (cells : Array Value) (hx : a.eval x = .agg cells) (hc : cells.size = k)
    (h : wpList P ops Q rest (a.put op.dst (.slice (some ⟨w.heap.size, 0, none⟩) 1 1)) (w.alloc (.cells cells e (0, 0)))) : wpList P ops Q (op :: rest) a w := by
  refine wpList_plain hgd fun K hK => ?_
  have hr := run_buildSlice_one (P := P) (w := w) t e i z k ht hi hz hs hk hk2 cells hc
  unfold Oper.wp
  simp [execOp, ho, hx, hr, Result.andThen]
  exact hK _ _ h
end
end Go.Proofs.YtdkiopajilakcaaGreat
/- A slice of two structs, made by a literal. -/
namespace Go.Proofs.YtdkiopajilakcaaGreat
open Go.RowKit
theorem fold_put_at (m : Nat) : ∀ (vs : List Value) (n : Nat) (Z : Array Value), (vs.zipIdx n).foldl (fun cs (x : Value × Nat) => cs.setIfInBounds (m + x.2) x.1) Z = putAt Z (m + n) vs
  | [], _, _ => rfl
  | v :: r, n, Z => by rw [List.zipIdx_cons, List.foldl_cons, fold_put_at m r (n + 1), putAt]; rfl

section
variable {P : Program} {w : World}
theorem run_buildSlice_two (t e : TypeId) (i : TypeInfo) (z : Value) (k : Nat) (ht : P.underlying t = some (.slice e)) (hi : P.info? e = some i) (hz : i.zero = some z) (hs : i.size = k) (hk : 0 < k) (hk2 : 2 * k ≤ 16777216)
    (cells cells2 : Array Value) (hc : cells.size = k) (hc2 : cells2.size = k) :
    (Instr.buildSlice t 2 #[(0, .agg cells), (1, .agg cells2)]).run P w = .ok (.slice (some ⟨w.heap.size, 0, none⟩) 2 2) (w.alloc (.cells (cells ++ cells2) e (0, 0))) := by
  subst hs
  have hbig : ¬ (16777216 < 2 * i.size) := by omega
  have h0 : ¬ (2 * i.size = 0) := by omega
  have h1 : ¬ (2 * i.size < i.size) := by omega
  have hf1 : ∀ Z : Array Value, Array.foldl (fun cs (x : Value × Nat) => cs.setIfInBounds x.2 x.1) Z cells.zipIdx 0 i.size = putAt Z 0 cells.toList := fun Z => by
    have h1 := fold_put cells.toList 0 Z
    rw [show i.size = cells.zipIdx.size from by simp [hc], ← Array.foldl_toList]
    simpa using h1
  have hf2 : ∀ Z : Array Value, Array.foldl (fun cs (x : Value × Nat) => cs.setIfInBounds (i.size + x.2) x.1) Z cells2.zipIdx 0 i.size = putAt Z i.size cells2.toList := fun Z => by
    have h1 := fold_put_at i.size cells2.toList 0 Z
    conv => lhs; rw [show (0 : Nat) = 0 from rfl]
    have h2 : Array.foldl (fun cs (x : Value × Nat) => cs.setIfInBounds (i.size + x.2) x.1) Z cells2.zipIdx 0 cells2.zipIdx.size = putAt Z i.size cells2.toList := by
      rw [← Array.foldl_toList]
      simpa using h1
    simpa [hc2] using h2
  have hsz : ∀ Z : Array Value, Z.size = 2 * i.size → (putAt Z 0 cells.toList).size = 2 * i.size := fun Z hZ => by rw [putAt_size, hZ]
  have hall : ∀ Z : Array Value, Z.size = 2 * i.size → putAt (putAt Z 0 cells.toList) i.size cells2.toList = cells ++ cells2 := fun Z hZ => by
    apply Array.ext'
    rw [putAt_toList _ _ _ (by rw [hsz Z hZ]; simp; omega), putAt_toList _ _ _ (by rw [hZ]; simp; omega)]
    have e1 : cells.toList.length = i.size := by simp [hc]
    have e2 : Z.toList.length = 2 * i.size := by simp [hZ]
    have e3 : cells2.toList.length = i.size := by simp [hc2]
    simp only [List.take_zero, List.nil_append, Array.toList_append]
    rw [List.take_left' e1, List.drop_eq_nil_of_le (by simp; omega), List.append_nil]
  simp [Instr.buildSlice, run_underlying ht, sizeOf, typeInfo, hi, hbig, hz, zeroValue, Instr.fill, Value.cells, hc, hc2, newRow, h0, h1, hf1, hf2]
  rw [if_neg (by rw [hsz _ (by simp)]; omega), hall _ (by simp)]
  rfl

theorem wpList_buildSlice_two {ops : Array Oper} {rest : List Oper} {op : Oper} {a : Act} {Q : Exit → Act → World → Prop} (hgd : op.guard = none) (t e : TypeId) (x y : Operand) (ho : op.op = .buildSlice t 2 #[(0, x), (1, y)]) (i : TypeInfo) (z : Value) (k : Nat) (ht : P.underlying t = some (.slice e)) (hi : P.info? e = some i) (hz : i.zero = some z) (hs : i.size = k) (hk : 0 < k) (hk2 : 2 * k ≤ 16777216)
    (cells cells2 : Array Value) (hx : a.eval x = .agg cells) (hy : a.eval y = .agg cells2) (hc : cells.size = k) (hc2 : cells2.size = k)
    (h : wpList P ops Q rest (a.put op.dst (.slice (some ⟨w.heap.size, 0, none⟩) 2 2)) (w.alloc (.cells (cells ++ cells2) e (0, 0)))) : wpList P ops Q (op :: rest) a w := by
  refine wpList_plain hgd fun K hK => ?_
  have hr := run_buildSlice_two (P := P) (w := w) t e i z k ht hi hz hs hk hk2 cells cells2 hc hc2
  unfold Oper.wp
  simp [execOp, ho, hx, hy, hr, Result.andThen]
  exact hK _ _ h
end
end Go.Proofs.YtdkiopajilakcaaGreat
/- A slice of some structs, made by a literal. -/
namespace Go.Proofs.YtdkiopajilakcaaGreat
open Go.RowKit

theorem putAt_append : ∀ (a b : List Value) (o : Nat) (Z : Array Value), putAt Z o (a ++ b) = putAt (putAt Z o a) (o + a.length) b
  | [], b, o, Z => by simp [putAt]
  | v :: r, b, o, Z => by
    rw [List.cons_append, putAt, putAt_append r b (o + 1), putAt]
    congr 1
    simp; omega
/-- The cells of structs, one behind the other. -/
def flatC (vs : List (Array Value)) : List Value := vs.flatMap (·.toList)
theorem flatC_len {k : Nat} : ∀ (vs : List (Array Value)), (∀ v ∈ vs, v.size = k) → (flatC vs).length = vs.length * k
  | [], _ => by simp [flatC]
  | v :: r, h => by
    have h1 := h v (by simp)
    have h2 := flatC_len r fun x hx => h x (by simp [hx])
    simp only [flatC, List.flatMap_cons, List.length_append, List.length_cons, Array.length_toList] at *
    rw [h1, h2, Nat.add_mul]
    omega
theorem fill_many (k : Nat) : ∀ (vs : List (Array Value)) (n : Nat) (Z : Array Value), (∀ v ∈ vs, v.size = k) → Z.size = (n + vs.length) * k →
    Instr.fill (fun i => some (i * k, k)) Z ((vs.zipIdx n).map fun p => (p.2, Value.agg p.1)) = some (putAt Z (n * k) (flatC vs))
  | [], _, _, _, _ => by simp [Instr.fill, flatC, putAt]
  | v :: r, n, Z, h, hZ => by
    have hv := h v (by simp)
    rw [List.zipIdx_cons, List.map_cons, Instr.fill]
    have hc : (Value.agg v).cells = v := rfl
    simp only [hc, hv]
    have hle : n * k + k ≤ Z.size := by
      rw [hZ, List.length_cons, Nat.add_mul]
      have : 1 * k ≤ (r.length + 1) * k := Nat.mul_le_mul_right _ (by omega)
      omega
    rw [if_neg (by simp; omega)]
    have hf : Array.foldl (fun (cs : Array Value) (x : Value × Nat) => cs.setIfInBounds (n * k + x.2) x.1) Z v.zipIdx = putAt Z (n * k) v.toList := by
      rw [← Array.foldl_toList]
      have := fold_put_at (n * k) v.toList 0 Z
      simpa using this
    have ih := fill_many k r (n + 1) (putAt Z (n * k) v.toList) (fun x hx => h x (by simp [hx])) (by rw [putAt_size, hZ, List.length_cons]; congr 1; omega)
    rw [hf, ih]
    have e : (n + 1) * k = n * k + v.toList.length := by rw [Nat.add_mul, Array.length_toList, hv]; omega
    rw [e, ← putAt_append]
    rfl

section
variable {P : Program} {w : World}
theorem run_buildSlice_many (t e : TypeId) (i : TypeInfo) (z : Value) (k n : Nat) (ht : P.underlying t = some (.slice e)) (hi : P.info? e = some i) (hz : i.zero = some z) (hs : i.size = k) (hk : 0 < k) (hn : 0 < n) (hk2 : n * k ≤ 16777216)
    (parts : Array (Nat × Value)) (vs : List (Array Value)) (hp : parts.toList = (vs.zipIdx 0).map fun p => (p.2, Value.agg p.1)) (hl : vs.length = n) (hc : ∀ v ∈ vs, v.size = k) :
    (Instr.buildSlice t n parts).run P w = .ok (.slice (some ⟨w.heap.size, 0, none⟩) n n) (w.alloc (.cells (flatC vs).toArray e (0, 0))) := by
  subst hs
  have hbig : ¬ (16777216 < n * i.size) := by omega
  have h0 : ¬ (n * i.size = 0) := by
    intro h
    rcases Nat.mul_eq_zero.1 h with h | h <;> omega
  have hw : ∀ Z : Array Value, Z.size = n * i.size → Instr.fill (fun j => some (j * i.size, i.size)) Z parts.toList = some (flatC vs).toArray := fun Z hZ => by
    rw [hp, fill_many i.size vs 0 Z hc (by rw [hZ, hl]; simp), Nat.zero_mul]
    have := put_whole (flatC vs).toArray Z (by rw [hZ]; simp [flatC_len vs hc, hl])
    rw [show (flatC vs).toArray.toList = flatC vs from rfl] at this
    rw [this]
  simp only [Instr.buildSlice, Sem.run_bind, run_underlying ht, Sem.run_pure, Result.andThen_ok, sizeOf, typeInfo]
  simp [hbig, h0, hz, zeroValue, typeInfo, hi, newRow]
  rw [hw _ (by simp)]
  simp

theorem wp_buildSlice_many {op : Oper} {a : Act} {K : Act → World → Prop} {Q : Exit → Act → World → Prop} (t e : TypeId) (xs : Array (Nat × Operand)) (n : Nat) (ho : op.op = .buildSlice t n xs) (i : TypeInfo) (z : Value) (k : Nat) (ht : P.underlying t = some (.slice e)) (hi : P.info? e = some i) (hz : i.zero = some z) (hs : i.size = k) (hk : 0 < k) (hn : 0 < n) (hk2 : n * k ≤ 16777216)
    (vs : List (Array Value)) (hp : (xs.toList.map fun q => (q.1, a.eval q.2)) = (vs.zipIdx 0).map fun p => (p.2, Value.agg p.1)) (hl : vs.length = n) (hc : ∀ v ∈ vs, v.size = k)
    (h : K (a.put op.dst (.slice (some ⟨w.heap.size, 0, none⟩) n n)) (w.alloc (.cells (flatC vs).toArray e (0, 0)))) : op.wp P a w K Q := by
  have hr := run_buildSlice_many (P := P) (w := w) t e i z k n ht hi hz hs hk hn hk2 (xs.map fun q => (q.1, a.eval q.2)) vs (by rw [Array.toList_map]; exact hp) hl hc
  unfold Oper.wp
  simp only [execOp, ho, Sem.run_bind, hr, Result.andThen_ok, Sem.run_pure]
  exact h
end
end Go.Proofs.YtdkiopajilakcaaGreat
/- The parts that a text consists of: what each begins with, and goes on with. -/
namespace Go.Proofs.YtdkiopajilakcaaGreat
open Go.RowKit

theorem hasB_eq (l : List UInt8) (hl : ∀ b ∈ l, b.toNat < 128) (c : Nat) : hasB l c = l.any (fun b => c == b.toNat) := by
  unfold hasB
  by_cases h : c < 128
  · have e : ∀ b ∈ l, (b == UInt8.ofNat c) = (c == b.toNat) := fun b _ => by
      have hc : (UInt8.ofNat c).toNat = c := by simp; omega
      rw [Bool.eq_iff_iff, beq_iff_eq, beq_iff_eq]
      exact ⟨fun e => by rw [e, hc], fun e => UInt8.toNat_inj.1 (by rw [hc, e])⟩
    have h1 : decide (c < 128) = true := by simpa using h
    rw [h1, Bool.true_and]
    clear h1
    induction l with
    | nil => rfl
    | cons b l ih =>
      rw [List.contains_cons, List.any_cons, ih (fun x hx => hl x (by simp [hx])) (fun x hx => e x (by simp [hx])), ← e b (by simp)]
      congr 1
      exact Bool.eq_iff_iff.2 ⟨fun h => by simpa using (by simpa using h : UInt8.ofNat c = b).symm, fun h => by simpa using (by simpa using h : b = UInt8.ofNat c).symm⟩
  · have h1 : decide (c < 128) = false := by simpa using h
    rw [h1, Bool.false_and]
    symm
    rw [List.any_eq_false]
    intro b hb
    have := hl b hb
    simp
    omega
theorem has_name : (fun c => hasB [45, 95] c) = fun c => (c == 45 || c == 95) := funext fun c => by
  rw [hasB_eq [45, 95] (by decide)]
  simp
theorem has_sign : hasB [123, 125, 59] = signB := funext fun c => by
  rw [hasB_eq [123, 125, 59] (by decide)]
  simp [signB]
theorem has_blank : hasB [32, 9, 10] = blankB := funext fun c => by
  rw [hasB_eq [32, 9, 10] (by decide)]
  simp [blankB]
theorem has_hash : hasB [35] = fun c => c == 35 := funext fun c => by
  rw [hasB_eq [35] (by decide)]
  simp
theorem has_feed : (fun c => !hasB [10] c) = fun c => c != 10 := funext fun c => by
  rw [hasB_eq [10] (by decide)]
  simp [bne]
theorem has_none : hasB [] = fun _ => false := funext fun c => by simp [hasB]

section
variable {w : World}
set_option maxHeartbeats 1000000 in
theorem ofName_any : Calls Tryz.prog 134 #[] w (NewSet w partB) := by
  have C1 := hide (letter_any (w := w))
  go_enter Tryz.func134, Tryz.ntmps134
  go_wp2_with (fail)
  refine C1.out.mono ?_
  rintro e w1 ⟨v1, rfl, hs1, hl1⟩
  have S1 := hide hs1
  have L1 := hide hl1
  clear hs1 hl1 C1
  go_wp2_with (fail)
  refine (digit_any (w := w1)).mono ?_
  rintro e w2 ⟨v2, rfl, hs2, hl2⟩
  have S2 := hide hs2
  have S12 := hide (S1.out.later hl2)
  have L2 := hide (L1.out.trans hl2)
  clear hs2 hl2 S1 L1
  go_wp2_with (fail)
  refine (among_any (w := w2) [45, 95] (by decide)).mono ?_
  rintro e w3 ⟨v3, rfl, hs3, hl3⟩
  have S3 := hide hs3
  have S23 := hide (S2.out.later hl3)
  have S13 := hide (S12.out.later hl3)
  have L3 := hide (L2.out.trans hl3)
  clear hs3 hl3 S2 S12 L2
  have HB : Hid (Later w3 (w3.alloc (.cells #[v1.val, v2.val, v3.val] 182 (0, 0)))) := (Below.refl _ _).alloc (Nat.le_refl _) _
  have X1 := hide (heap_alloc_new w3 (.cells #[v1.val, v2.val, v3.val] 182 (0, 0)))
  have H : Hid (SetsAt (w3.alloc (.cells #[v1.val, v2.val, v3.val] 182 (0, 0))) (.slice (some ⟨w3.heap.size, 0, none⟩) 3 3) [(v1, smallB), (v2, digitB), (v3, hasB [45, 95])]) := by
    refine ⟨⟨rfl, ?_, some ⟨w3.heap.size, 0, none⟩, 3, rfl, Nat.le_refl _, by unfold maxLen; omega, (fun h => by cases h), fun _ => ⟨w3.heap.size, 0, rfl, trivial, lt_of_block X1.out, fun j u hj => ?_⟩⟩, ?_⟩
    · intro u hu
      simp at hu
      rcases hu with rfl | rfl | rfl <;> rfl
    · rw [cell_of_row _ _ _ _ _ _ X1.out, Nat.zero_add]
      simpa using hj
    · intro p hp
      simp at hp
      rcases hp with rfl | rfl | rfl
      · exact S13.out.later HB.out
      · exact S23.out.later HB.out
      · exact S3.out.later HB.out
  have C := hide (either_any H.out rfl (by omega))
  clear X1 S3 S13 S23 H
  unfold SetV.val at *
  go_wp2_with (fail)
  refine C.out.mono ?_
  rintro e w4 ⟨v4, rfl, hs4, hl4⟩
  have S4 := hide hs4
  have L4 := hide (L3.out.trans (HB.out.trans hl4))
  clear hs4 hl4 C
  go_wp2
  go_ret
  refine ⟨v4, rfl, ?_, L4.out⟩
  have e : (fun c => [(v1, smallB), (v2, digitB), (v3, hasB [45, 95])].any (fun p => p.2 c)) = partB := funext fun c => by
    have := congrFun has_name c
    simp only [List.any_cons, List.any_nil, Bool.or_false, this]
    rfl
  have := S4.out
  rwa [e] at this
end
end Go.Proofs.YtdkiopajilakcaaGreat
/- The list of the parts of a text, in memory. -/
namespace Go.Proofs.YtdkiopajilakcaaGreat
open Go.RowKit

/-- A part: its kind, what it begins with, what it goes on with. -/
structure PartD where
  k : Nat
  b : SetV
  g : SetV
  fb : Nat → Bool
  fg : Nat → Bool
namespace PartD
def cells (p : PartD) : List Value := [.int .i64 (p.k : Int), p.b.val, p.g.val]
theorem one (p : PartD) : ∀ u ∈ p.cells, u.oneCell' = true := by simp [cells, SetV.val, Value.oneCell']
end PartD
def PartsAt (w : World) (v : Value) (l : List PartD) : Prop := FlatAt (fun _ => True) w 3 v l.length (l.flatMap PartD.cells) ∧ ∀ p ∈ l, SetAt w p.b p.fb ∧ SetAt w p.g p.fg
theorem PartsAt.later {w w' : World} {v : Value} {l : List PartD} (h : PartsAt w v l) (hl : Later w w') : PartsAt w' v l := ⟨h.1.kept (Kept.of_below hl _), fun p hp => ⟨(h.2 p hp).1.later hl, (h.2 p hp).2.later hl⟩⟩
theorem PartsAt.at_ {w : World} {A : Option Addr} {n cap : Nat} {l : List PartD} (h : PartsAt w (.slice A n cap) l) {i : Nat} (hi : i < n) :
    ∃ b off p, A = some ⟨b, off, none⟩ ∧ n ≤ cap ∧ l[i]? = some p ∧ b < w.heap.size ∧ w.rangeAt b (off + i * 3) p.cells ∧ SetAt w p.b p.fb ∧ SetAt w p.g p.fg := by
  have hn : n = l.length := by obtain ⟨A', c', e, _⟩ := h.1.shape; injection e
  subst hn
  obtain ⟨b, off, c, hv, hc, _, hb, hr⟩ := h.1.elem hi
  injection hv with e1 _ e3
  subst e1 e3
  have hp : l[i]? = some l[i] := List.getElem?_eq_getElem hi
  refine ⟨b, off, l[i], rfl, hc, hp, hb, ?_, h.2 _ (List.getElem_mem hi)⟩
  rwa [flat_get PartD.cells 3 l i l[i] (fun _ _ => rfl) hp] at hr
/-- Kinds, and what begins and goes on. -/
def sorts : List (Nat × (Nat → Bool) × (Nat → Bool)) := [(1, smallB, partB), (2, digitB, digitB), (3, signB, fun _ => false), (0, blankB, fun _ => false), (0, fun c => c == 35, fun c => c != 10)]
def SortsAt (w : World) (v : Value) : Prop := ∃ l : List PartD, PartsAt w v l ∧ l.map (fun p => (p.k, p.fb, p.fg)) = sorts
theorem SortsAt.later {w w' : World} {v : Value} (h : SortsAt w v) (hl : Later w w') : SortsAt w' v := let ⟨l, h1, h2⟩ := h; ⟨l, h1.later hl, h2⟩

section
variable {w : World}
theorem flat_many (w : World) (e k : Nat) (xs : List Value) (n : Nat) (hx : xs.length = n * k) (h1 : ∀ u ∈ xs, u.oneCell' = true) (hn : n ≤ 1000) :
    FlatAt (fun _ => True) (w.alloc (.cells xs.toArray e (0, 0))) k (.slice (some ⟨w.heap.size, 0, none⟩) n n) n xs := by
  have hb : (w.alloc (.cells xs.toArray e (0, 0))).heap[w.heap.size]? = some (.cells xs.toArray e (0, 0)) := heap_alloc_new _ _
  refine ⟨hx, h1, some ⟨w.heap.size, 0, none⟩, n, rfl, Nat.le_refl _, by unfold maxLen; omega, (fun h => by cases h), fun _ => ⟨w.heap.size, 0, rfl, trivial, lt_of_block hb, fun j u hj => ?_⟩⟩
  rw [cell_of_row _ _ _ _ _ _ hb, Nat.zero_add]
  simpa using hj

end
end Go.Proofs.YtdkiopajilakcaaGreat
/- Which part a byte begins; how many bytes of a text a part takes; tokens. -/
namespace Go.Proofs.YtdkiopajilakcaaGreat
open Go.RowKit

section
variable {w : World}
theorem range3 {b o : Nat} {p : PartD} (h : w.rangeAt b o p.cells) : w.cell? ⟨b, o, none⟩ = some (.int .i64 (p.k : Int)) ∧ w.cell? ⟨b, o + 1, none⟩ = some p.b.val ∧ w.cell? ⟨b, o + 2, none⟩ = some p.g.val :=
  ⟨by simpa using h 0 _ rfl, by simpa using h 1 _ rfl, by simpa using h 2 _ rfl⟩
theorem later_cell {W w' : World} {b o : Nat} {v : Value} (h : Later W w') (hc : W.cell? ⟨b, o, none⟩ = some v) : w'.cell? ⟨b, o, none⟩ = some v := by
  have hb : b < W.heap.size := by
    rcases Nat.lt_or_ge b W.heap.size with h1 | h1
    · exact h1
    · simp [World.cell?, Array.getElem?_eq_none h1] at hc
  exact (Below.cell h (p := ⟨b, o, none⟩) hb).trans hc
theorem wrap32 (x : Nat) (h : x < 2147483648) : IntKind.i32.wrap (x : Int) = (x : Int) := by
  unfold IntKind.wrap
  simp [IntKind.bits, IntKind.signed]
  omega
/-- A byte of the text. -/
theorem byte_at (s : ByteArray) (q : Nat) (h : q < s.size) : ∃ c : UInt8, s.data.toList[q]? = some c ∧ (s[q]'h).toNat = c.toNat ∧ c.toNat < 256 := ⟨s[q]'h, by
  show s.data.toList[q]? = some (s.data[q]'h)
  rw [Array.getElem?_toList, Array.getElem?_eq_getElem], rfl, (s[q]'h).toNat_lt⟩

end
end Go.Proofs.YtdkiopajilakcaaGreat
/- A name, told by a range over the text. -/
namespace Go.Proofs.YtdkiopajilakcaaGreat
open Go.RowKit

theorem small_part {c : Nat} (h : smallB c = true) : partB c = true := by simp [partB, h]
theorem part_low {c : Nat} (h : partB c = true) : c < 128 := by
  simp only [partB, smallB, digitB, Bool.or_eq_true, Bool.and_eq_true, decide_eq_true_eq, beq_iff_eq] at h
  omega
theorem high_no {c : Nat} (h : 128 ≤ c) : smallB c = false ∧ partB c = false := by
  have h2 : partB c = false := by
    cases h3 : partB c with
    | false => rfl
    | true => have := part_low h3; omega
  refine ⟨?_, h2⟩
  cases h3 : smallB c with
  | false => rfl
  | true => rw [small_part h3] at h2; cases h2
theorem nameF_iff (L : List UInt8) : nameF L = true ↔ 1 ≤ L.length ∧ L.length ≤ 16 ∧ (∀ c, L[0]? = some c → smallB c.toNat = true) ∧ ∀ c ∈ L, partB c.toNat = true := by
  cases L with
  | nil => simp [nameF]
  | cons b r =>
    simp only [nameF, Bool.and_eq_true, decide_eq_true_eq, List.all_eq_true, List.length_cons, List.getElem?_cons_zero, List.mem_cons]
    constructor
    · rintro ⟨h1, h2, h3⟩
      refine ⟨by omega, by omega, ?_, ?_⟩
      · rintro c ⟨⟩
        exact h2
      · rintro c (rfl | hc)
        · exact small_part h2
        · exact h3 c hc
    · rintro ⟨_, h1, h2, h3⟩
      exact ⟨by omega, h2 b rfl, fun c hc => h3 c (.inr hc)⟩
theorem nameF_not {L : List UInt8} {c : UInt8} {q : Nat} (h : L[q]? = some c) (hp : partB c.toNat = false) : nameF L = false := by
  cases hn : nameF L with
  | false => rfl
  | true =>
    have := ((nameF_iff L).1 hn).2.2.2 c (List.mem_of_getElem? h)
    rw [this] at hp
    cases hp
theorem nameF_not0 {L : List UInt8} {c : UInt8} (h : L[0]? = some c) (hp : smallB c.toNat = false) : nameF L = false := by
  cases hn : nameF L with
  | false => rfl
  | true =>
    have := ((nameF_iff L).1 hn).2.2.1 c h
    rw [this] at hp
    cases hp

section
variable {w : World}
/-- What a range over a text tells at a place. -/
theorem next_at (wr : World) (g pos : Nat) (s : ByteArray) (c : UInt8) (hit : wr.heap[g]? = some (.stringIter s pos)) (hp : pos < s.size) (hc : s.data.toList[pos]? = some c) :
    ∃ x wd : Nat, (∀ ty, (Instr.next (.pointer (some ⟨g, 0, none⟩)) true ty).run Tryz.prog wr = .ok (.tuple #[.bool true, .int .i64 (pos : Int), .int .i32 (x : Int)]) (wr.iterAt g s (pos + wd))) ∧ smallB x = smallB c.toNat ∧ partB x = partB c.toNat ∧ x < 2147483648 ∧ (partB c.toNat = true → wd = 1) := by
  obtain ⟨c', hc', hx, h256⟩ := byte_at s pos hp
  obtain rfl : c = c' := by rw [hc] at hc'; injection hc'
  by_cases h : c.toNat < 128
  · refine ⟨c.toNat, 1, fun ty => ?_, rfl, rfl, by omega, fun _ => rfl⟩
    rw [Lib.run_next_ascii_at wr g s pos ty hit hp (by rw [hx]; exact h), hx]
  · refine ⟨(Utf8.decode s pos).1, (Utf8.decode s pos).2, fun ty => Lib.run_next_any_at wr g s pos ty hit hp, ?_, ?_, ?_, ?_⟩
    · rw [(high_no (decode_high s pos hp (by rw [hx]; omega)).1).1, (high_no (c := c.toNat) (by omega)).1]
    · rw [(high_no (decode_high s pos hp (by rw [hx]; omega)).1).2, (high_no (c := c.toNat) (by omega)).2]
    · have := decode_le s pos
      omega
    · intro h2
      rw [(high_no (c := c.toNat) (by omega)).2] at h2
      cases h2

set_option maxHeartbeats 4000000 in
set_option maxRecDepth 100000 in
theorem name_any (s : ByteArray) : Calls Tryz.prog 115 #[.string s] w fun e w' => e = .returned (.bool (nameF s.data.toList)) ∧ Later w w' := by
  obtain ⟨L, hL⟩ : ∃ L, L = s.data.toList := ⟨_, rfl⟩
  have hlen : L.length = s.size := by rw [hL, Array.length_toList]; rfl
  rw [← hL]
  have HL := hide hL
  have HLEN := hide hlen
  have L0 := hide (Later.refl w)
  by_cases h1 : s.size < 1
  · have hb : (s.size : Int) < 1 := by omega
    have hf : nameF L = false := by
      cases hn : nameF L with
      | false => rfl
      | true => have := ((nameF_iff L).1 hn).1; omega
    rw [hf]
    clear hL hlen hf
    go_enter Tryz.func115, Tryz.ntmps115
    go_wp2
    go_ret
    exact ⟨rfl, L0.out⟩
  · have hb : ¬ (s.size : Int) < 1 := by omega
    by_cases h2 : 16 < s.size
    · have hb2 : 16 < (s.size : Int) := by omega
      have hf : nameF L = false := by
        cases hn : nameF L with
        | false => rfl
        | true => have := ((nameF_iff L).1 hn).2.1; omega
      rw [hf]
      clear hL hlen hf
      go_enter Tryz.func115, Tryz.ntmps115
      go_wp2
      go_ret
      exact ⟨rfl, L0.out⟩
    · have hb2 : ¬ 16 < (s.size : Int) := by omega
      clear hL hlen
      go_enter Tryz.func115, Tryz.ntmps115
      go_wp2_with (fail)
      refine (letter_any (w := w)).mono ?_
      rintro e w1 ⟨v1, rfl, hs1, hl1⟩
      have S1 := hide hs1
      have L1 := hide hl1
      clear hs1 hl1
      go_wp2_with (fail)
      refine (ofName_any (w := w1)).mono ?_
      rintro e w2 ⟨v2, rfl, hs2, hl2⟩
      have S2 := hide hs2
      have S12 := hide (S1.out.later hl2)
      have L2 := hide (L1.out.trans hl2)
      have eg1 := S1.out.1
      have eg2 := hs2.1
      unfold Enters at eg1 eg2
      clear hs2 hl2 S1 L1
      obtain ⟨F1, cs1⟩ := v1
      obtain ⟨F2, cs2⟩ := v2
      simp only [SetV.val]
      simp only at eg1 eg2
      go_wp2_with (fail)
      go_loopw [] (fun wr => ∃ pos : Nat, pos ≤ L.length ∧ (∀ c ∈ L.take pos, partB c.toNat = true) ∧ (0 < pos → ∀ c, L[0]? = some c → smallB c.toNat = true) ∧ wr.heap[w2.heap.size]? = some (.stringIter s pos) ∧ Later w2 wr) (fun wr => s.size - wr.iterPos w2.heap.size)
      case atStart => exact ⟨0, by omega, by simp, by simp, World.iter_heap w2 s 0, (Below.refl _ _).alloc (Nat.le_refl _) _⟩
      case round =>
        obtain ⟨pos, hpl, hall, hfirst, hit, hlat⟩ := hrel
        have HA := hide hall
        have HF := hide hfirst
        have HL2 := hide hlat
        have HIT := hide hit
        clear hall hfirst hlat
        have hsz : w2.heap.size < wr.heap.size := (Array.getElem?_eq_some_iff.1 hit).1
        by_cases hp : pos < s.size
        · obtain ⟨c, hc⟩ : ∃ c, L[pos]? = some c := ⟨_, List.getElem?_eq_getElem (by have := HLEN.out; omega)⟩
          obtain ⟨x, wd, hnx, hsm, hpa, hx, hw1⟩ := next_at wr w2.heap.size pos s c hit hp (by rw [← HL.out]; exact hc)
          have LW : Hid (Later w2 (wr.iterAt w2.heap.size s (pos + wd))) := Lib.below_iterAt HL2.out (Nat.le_refl _) s (pos + wd)
          have C1 := hide (S12.out.2 (wr.iterAt w2.heap.size s (pos + wd)) x LW.out hx)
          have HC := hide hc
          have HW := hide hw1
          have HIT2 := hide (Lib.iterAt_heap wr w2.heap.size s pos (pos + wd) hit)
          rw [hsm] at C1
          obtain ⟨W3, hW3⟩ : ∃ W3, W3 = wr.iterAt w2.heap.size s (pos + wd) := ⟨_, rfl⟩
          rw [← hW3] at hnx LW C1 HIT2
          have CP : ∀ W', Later W3 W' → Calls Tryz.prog F2 (#[.int .i32 (x : Int)] ++ cs2) W' fun e w' => e = .returned (.bool (partB c.toNat)) ∧ Later W' w' := fun W' h => by
            rw [← hpa]
            exact S2.out.2 W' x (LW.out.trans h) hx
          have HCP := hide CP
          have hitsz : w2.heap.size < W3.heap.size := (Array.getElem?_eq_some_iff.1 HIT2.out).1
          clear hit hc hw1 hsm hpa hW3 CP
          by_cases hp0 : pos = 0
          · have hpb : ((pos : Int) == 0) = true := by rw [beq_iff_eq]; omega
            have HP0 := hide hp0
            clear hp0
            cases hf1 : smallB c.toNat with
            | false =>
              rw [hf1] at C1
              go_wp2_with (fail)
              refine C1.out.mono ?_
              rintro e w4 ⟨rfl, hl4⟩
              go_wp2_with (fail)
              go_ret
              exact ⟨ret_bool (nameF_not0 (by rw [← HP0.out]; exact HC.out) hf1).symm, L2.out.trans (LW.out.trans hl4)⟩
            | true =>
              have hf2 := small_part hf1
              rw [hf1] at C1
              go_wp2_with (fail)
              refine C1.out.mono ?_
              rintro e w4 ⟨rfl, hl4⟩
              have C2 := hide (HCP.out w4 hl4)
              rw [hf2] at C2
              have HL4 := hide hl4
              clear hl4
              go_wp2_with (fail)
              refine C2.out.mono ?_
              rintro e w5 ⟨rfl, hl5'⟩
              have hl5 := HL4.out.trans hl5'
              go_wp2_with (fail)
              go_roundw
              case rel =>
                have hwd := HW.out hf2
                subst hwd
                refine ⟨pos + 1, by have := HLEN.out; omega, ?_, ?_, (Below.block hl5 _ hitsz).trans HIT2.out, LW.out.trans hl5⟩
                · intro y hy
                  rw [List.take_add_one, HC.out] at hy
                  simp only [Option.toList_some, List.mem_append, List.mem_singleton] at hy
                  rcases hy with hy | rfl
                  · exact HA.out y hy
                  · exact hf2
                · exact fun _ y hy => by rw [← HP0.out, HC.out] at hy; injection hy with hy; rw [← hy]; exact hf1
              case measure =>
                have hwd := HW.out hf2
                subst hwd
                have e1 : wr.iterPos w2.heap.size = pos := by simp only [World.iterPos, HIT.out]
                have e2 : w5.iterPos w2.heap.size = pos + 1 := by simp only [World.iterPos, (Below.block hl5 _ hitsz).trans HIT2.out]
                rw [e1, e2]
                omega
          · have hpb : ((pos : Int) == 0) = false := by rw [beq_eq_false_iff_ne]; omega
            have C2 := hide (HCP.out W3 (Later.refl _))
            have HP0 := hide hp0
            clear hp0
            cases hf2 : partB c.toNat with
            | false =>
              rw [hf2] at C2
              go_wp2_with (fail)
              refine C2.out.mono ?_
              rintro e w4 ⟨rfl, hl4⟩
              go_wp2_with (fail)
              go_ret
              exact ⟨ret_bool (nameF_not HC.out hf2).symm, L2.out.trans (LW.out.trans hl4)⟩
            | true =>
              rw [hf2] at C2
              go_wp2_with (fail)
              refine C2.out.mono ?_
              rintro e w5 ⟨rfl, hl5⟩
              go_wp2_with (fail)
              go_roundw
              case rel =>
                have hwd := HW.out hf2
                subst hwd
                refine ⟨pos + 1, by have := HLEN.out; omega, ?_, ?_, (Below.block hl5 _ hitsz).trans HIT2.out, LW.out.trans hl5⟩
                · intro y hy
                  rw [List.take_add_one, HC.out] at hy
                  simp only [Option.toList_some, List.mem_append, List.mem_singleton] at hy
                  rcases hy with hy | rfl
                  · exact HA.out y hy
                  · exact hf2
                · exact fun _ => HF.out (by have := HP0.out; omega)
              case measure =>
                have hwd := HW.out hf2
                subst hwd
                have e1 : wr.iterPos w2.heap.size = pos := by simp only [World.iterPos, HIT.out]
                have e2 : w5.iterPos w2.heap.size = pos + 1 := by simp only [World.iterPos, (Below.block hl5 _ hitsz).trans HIT2.out]
                rw [e1, e2]
                omega
        · have hnx : ∀ ty, (Instr.next (.pointer (some ⟨w2.heap.size, 0, none⟩)) true ty).run Tryz.prog wr = _ := fun ty => Lib.run_next_end_at wr w2.heap.size s pos ty hit hp
          have hf : nameF L = true := by
            have hpe : pos = L.length := by have := HLEN.out; omega
            rw [nameF_iff]
            refine ⟨by have := HLEN.out; omega, by have := HLEN.out; omega, HF.out (by have := HLEN.out; omega), ?_⟩
            have := HA.out
            rwa [hpe, List.take_length] at this
          go_wp2_with (fail)
          go_ret
          exact ⟨ret_bool hf.symm, L2.out.trans HL2.out⟩
end
end Go.Proofs.YtdkiopajilakcaaGreat
/- What == and != give at steps. -/
namespace Go.Proofs.YtdkiopajilakcaaGreat.Sd
open Go.RowKit

theorem toList_inj {a b : ByteArray} : a.toList = b.toList ↔ a = b := by
  rw [ByteArray.toList_eq, ByteArray.toList_eq]
  obtain ⟨⟨x⟩⟩ := a
  obtain ⟨⟨y⟩⟩ := b
  simp
theorem str_eq (a b : ByteArray) : (a.toList == b.toList) = decide (a = b) := by
  rw [Bool.eq_iff_iff, beq_iff_eq, decide_eq_true_eq, toList_inj]
theorem step_iff (s t : StepD) : s = t ↔ s.name.toList = t.name.toList ∧ s.stub = t.stub ∧ s.retry = t.retry ∧ s.wait = t.wait ∧ s.undo = t.undo ∧ s.pivot = t.pivot := by
  rw [toList_inj]
  obtain ⟨a, b, c, d, e, f⟩ := s
  obtain ⟨a', b', c', d', e', f'⟩ := t
  simp

theorem eql_step (s t : StepD) (w : World) : (binOp .eql 79 (.agg (s.cells).toArray) (.agg (t.cells).toArray)).run Tryz.prog w = .ok (.bool (decide (s = t))) w := by
  have u3 := Tryz.underlying3
  have u4 := Tryz.underlying4
  have u9 := Tryz.underlying9
  have hS : Tryz.prog.underlying 79 = some (.struct (Tryz.prog.fieldsOf 79)) := by kernel_rfl
  have hp : Tryz.prog.stoodInHeld 79 = false := by kernel_rfl
  simp only [StepD.cells]
  rw [run_eql_struct, show (10000 : Nat) = 9999 + 1 from rfl, run_equalIn_struct w 9999 79 _ _ hS hp]
  simp only [Program.fieldsOf, Tryz.underlying79]
  go_simp
  have hi := step_iff s t
  by_cases h0 : s.name.toList = t.name.toList <;> by_cases h1 : s.stub = t.stub <;> by_cases h2 : s.retry = t.retry <;> by_cases h3 : s.wait = t.wait <;> by_cases h4 : s.undo = t.undo <;> by_cases h5 : s.pivot = t.pivot <;> simp [hi, h0, h1, h2, h3, h4, h5]

theorem neq_step (s t : StepD) (w : World) : (binOp .neq 79 (.agg (s.cells).toArray) (.agg (t.cells).toArray)).run Tryz.prog w = .ok (.bool (!decide (s = t))) w := by
  have u3 := Tryz.underlying3
  have u4 := Tryz.underlying4
  have u9 := Tryz.underlying9
  have hS : Tryz.prog.underlying 79 = some (.struct (Tryz.prog.fieldsOf 79)) := by kernel_rfl
  have hp : Tryz.prog.stoodInHeld 79 = false := by kernel_rfl
  simp only [StepD.cells]
  rw [run_neq_struct, show (10000 : Nat) = 9999 + 1 from rfl, run_equalIn_struct w 9999 79 _ _ hS hp]
  simp only [Program.fieldsOf, Tryz.underlying79]
  go_simp
  have hi := step_iff s t
  by_cases h0 : s.name.toList = t.name.toList <;> by_cases h1 : s.stub = t.stub <;> by_cases h2 : s.retry = t.retry <;> by_cases h3 : s.wait = t.wait <;> by_cases h4 : s.undo = t.undo <;> by_cases h5 : s.pivot = t.pivot <;> simp [hi, h0, h1, h2, h3, h4, h5]

end Go.Proofs.YtdkiopajilakcaaGreat.Sd
/- A region whose order is open, of calls that write what was there before: what reads the same in all worlds may come up at once; from some point on text Order's laws take over. -/
namespace Go.Proofs.YtdkiopajilakcaaGreat
open Go.RowKit

section
variable {P : Program} {ops : Array Oper} {Q : Exit → Act → World → Prop} {md : Region.Mode}

/-- Whatever order is picked from here on, and behind each operation the world is a later one. -/
def wpAnyT (P : Program) (md : Region.Mode) (ops : Array Oper) (Q : Exit → Act → World → Prop) : Nat → Array Bool → Act → World → Prop
  | 0, listed, a, w => Region.ready md ops listed = [] ∧ Q .normal a w
  | fuel + 1, listed, a, w =>
    (Region.ready md ops listed = [] → Q .normal a w) ∧
    ∀ i ∈ Region.ready md ops listed, wpOp P ops Q i (wpAnyT P md ops Q fuel (listed.setIfInBounds i true)) a w

theorem wpAny_of_T : ∀ (fuel : Nat) (listed : Array Bool) (a : Act) (w : World), wpAnyT P md ops Q fuel listed a w → wpAny P md ops Q fuel listed a w
  | 0, _, _, _, h => h
  | fuel + 1, _, _, _, h => ⟨h.1, fun i hi => wpOp_mono (fun a' w' h' => wpAny_of_T fuel _ a' w' h') (h.2 i hi)⟩

/-- From here on what was there stays: operations that read it may come up at once. -/
theorem wpAnyT_of_L : ∀ (fuel : Nat) (listed : Array Bool) (a : Act) (w : World), wpAnyL P md ops Q fuel listed a w → wpAnyT P md ops Q fuel listed a w
  | 0, _, _, _, h => h
  | fuel + 1, _, _, _, h => ⟨h.1, fun i hi => wpOp_mono (fun a' w' h' => wpAnyT_of_L fuel _ a' w' h'.2) (h.2 i hi)⟩

/-- Such an operation, if it may come up, may come up at once. -/
theorem wpAnyT_first {i : Nat} {oi : Oper} {v : Value} (hi : ops[i]? = some oi) (hsel : ∀ (j : Nat) (o : Oper) cs b, ops[j]? = some o → o.op ≠ .select cs b)
    (hQ : ∀ c a w, Q (.panic c) (a.put oi.dst v) w → Q (.panic c) a w) :
    ∀ (fuel : Nat) (listed : Array Bool) (a : Act) (w : World),
      (∀ j oj, ops[j]? = some oj → j ≠ i → listed.getD j true = false → (∀ e ∈ oj.after, Region.binds md e = true → e.on ≠ i) → oi.apart ops oj = true) →
      i ∈ Region.ready md ops listed → YieldsIf P ops (fun _ => True) oi v a →
      wpAnyT P md ops Q fuel (listed.setIfInBounds i true) (a.put oi.dst v) w → wpAnyT P md ops Q (fuel + 1) listed a w := by
  intro fuel
  induction fuel with
  | zero =>
    intro listed a w _ hr hy H
    refine ⟨fun h => (by rw [h] at hr; cases hr), fun j hj => ?_⟩
    by_cases hji : j = i
    · subst hji
      exact hy.wpOp hi trivial H
    · have := ready_mono hj hji
      rw [H.1] at this
      cases this
  | succ fuel ih =>
    intro listed a w hfree hr hy H
    refine ⟨fun h => (by rw [h] at hr; cases hr), fun j hj => ?_⟩
    by_cases hji : j = i
    · subst hji
      exact hy.wpOp hi trivial H
    · have h1 := H.2 j (ready_mono hj hji)
      obtain ⟨hjun, oj, hoj, hall⟩ := mem_ready.1 hj
      have hnot : ∀ e ∈ oj.after, Region.binds md e = true → e.on ≠ i := fun e he hb heq => by
        have q1 := hall e he hb
        have q0 := (mem_ready.1 hr).1
        rw [heq] at q1
        rcases Nat.lt_or_ge i listed.size with h' | h'
        · simp [h'] at q0 q1
          rw [q0] at q1
          cases q1
        · simp [Array.getElem?_eq_none h'] at q1
      have h2 := wpOp_putIf hoj (hfree j oj hoj hji hjun hnot) (fun cs b => hsel i oi cs b hi) (fun cs b => hsel j oj cs b hoj) hQ hy h1
      have hfree' : ∀ k ok, ops[k]? = some ok → k ≠ i → (listed.setIfInBounds j true).getD k true = false →
          (∀ e ∈ ok.after, Region.binds md e = true → e.on ≠ i) → oi.apart ops ok = true := fun k ok hk hki hun hno => by
        refine hfree k ok hk hki ?_ hno
        by_cases hjk : j = k
        · subst hjk; exact hjun
        · rw [getD_set_ne true hjk] at hun; exact hun
      refine wpOp_mono (fun a' w' h3 => ih (listed.setIfInBounds j true) a' w' hfree' (ready_mono hr (Ne.symm hji)) h3.1 ?_) h2
      rw [Array.setIfInBounds_comm _ _ hji]
      exact h3.2

/-- The moves: an operation that may come up at once; the one that must; the end; the beginning. -/
theorem wpAnyT_take {i : Nat} {oi : Oper} {d : Option Tmp} {v : Value} {fuel : Nat} {listed : Array Bool} {a : Act} {w : World} (hi : ops[i]? = some oi) (hd : oi.dst = d)
    (hs : Region.noSelect ops = true) (hf : Region.free md ops listed i = true) (hr : (Region.ready md ops listed).contains i = true)
    (hQ : ∀ c a w, Q (.panic c) (a.put d v) w → Q (.panic c) a w) (hw : Region.wanted oi (yielded ops a.tmps) = true) (hy : ∀ w', (execOp a.eval oi).run P w' = .ok (.value v) w')
    (h : wpAnyT P md ops Q fuel (listed.setIfInBounds i true) (a.put d v) w) : wpAnyT P md ops Q (fuel + 1) listed a w := by
  subst hd
  exact wpAnyT_first hi (Region.noSelect_spec hs) hQ fuel listed a w (Region.free_spec hi hf) (by simpa using hr) (.inl ⟨hw, fun w' _ => hy w'⟩) h

theorem wpAnyT_pass {i : Nat} {oi : Oper} {d : Option Tmp} {fuel : Nat} {listed : Array Bool} {a : Act} {w : World} (hi : ops[i]? = some oi) (hd : oi.dst = d)
    (hs : Region.noSelect ops = true) (hf : Region.free md ops listed i = true) (hr : (Region.ready md ops listed).contains i = true)
    (hQ : ∀ c a w, Q (.panic c) (a.put d undef) w → Q (.panic c) a w) (hw : Region.wanted oi (yielded ops a.tmps) = false)
    (h : wpAnyT P md ops Q fuel (listed.setIfInBounds i true) (a.put d undef) w) : wpAnyT P md ops Q (fuel + 1) listed a w := by
  subst hd
  exact wpAnyT_first hi (Region.noSelect_spec hs) hQ fuel listed a w (Region.free_spec hi hf) (by simpa using hr) (.inr ⟨hw, rfl⟩) h

theorem wpAnyT_only {i : Nat} {o : Oper} {fuel : Nat} {listed : Array Bool} {a : Act} {w : World} (ho : ops[i]? = some o) (hr : Region.ready md ops listed = [i]) (hw : Region.wanted o (yielded ops a.tmps) = true)
    (h : ∀ K' : Act → World → Prop, Hid (∀ a' w', wpAnyT P md ops Q fuel (listed.setIfInBounds i true) a' w' → K' a' w') → Oper.wp P o a w K' Q) : wpAnyT P md ops Q (fuel + 1) listed a w := by
  refine ⟨fun h0 => absurd (hr ▸ h0) (by simp), fun j hj => ?_⟩
  rw [hr] at hj
  obtain rfl : j = i := by simpa using hj
  refine wpOp_step ho fun K' hK => ?_
  rw [if_pos hw]
  exact h K' fun a' w' hn => hK a' w' hn

theorem wpAnyT_two {i j : Nat} {oi oj : Oper} {fuel : Nat} {listed : Array Bool} {a : Act} {w : World} (hoi : ops[i]? = some oi) (hoj : ops[j]? = some oj) (hr : Region.ready md ops listed = [i, j])
    (hwi : Region.wanted oi (yielded ops a.tmps) = true) (hwj : Region.wanted oj (yielded ops a.tmps) = true)
    (hi : ∀ K' : Act → World → Prop, Hid (∀ a' w', wpAnyT P md ops Q fuel (listed.setIfInBounds i true) a' w' → K' a' w') → Oper.wp P oi a w K' Q)
    (hj : ∀ K' : Act → World → Prop, Hid (∀ a' w', wpAnyT P md ops Q fuel (listed.setIfInBounds j true) a' w' → K' a' w') → Oper.wp P oj a w K' Q) : wpAnyT P md ops Q (fuel + 1) listed a w := by
  refine ⟨fun h0 => absurd (hr ▸ h0) (by simp), fun k hk => ?_⟩
  rw [hr] at hk
  rcases List.mem_cons.1 hk with rfl | hk
  · refine wpOp_step hoi fun K' hK => ?_
    rw [if_pos hwi]
    exact hi K' fun a' w' hn => hK a' w' hn
  · obtain rfl : k = j := by simpa using hk
    refine wpOp_step hoj fun K' hK => ?_
    rw [if_pos hwj]
    exact hj K' fun a' w' hn => hK a' w' hn

theorem wpAnyT_done {listed : Array Bool} {a : Act} {w : World} (hr : Region.ready md ops listed = []) (h : Q .normal a w) : ∀ fuel, wpAnyT P md ops Q fuel listed a w
  | 0 => ⟨hr, h⟩
  | _ + 1 => ⟨fun _ => h, by rw [hr]; simp⟩

theorem wp_region_T {id : Nat} {a : Act} {w : World} (hm : P.follows .mixedOrders = true)
    (h : wpAnyT P .any ops Q ops.size (Array.replicate ops.size false) a w.drew) : (Code.region id ops true).wp P Q a w :=
  wp_region_any hm (wpAny_of_T _ _ _ _ h)
end

end Go.Proofs.YtdkiopajilakcaaGreat
/- slices.Equal at steps, the document's SameDef. -/
namespace Go.Proofs.YtdkiopajilakcaaGreat.Sd
open Go.RowKit

/-- The first k are alike. -/
def Alike {α : Type} (l m : List α) (k : Nat) : Prop := ∀ i, i < k → l[i]? = m[i]?
section
variable {α : Type} {l m : List α} {k : Nat}
theorem Alike.zero (l m : List α) : Alike l m 0 := fun i hi => by omega
theorem Alike.next (h : Alike l m k) (he : l[k]? = m[k]?) : Alike l m (k + 1) := fun i hi => by
  by_cases hk : i = k
  · rw [hk, he]
  · exact h i (by omega)
theorem Alike.all (h : Alike l m k) (h1 : l.length = k) (h2 : m.length = k) : l = m := by
  apply List.ext_getElem?
  intro i
  by_cases hi : i < k
  · exact h i hi
  · rw [List.getElem?_eq_none (by omega), List.getElem?_eq_none (by omega)]
theorem ne_at {x y : α} (hx : l[k]? = some x) (hy : m[k]? = some y) (hne : x ≠ y) : l ≠ m := by
  rintro rfl
  rw [hx] at hy
  exact hne (Option.some.inj hy)
end
theorem neq_step_same (s : StepD) (w : World) : (binOp .neq 79 (.agg (s.cells).toArray) (.agg (s.cells).toArray)).run Tryz.prog w = .ok (.bool false) w := by rw [neq_step]; simp
theorem neq_step_other {s t : StepD} (h : s ≠ t) (w : World) : (binOp .neq 79 (.agg (s.cells).toArray) (.agg (t.cells).toArray)).run Tryz.prog w = .ok (.bool true) w := by rw [neq_step]; simp [h]

set_option maxHeartbeats 1000000 in
theorem same_def (F G : Nat → Prop) (a1 a2 : ByteArray) (v v2 : Value) (l m : List StepD) (w : World) (hl : StepsAt F w v l) (hm : StepsAt G w v2 m) :
    Calls Tryz.prog 56 #[.agg #[.string a1, v], .agg #[.string a2, v2]] w fun e w' => e = .returned (.bool (decide (a1 = a2 ∧ l = m))) ∧ Below w.heap.size w w' := by
  obtain ⟨A, c, rfl, h1, h2, _⟩ := FlatAt.shape hl
  obtain ⟨A2, c2, rfl, h3, h4, _⟩ := FlatAt.shape hm
  unfold maxLen at h2 h4
  obtain ⟨n, hn⟩ : ∃ n, l.length = n := ⟨_, rfl⟩
  obtain ⟨n2, hn2⟩ : ∃ n2, m.length = n2 := ⟨_, rfl⟩
  rw [hn] at h1 hl ⊢
  rw [hn2] at h3 hm ⊢
  have hbw : Below w.heap.size w ((w.alloc (.cells #[.string a1, .slice A n c] 35 (0, 0))).alloc (.cells #[.string a2, .slice A2 n2 c2] 35 (0, 0))) := ((Below.refl _ _).alloc (Nat.le_refl _) _).alloc (by simp) _
  have H1 := hide (hl.kept (Kept.of_below hbw F))
  have H2 := hide (hm.kept (Kept.of_below hbw G))
  have HBW := hide hbw
  have HN := hide hn
  have HN2 := hide hn2
  clear hl hm hbw hn hn2
  by_cases ha : a1 = a2
  · subst ha
    have hs1 : (a1.toList == a1.toList) = true := by simp
    have hs2 : (a1.toList != a1.toList) = false := by simp
    by_cases hnm : n = n2
    · subst hnm
      have ht : ((n : Int) != (n : Int)) = false := by simp
      go_enter Tryz.func56, Tryz.ntmps56
      go_wp2
      have cA : ((w.alloc (.cells #[.string a1, .slice A n c] 35 (0, 0))).alloc (.cells #[.string a1, .slice A2 n c2] 35 (0, 0))).cell? ⟨w.heap.size, 1, none⟩ = some (.slice A n c) := cell_of_row _ _ 1 _ _ _ ((Below.block ((Below.refl _ _).alloc (Nat.le_refl _) _) w.heap.size (by simp)).trans (heap_alloc_new w _))
      have cB : ((w.alloc (.cells #[.string a1, .slice A n c] 35 (0, 0))).alloc (.cells #[.string a1, .slice A2 n c2] 35 (0, 0))).cell? ⟨w.heap.size + 1, 1, none⟩ = some (.slice A2 n c2) := cell_of_row _ _ 1 _ _ _ (heap_alloc2_new w _ _)
      generalize ((w.alloc (.cells #[.string a1, .slice A n c] 35 (0, 0))).alloc (.cells #[.string a1, .slice A2 n c2] 35 (0, 0))) = W at H1 H2 HBW cA cB ⊢
      go_loopw [23] (fun i wr => ∃ k : Nat, k ≤ n ∧ i = .int .i64 (k : Int) ∧ Alike l m k ∧ ∃ q, wr = W.drewN q) (fun i _ => n - (Go.RowKit.intOf i).toNat)
      case atStart => exact ⟨0, by omega, rfl, Alike.zero _ _, 0, rfl⟩
      case round =>
        obtain ⟨k, hk, rfl, hup, q, rfl⟩ := hrel
        have HU := hide hup
        clear hup
        by_cases hkn : k < n
        · obtain ⟨x, b, off, c', hx, hv, _, _, _, hr⟩ := StepsAt.at_ H1.out (i := k) (by rw [HN.out]; exact hkn)
          rw [HN.out] at hv
          obtain ⟨rfl, rfl⟩ : A = some ⟨b, off, none⟩ ∧ c = c' := by injection hv with e1 _ e3; exact ⟨e1, e3⟩
          obtain ⟨y, b2, off2, c2', hy, hv2, _, _, _, hr2⟩ := StepsAt.at_ H2.out (i := k) (by rw [HN2.out]; exact hkn)
          rw [HN2.out] at hv2
          obtain ⟨rfl, rfl⟩ : A2 = some ⟨b2, off2, none⟩ ∧ c2 = c2' := by injection hv2 with e1 _ e3; exact ⟨e1, e3⟩
          obtain ⟨r0, r1, r2, r3, r4, r5⟩ := range_step hr
          obtain ⟨s0, s1, s2, s3, s4, s5⟩ := range_step hr2
          have HX := hide hx
          have HY := hide hy
          clear hx hy hv hv2 hr hr2
          by_cases he : x = y
          · subst he
            have hq := fun w => neq_step_same x w
            simp only [StepD.cells] at hq
            go_wp2
            go_quiet (fail)
            go_wp2
            go_roundw
            case rel => exact ⟨k + 1, by omega, by go_num, HU.out.next (HX.out.trans HY.out.symm), _, rfl⟩
            case measure => simp [Go.RowKit.intOf]; omega
          · have hq := fun w => neq_step_other he w
            simp only [StepD.cells] at hq
            have HE := hide (ne_at HX.out HY.out he)
            clear he
            go_wp2
            go_quiet (fail)
            go_wp2
            go_ret
            exact ⟨ret_bool (by simp [HE.out]), HBW.out.trans ((below_drewN _ _ _).trans (below_drewN _ _ _))⟩
        · go_wp2
          go_ret
          exact ⟨ret_bool (by simp [HU.out.all (by have := HN.out; omega) (by have := HN2.out; omega)]), HBW.out.trans (below_drewN _ _ _)⟩
    · have ht : ((n : Int) != (n2 : Int)) = true := by simp; omega
      have HE : Hid (l ≠ m) := by
        rintro rfl
        exact hnm (HN.out.symm.trans HN2.out)
      go_enter Tryz.func56, Tryz.ntmps56
      go_wp2
      go_ret
      exact ⟨ret_bool (by simp [HE.out]), HBW.out⟩
  · have hs0 : (a1.toList == a2.toList) = false := by rw [str_eq]; simpa using ha
    have hs1 : (a1.toList != a2.toList) = true := by unfold bne; rw [hs0]; rfl
    have HE := hide ha
    clear ha
    go_enter Tryz.func56, Tryz.ntmps56
    go_wp2
    go_ret
    exact ⟨ret_bool (by simp [HE.out]), HBW.out⟩
end Go.Proofs.YtdkiopajilakcaaGreat.Sd
/- slices.Equal at steps. -/
namespace Go.Proofs.YtdkiopajilakcaaGreat.Sd
open Go.RowKit

end Go.Proofs.YtdkiopajilakcaaGreat.Sd
