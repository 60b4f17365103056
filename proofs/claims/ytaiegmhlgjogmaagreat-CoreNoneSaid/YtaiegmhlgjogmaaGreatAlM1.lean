/- Texts merged: Math, Mem, Flat, Grown, Box, HeapMath, Keep, Ints, Timer, Order, OrderR, OrderS, Rise, Sink, Index, Turned, Lit, LitW, Push, Remove. -/
import Derived.WalkKit
import Derived.WalkSpells
import Derived.Deep.AppendLies
import Derived.Maps.AppendAt
import Derived.Deep.Draws
import Derived.Deep.MidRow
import Derived.OneCell
import Derived.Test.YtaiegmhlgjogmaaGreatProg
import Derived.Laws.CopyOwn
import Derived.RegionTactic
import Derived.BigRegion
import Derived.OrdersHeld
import Derived.Deep.RegionHeld3
import Derived.Laws.StructEq
import Derived.IntWalk
/- Plain facts on numbers in groups of seven bits, on lists of naturals alone: the bytes of a number, and the number that bytes begin with. -/
namespace Go.Proofs.YtaiegmhlgjogmaaGreat

/-- The groups of a number, the lowest first; 'f' groups more may follow the first one. -/
def encF : Nat → Nat → List Nat
  | 0, v => [v % 128]
  | f + 1, v => if v / 128 = 0 then [v % 128] else (v % 128 + 128) :: encF f (v / 128)

def enc (v : Nat) : List Nat := encF 9 v

/-- The number that a list of bytes begins with: behind 'i' groups that came to 'a': the number, how many bytes, and the error's number. -/
def num : List Nat → Nat → Nat → Nat × Nat × Nat
  | [], _, _ => (0, 0, 3)
  | c :: r, i, a =>
    if (i = 9 ∧ 1 < c) ∨ (0 < i ∧ c = 0) then (0, 0, 4)
    else if c < 128 then (a + c % 128 * 2 ^ (7 * i), i + 1, 0)
    else num r (i + 1) (a + c % 128 * 2 ^ (7 * i))

theorem encF_len : ∀ f v, 1 ≤ (encF f v).length ∧ (encF f v).length ≤ f + 1
  | 0, v => by simp [encF]
  | f + 1, v => by
    have := encF_len f (v / 128)
    unfold encF
    split <;> simp <;> omega

theorem enc_len (v : Nat) : 1 ≤ (enc v).length ∧ (enc v).length ≤ 10 := encF_len 9 v

theorem encF_small : ∀ f v, ∀ x ∈ encF f v, x < 256
  | 0, v => by simp [encF]; omega
  | f + 1, v => by
    have := encF_small f (v / 128)
    unfold encF
    split
    · simp; omega
    · intro x hx
      rcases List.mem_cons.1 hx with rfl | h
      · omega
      · exact this x h

theorem enc_small (v : Nat) : ∀ x ∈ enc v, x < 256 := encF_small 9 v

theorem pow_step (i : Nat) : 2 ^ (7 * (i + 1)) = 128 * 2 ^ (7 * i) := by
  rw [show 7 * (i + 1) = 7 + 7 * i from by omega, Nat.pow_add]

theorem acc_step (v a p : Nat) : a + (v % 128) * p + (v / 128) * (128 * p) = a + v * p := by
  have h : v = v % 128 + 128 * (v / 128) := by omega
  have h2 : v * p = (v % 128) * p + (v / 128) * (128 * p) := by
    conv => lhs; rw [h]
    rw [Nat.add_mul, Nat.mul_comm 128 (v / 128), Nat.mul_assoc]
  omega

/-- A number comes back from its groups, whatever stands behind. -/
theorem num_encF (rest : List Nat) : ∀ f v i a, i + f = 9 → v < 2 * 128 ^ f → (0 < i → 0 < v) →
    num (encF f v ++ rest) i a = (a + v * 2 ^ (7 * i), i + (encF f v).length, 0)
  | 0, v, i, a, hi, hv, hp => by
    have hv2 : v < 2 := by simpa using hv
    have h1 : v % 128 = v := by omega
    unfold encF
    simp only [List.cons_append, List.nil_append, num, h1]
    rw [if_neg (by omega), if_pos (by omega)]
    simp
  | f + 1, v, i, a, hi, hv, hp => by
    unfold encF
    by_cases h : v / 128 = 0
    · have h1 : v % 128 = v := by omega
      simp only [h, if_true, List.cons_append, List.nil_append, num, h1]
      rw [if_neg (by omega), if_pos (by omega)]
      simp
    · have ih := num_encF rest f (v / 128) (i + 1) (a + v % 128 * 2 ^ (7 * i)) (by omega) (by rw [Nat.pow_succ] at hv; omega) (by omega)
      have h1 : (v % 128 + 128) % 128 = v % 128 := by omega
      rw [if_neg h]
      simp only [List.cons_append, num, h1]
      rw [if_neg (by omega), if_neg (by omega), ih, pow_step, acc_step]
      simp
      omega

/-- Cut off, it is none, and only short. -/
theorem num_cut : ∀ f v i a k, i + f = 9 → v < 2 * 128 ^ f → (0 < i → 0 < v) → k < (encF f v).length →
    num ((encF f v).take k) i a = (0, 0, 3)
  | 0, v, i, a, k, hi, hv, hp, hk => by
    have hk0 : k = 0 := by simpa [encF] using hk
    subst hk0
    simp [num]
  | f + 1, v, i, a, k, hi, hv, hp, hk => by
    rcases Nat.eq_zero_or_pos k with rfl | hk0
    · simp [num]
    · obtain ⟨m, rfl⟩ : ∃ m, k = m + 1 := ⟨k - 1, by omega⟩
      unfold encF at hk ⊢
      by_cases h : v / 128 = 0
      · simp [h] at hk
      · rw [if_neg h] at hk ⊢
        have ih := num_cut f (v / 128) (i + 1) (a + v % 128 * 2 ^ (7 * i)) m (by omega) (by rw [Nat.pow_succ] at hv; omega) (by omega) (by simpa using hk)
        have h1 : (v % 128 + 128) % 128 = v % 128 := by omega
        simp only [List.take_succ_cons, num, h1]
        rw [if_neg (by omega), if_neg (by omega), ih]

theorem u64_groups {v : Nat} (h : v < 18446744073709551616) : v < 2 * 128 ^ 9 := by
  have : (2 * 128 ^ 9 : Nat) = 18446744073709551616 := by decide
  omega

theorem num_enc (rest : List Nat) (v : Nat) (h : v < 18446744073709551616) : num (enc v ++ rest) 0 0 = (v, (enc v).length, 0) := by
  have := num_encF rest 9 v 0 0 rfl (u64_groups h) (by omega)
  simpa [enc] using this

theorem num_enc_cut (v k : Nat) (h : v < 18446744073709551616) (hk : k < (enc v).length) : num ((enc v).take k) 0 0 = (0, 0, 3) :=
  num_cut 9 v 0 0 k rfl (u64_groups h) (by omega) hk

theorem num_bound : ∀ (l : List Nat) (i a : Nat), (num l i a).2.1 ≤ i + l.length ∧ ((num l i a).2.2 ≠ 0 → (num l i a).1 = 0 ∧ (num l i a).2.1 = 0)
  | [], i, a => by simp [num]
  | c :: r, i, a => by
    have := num_bound r (i + 1) (a + c % 128 * 2 ^ (7 * i))
    unfold num
    split
    · simp
    · split
      · simp
      · simp only [List.length_cons]
        omega

end Go.Proofs.YtaiegmhlgjogmaaGreat
/- What is said of memory: a slice of bytes that holds a list of naturals, nil and empty ones among them; a row of bytes that the call itself made. -/
namespace Go.Proofs.YtaiegmhlgjogmaaGreat
open Go.RowKit

/-- A fact put aside, so that the walk doesn't take it for a rule. -/
theorem hide {p : Prop} (h : p) : Hid p := h

theorem ret_int {k : IntKind} {a b : Int} (h : a = b) : Ending.returned (.int k a) = .returned (.int k b) := by rw [h]

theorem ret_bool {a b : Bool} (h : a = b) : Ending.returned (.bool a) = .returned (.bool b) := by rw [h]

/-- A byte as a value. -/
def bv (x : Nat) : Value := .int .u8 (x : Int)
def bvs (l : List Nat) : List Value := l.map bv

theorem bvs_len (l : List Nat) : (bvs l).length = l.length := by simp [bvs]
theorem bvs_append (a b : List Nat) : bvs (a ++ b) = bvs a ++ bvs b := by simp [bvs]
theorem bvs_one (x : Nat) : bvs [x] = [.int .u8 (x : Int)] := rfl
theorem bvs_cell (l : List Nat) : ∀ u ∈ bvs l, u.oneCell' = true := by
  intro u hu
  obtain ⟨_, _, rfl⟩ := List.mem_map.1 hu
  rfl
theorem bvs_get {l : List Nat} {i : Nat} (h : i < l.length) : (bvs l)[i]? = some (.int .u8 (l.getD i 0 : Nat)) := by
  simp [bvs, bv, h]

/-- The slice at 'A', of 'n' bytes, holds the list l, in a block below B. -/
def Holds (w : World) (B : Nat) (A : Option Addr) (n : Nat) (l : List Nat) : Prop :=
  l.length = n ∧ (∀ x ∈ l, x < 256) ∧ (0 < n → ∃ b off, A = some ⟨b, off, none⟩ ∧ b < B ∧ ∀ i, i < n → w.cell? ⟨b, off + i, none⟩ = some (.int .u8 ((l.getD i 0 : Nat) : Int)))

section
variable {w w' : World} {B B' : Nat} {A : Option Addr} {n : Nat} {l : List Nat}

theorem Holds.nil_ (w : World) (B : Nat) : Holds w B none 0 [] := ⟨rfl, by simp, fun h => by omega⟩

theorem Holds.byte (h : Holds w B A n l) {i : Nat} (hi : i < n) : l.getD i 0 < 256 := by
  have hl : i < l.length := by have := h.1; omega
  rw [List.getD_eq_getElem?_getD, List.getElem?_eq_getElem hl]
  exact h.2.1 _ (List.getElem_mem hl)

theorem Holds.keep (h : Holds w B A n l) (hk : ∀ p : Addr, p.block < B → w'.cell? p = w.cell? p) : Holds w' B A n l :=
  ⟨h.1, h.2.1, fun hn => by
    obtain ⟨b, off, e, hb, hc⟩ := h.2.2 hn
    exact ⟨b, off, e, hb, fun i hi => (hk ⟨b, off + i, none⟩ hb).trans (hc i hi)⟩⟩
theorem Holds.below (h : Holds w B A n l) (hb : Below B w w') : Holds w' B A n l := h.keep fun _ hp => hb.cell hp
theorem Holds.more (h : Holds w B A n l) (hB : B ≤ B') : Holds w B' A n l :=
  ⟨h.1, h.2.1, fun hn => by
    obtain ⟨b, off, e, hb, hc⟩ := h.2.2 hn
    exact ⟨b, off, e, by omega, hc⟩⟩
theorem Holds.drew (h : Holds w B A n l) : Holds w.drew B A n l := h
theorem Holds.drewN (h : Holds w B A n l) (k : Nat) : Holds (w.drewN k) B A n l := h

/-- The first k of them. -/
theorem Holds.take (h : Holds w B A n l) {k : Nat} (hk : k ≤ n) : Holds w B A k (l.take k) :=
  ⟨by simp [h.1]; omega, fun x hx => h.2.1 x (List.mem_of_mem_take hx), fun hk0 => by
    obtain ⟨b, off, e, hb, hc⟩ := h.2.2 (by omega)
    refine ⟨b, off, e, hb, fun i hi => ?_⟩
    rw [hc i (by omega)]
    simp [hi]⟩

/-- What lies behind the first k. -/
theorem Holds.drop (h : Holds w B A n l) {k cap : Nat} (hk : k ≤ n) (hc : n ≤ cap) (A' : Option Addr) (hA' : ¬ cap = k → A' = A.map (·.add k)) : Holds w B A' (n - k) (l.drop k) :=
  ⟨by simp [h.1], fun x hx => h.2.1 x (List.mem_of_mem_drop hx), fun hk0 => by
    obtain ⟨b, off, rfl, hb, hcell⟩ := h.2.2 (by omega)
    refine ⟨b, off + k, ?_, hb, fun i hi => ?_⟩
    · rw [hA' (by omega)]
      simp [Addr.add]
    · rw [show off + k + i = off + (k + i) from by omega, hcell (k + i) (by omega)]
      simp⟩

/-- A row of the call's own is such a slice. -/
theorem Holds.of_own {base e : Nat} {v : Value} (h : w.ownsRow base e 1 v n (bvs l)) (hs : ∀ x ∈ l, x < 256) : ∃ A c, v = .slice A n c ∧ n ≤ c ∧ (A = none → c = 0) ∧ Holds w w.heap.size A n l := by
  have hl : l.length = n := by have := h.1; rw [bvs_len] at this; omega
  rcases h.2 with ⟨rfl, rfl⟩ | ⟨g, cap, cur, rfl, _, hg, hnc, _, _, _⟩
  · exact ⟨none, 0, rfl, Nat.le_refl _, fun _ => rfl, hl, hs, fun h => by omega⟩
  · refine ⟨some ⟨g, 0, none⟩, cap, rfl, hnc, (fun h => by cases h), hl, hs, fun hn => ⟨g, 0, rfl, ?_, fun i hi => ?_⟩⟩
    · exact (Array.getElem?_eq_some_iff.1 hg).1
    · have := h.cellAt i (by omega)
      rw [Nat.zero_add, this, bvs_get (by omega)]

end

/-- Below the base of a row that was written nothing has turned. -/
theorem below_of_grown {w w' : World} {base e n : Nat} {v : Value} {xs : List Value} (ho : w.ownsRow base e 1 v n xs) (hb : base ≤ w.heap.size) (hg : w.grownBy w' v.ownBlock) : Below base w w' :=
  (Below.refl _ _).grown hg hb fun k hk => (ho.lt k hk).1

/-- From w to w': nothing that was there has turned, but for block r; and what lay in r lies there, or in a new block, r'. -/
def Went (w : World) (r : Option Nat) (w' : World) (r' : Option Nat) : Prop := w.grownBy w' r ∧ (r' = r ∨ ∃ g, r' = some g ∧ w.heap.size ≤ g)

section
variable {w w1 w2 : World} {r r1 r2 : Option Nat}
theorem Went.refl (w : World) (r : Option Nat) : Went w r w r := ⟨World.grownBy.refl w r, .inl rfl⟩
theorem Went.size (h : Went w r w1 r1) : w.heap.size ≤ w1.heap.size := h.1.size
theorem Went.trans (h : Went w r w1 r1) (k : Went w1 r1 w2 r2) : Went w r w2 r2 := by
  refine ⟨⟨k.1.os.trans h.1.os, k.1.tape.trans h.1.tape, k.1.output.trans h.1.output, Nat.le_trans h.1.size k.1.size, fun i hi hne => ?_⟩, ?_⟩
  · refine (k.1.block i (Nat.lt_of_lt_of_le hi h.1.size) ?_).trans (h.1.block i hi hne)
    rcases h.2 with e | ⟨g, e, hg⟩
    · rw [e]; exact hne
    · rw [e]
      intro e2
      have := Option.some.inj e2
      omega
  · rcases k.2 with e | ⟨g, e, hg⟩
    · rw [e]; exact h.2
    · exact .inr ⟨g, e, Nat.le_trans h.1.size hg⟩
theorem Went.alloc (h : Went w r w1 r1) (o : Obj) : Went w r (w1.alloc o) r1 := h.trans ⟨World.grownBy_alloc w1 o r1, .inl rfl⟩
theorem Went.drew (h : Went w r w1 r1) : Went w r w1.drew r1 := h.trans ⟨⟨rfl, rfl, rfl, Nat.le_refl _, fun _ _ _ => rfl⟩, .inl rfl⟩
theorem Went.of_below (h : Below w.heap.size w w1) (r : Option Nat) : Went w r w1 r := ⟨⟨h.os, h.tape, h.output, h.size, fun k hk _ => h.block k hk⟩, .inl rfl⟩
theorem Went.of_at (hg : w.grownBy w1 r) (ha : r1 = r ∨ r1 = some w.heap.size) : Went w r w1 r1 := ⟨hg, ha.imp id fun e => ⟨_, e, Nat.le_refl _⟩⟩
/-- A block whose elements are of another type than the row's is as it was. -/
theorem Went.other {base e t n : Nat} {v : Value} {xs : List Value} {cs : Array Value} {g : Nat} (h : Went w v.ownBlock w1 r1) (ho : w.ownsRow base e 1 v n xs) (hb : w.heap[g]? = some (.cells cs t (0, 0))) (hne : e ≠ t) :
    w1.heap[g]? = some (.cells cs t (0, 0)) := by
  rw [h.1.block g (Array.getElem?_eq_some_iff.1 hb).1]
  · exact hb
  · rcases ho.2 with ⟨rfl, _⟩ | ⟨g', cap, cur, rfl, _, hh, _⟩
    · simp [Value.ownBlock]
    · intro e2
      have e3 : g = g' := by simpa [Value.ownBlock] using e2
      rw [← e3, hb] at hh
      injection hh with hh
      injection hh with _ ht
      exact hne ht.symm
theorem Went.below {base e n : Nat} {v : Value} {xs : List Value} (h : Went w v.ownBlock w1 r1) (ho : w.ownsRow base e 1 v n xs) (hb : base ≤ w.heap.size) : Below base w w1 := below_of_grown ho hb h.1
end

/-- What is owned stays owned where only new blocks came. -/
theorem own_below {w w1 : World} {base e n : Nat} {v : Value} {xs : List Value} (ho : w.ownsRow base e 1 v n xs) (hb : Below w.heap.size w w1) : w1.ownsRow base e 1 v n xs :=
  ho.kept (Went.of_below hb none).1 (by cases h : v.ownBlock <;> simp)

/-- The shape of a row of the call's own, with a length of a name of its own. -/
theorem row_slice {w : World} {base e n : Nat} {v : Value} {l : List Nat} (h : w.ownsRow base e 1 v n (bvs l)) (hs : ∀ x ∈ l, x < 256) :
    ∃ A m c, v = .slice A m c ∧ m ≤ c ∧ Hid (Holds w w.heap.size A m l) ∧ Hid (m = n) := by
  obtain ⟨A, c, hv, h1, _, h2⟩ := Holds.of_own h hs
  exact ⟨A, n, c, hv, h1, h2, rfl⟩

/-- What a call hands back that makes bytes: a slice of the call's own, that holds l; nothing that was there has turned. -/
def NewBytes (w : World) (l : List Nat) (e : Ending) (w' : World) : Prop :=
  ∃ A n c, e = .returned (.slice A n c) ∧ w'.ownsRow w.heap.size 5 1 (.slice A n c) n (bvs l) ∧ Holds w' w'.heap.size A n l ∧ n ≤ c ∧ Below w.heap.size w w'

theorem newBytes_of {w w' : World} {n : Nat} {v : Value} {l : List Nat} (ho : w'.ownsRow w.heap.size 5 1 v n (bvs l)) (hs : ∀ x ∈ l, x < 256) (hb : Below w.heap.size w w') : NewBytes w l (.returned v) w' := by
  obtain ⟨A, c, rfl, h1, _, h2⟩ := Holds.of_own ho hs
  exact ⟨A, n, c, rfl, ho, h2, h1, hb⟩

section
variable {P : Program} (w : World)

/-- 'append(row, b...)', the row the call's own, b whatever slice of bytes. -/
theorem run_append_bytes (base : Nat) (t ty e : TypeId) (i : TypeInfo) (z : Value) (ht : P.underlying t = some (.slice e)) (hi : P.info? e = some i) (hz : i.zero = some z)
    (hsize : i.size = 1) (hby : i.bytes = 1) (hzs : z.cells.size = 1)
    (v : Value) (n : Nat) (xs : List Value) (hown : w.ownsRow base e 1 v n xs)
    (B : Nat) (A : Option Addr) (m c : Nat) (l : List Nat) (hl : Holds w B A m l) (hroom : n + m ≤ 70368744177664) (hbase : base ≤ w.heap.size) :
    ∃ v' w', (Builtin.append_ #[t, t] ty #[v, .slice A m c]).run P w = .ok v' w' ∧ w'.ownsRow base e 1 v' (n + m) (xs ++ bvs l) ∧ Went w v.ownBlock w' v'.ownBlock := by
  have hlen := hl.1
  rcases A with _ | ad
  · have hm : m = 0 := by
      rcases Nat.eq_zero_or_pos m with h | h
      · exact h
      · obtain ⟨_, _, h, _⟩ := hl.2.2 h
        cases h
    subst hm
    have : l = [] := List.eq_nil_of_length_eq_zero hlen
    subst this
    refine ⟨v, w, ?_, by simpa [bvs] using hown, Went.refl w _⟩
    rcases hown.2 with ⟨rfl, rfl⟩ | ⟨g, cap, cur, rfl, _, _, hnc, _⟩
    · simp [Builtin.append_, run_underlying ht, sizeOf, typeInfo, hi, Builtin.lenOf, Builtin.firstCells]
    · simp [Builtin.append_, run_underlying ht, sizeOf, typeInfo, hi, Builtin.lenOf, Builtin.firstCells, hnc, storeCells]
  · obtain ⟨v', w', h1, h2, h3, _, h5⟩ := run_append_own_at (P := P) w base t ty e i z 1 1 ht hi hz hsize hby hzs (by omega) v n xs hown ad m c (bvs l) (by rw [bvs_len, hlen, Nat.mul_one])
      (fun j u hu => by
        have hj : j < l.length := by
          have := (List.getElem?_eq_some_iff.1 hu).1
          rwa [bvs_len] at this
        obtain ⟨b, off, h, _, hc⟩ := hl.2.2 (by omega)
        obtain rfl := Option.some.inj h
        rw [bvs_get hj] at hu
        rw [Addr.add_lit, hc j (by omega)]
        exact hu) (bvs_cell _) (by simp only [maxLen]; omega) (by omega) hbase
    exact ⟨v', w', h1, h2, .of_at h3 h5⟩

theorem wpList_append_bytes {ops : Array Oper} {rest : List Oper} {o : Oper} {a : Act} {Q : Exit → Act → World → Prop} (hgd : o.guard = none) (s x : Operand) (t : TypeId)
    (ho : o.op = .call { callee := .builtin .append, args := #[s, x], argTypes := #[t, t] })
    (base : Nat) (e : TypeId) (i : TypeInfo) (z : Value) (ht : P.underlying t = some (.slice e)) (hi : P.info? e = some i) (hz : i.zero = some z)
    (hsize : i.size = 1) (hby : i.bytes = 1) (hzs : z.cells.size = 1)
    (v : Value) (n : Nat) (xs : List Value) (hs : a.eval s = v) (hown : w.ownsRow base e 1 v n xs)
    (B : Nat) (A : Option Addr) (m c : Nat) (l : List Nat) (hx : a.eval x = .slice A m c) (hl : Holds w B A m l) (hroom : n + m ≤ 70368744177664) (hbase : base ≤ w.heap.size)
    (h : ∀ v' w', w'.ownsRow base e 1 v' (n + m) (xs ++ bvs l) → Went w v.ownBlock w' v'.ownBlock → wpList P ops Q rest (a.put o.dst v') w') : wpList P ops Q (o :: rest) a w := by
  refine wpList_plain hgd fun K hK => ?_
  obtain ⟨v', w', hr, h2, h3⟩ := run_append_bytes (P := P) w base t o.type e i z ht hi hz hsize hby hzs v n xs hown B A m c l hl hroom hbase
  unfold Oper.wp execOp
  simp only [ho, resolve, invoke, builtin, Sem.run_bind, Sem.run_pure, Result.andThen_ok, List.map_toArray, List.map_cons, List.map_nil, hs, hx, hr]
  exact hK _ _ (h v' w' h2 h3)
end

end Go.Proofs.YtaiegmhlgjogmaaGreat
/- Slices whose elements take k cells each, wherever they lie: what such a slice holds, cell by cell; the blocks that it may lie in. -/
namespace Go.Proofs.YtaiegmhlgjogmaaGreat
open Go.RowKit

/-- The slice v holds n elements of k cells each, xs in all; they lie in a block of which F holds. -/
def FlatAt (F : Nat → Prop) (w : World) (k : Nat) (v : Value) (n : Nat) (xs : List Value) : Prop :=
  xs.length = n * k ∧ (∀ u ∈ xs, u.oneCell' = true) ∧ ∃ A c, v = .slice A n c ∧ n ≤ c ∧ c ≤ maxLen ∧ (A = none → c = 0) ∧
    (0 < n → ∃ b off, A = some ⟨b, off, none⟩ ∧ F b ∧ b < w.heap.size ∧ w.rangeAt b off xs)

/-- From w to w' no block of which F holds has turned. -/
def Kept (F : Nat → Prop) (w w' : World) : Prop := w.heap.size ≤ w'.heap.size ∧ ∀ i, i < w.heap.size → F i → w'.heap[i]? = w.heap[i]?

theorem Kept.refl (F : Nat → Prop) (w : World) : Kept F w w := ⟨Nat.le_refl _, fun _ _ _ => rfl⟩
theorem Kept.trans {F : Nat → Prop} {a b c : World} (h : Kept F a b) (k : Kept F b c) : Kept F a c :=
  ⟨Nat.le_trans h.1 k.1, fun i hi hf => (k.2 i (Nat.lt_of_lt_of_le hi h.1) hf).trans (h.2 i hi hf)⟩
theorem Kept.of_below {w w' : World} (h : Below w.heap.size w w') (F : Nat → Prop) : Kept F w w' := ⟨h.size, fun i hi _ => h.block i hi⟩
theorem Kept.of_grown {w w' : World} {r : Option Nat} (h : w.grownBy w' r) {F : Nat → Prop} (hr : ∀ g, r = some g → ¬ F g) : Kept F w w' :=
  ⟨h.size, fun i hi hf => h.block i hi (fun e => hr i e.symm hf)⟩
theorem Kept.mono {F G : Nat → Prop} {w w' : World} (h : Kept F w w') (hg : ∀ i, i < w.heap.size → G i → F i) : Kept G w w' := ⟨h.1, fun i hi hf => h.2 i hi (hg i hi hf)⟩
theorem Kept.drewN (F : Nat → Prop) (w : World) (n : Nat) : Kept F w (w.drewN n) := ⟨Nat.le_refl _, fun _ _ _ => rfl⟩
theorem Kept.drew (F : Nat → Prop) (w : World) : Kept F w w.drew := ⟨Nat.le_refl _, fun _ _ _ => rfl⟩
theorem Kept.cell {F : Nat → Prop} {w w' : World} (h : Kept F w w') {b o : Nat} (hb : b < w.heap.size) (hf : F b) : w'.cell? ⟨b, o, none⟩ = w.cell? ⟨b, o, none⟩ := World.cell?_of_block (h.2 b hb hf)

section
variable {F G : Nat → Prop} {w w' : World} {k n : Nat} {v : Value} {xs : List Value}

theorem FlatAt.kept (h : FlatAt F w k v n xs) (hk : Kept F w w') : FlatAt F w' k v n xs := by
  obtain ⟨h1, h2, A, c, hv, h3, h4, h5, h6⟩ := h
  refine ⟨h1, h2, A, c, hv, h3, h4, h5, fun hn => ?_⟩
  obtain ⟨b, off, hA, hf, hb, hr⟩ := h6 hn
  exact ⟨b, off, hA, hf, Nat.lt_of_lt_of_le hb hk.1, fun j u hj => (hk.cell hb hf).trans (hr j u hj)⟩
theorem FlatAt.mono (h : FlatAt F w k v n xs) (hg : ∀ i, i < w.heap.size → F i → G i) : FlatAt G w k v n xs := by
  obtain ⟨h1, h2, A, c, hv, h3, h4, h5, h6⟩ := h
  refine ⟨h1, h2, A, c, hv, h3, h4, h5, fun hn => ?_⟩
  obtain ⟨b, off, hA, hf, hb, hr⟩ := h6 hn
  exact ⟨b, off, hA, hg b hb hf, hb, hr⟩
theorem FlatAt.nil_ (F : Nat → Prop) (w : World) (k : Nat) : FlatAt F w k (.slice none 0 0) 0 [] :=
  ⟨by simp, by simp, none, 0, rfl, Nat.le_refl _, by unfold maxLen; omega, fun _ => rfl, fun h => by omega⟩
theorem FlatAt.of_own {base e : Nat} (h : w.ownsRow base e k v n xs) (h1 : ∀ u ∈ xs, u.oneCell' = true) : FlatAt (base ≤ ·) w k v n xs := by
  refine ⟨h.1, h1, ?_⟩
  rcases h.2 with ⟨rfl, rfl⟩ | ⟨g, cap, cur, rfl, hb, hg, hnc, hm, _, _⟩
  · exact ⟨none, 0, rfl, Nat.le_refl _, by unfold maxLen; omega, fun _ => rfl, fun h => by omega⟩
  · refine ⟨some ⟨g, 0, none⟩, cap, rfl, hnc, hm, (fun h => by cases h), fun _ => ⟨g, 0, rfl, hb, lt_of_block hg, fun j u hj => ?_⟩⟩
    have := h.cells (g := g) rfl j u hj
    rwa [Addr.add_lit] at this
theorem FlatAt.len (h : FlatAt F w k v n xs) : xs.length = n * k := h.1
/-- Its length is a name of its own. -/
theorem FlatAt.shape (h : FlatAt F w k v n xs) : ∃ A c, v = .slice A n c ∧ n ≤ c ∧ c ≤ maxLen ∧ (A = none → c = 0) := by
  obtain ⟨_, _, A, c, hv, h3, h4, h5, _⟩ := h
  exact ⟨A, c, hv, h3, h4, h5⟩
/-- The element at i: where it lies, and its cells. -/
theorem FlatAt.elem (h : FlatAt F w k v n xs) {i : Nat} (hi : i < n) : ∃ b off c, v = .slice (some ⟨b, off, none⟩) n c ∧ n ≤ c ∧ F b ∧ b < w.heap.size ∧ w.rangeAt b (off + i * k) ((xs.drop (i * k)).take k) := by
  obtain ⟨h1, h2, A, c, hv, h3, h4, h5, h6⟩ := h
  obtain ⟨b, off, rfl, hf, hb, hr⟩ := h6 (by omega)
  refine ⟨b, off, c, hv, h3, hf, hb, fun j u hj => ?_⟩
  rw [Nat.add_assoc]
  apply hr
  have hjk : j < k := by
    have := (List.getElem?_eq_some_iff.1 hj).1
    rw [List.length_take] at this
    omega
  rw [List.getElem?_take_of_lt hjk, List.getElem?_drop] at hj
  exact hj
end

/-- Elements one behind the other. -/
theorem flat_get {α : Type} (f : α → List Value) (k : Nat) : ∀ (l : List α) (i : Nat) (x : α), (∀ y ∈ l, (f y).length = k) → l[i]? = some x → ((l.flatMap f).drop (i * k)).take k = f x
  | [], _, _, _, h => by simp at h
  | y :: r, 0, x, hk, h => by
    have e : y = x := by simpa using h
    subst e
    have := hk y (by simp)
    simp [this.symm]
  | y :: r, i + 1, x, hk, h => by
    have h1 := hk y (by simp)
    have ih := flat_get f k r i x (fun z hz => hk z (by simp [hz])) (by simpa using h)
    rw [List.flatMap_cons, show (i + 1) * k = (f y).length + i * k from by rw [h1, Nat.add_mul]; omega, List.drop_append, List.drop_eq_nil_of_le (Nat.le_add_right _ _), Nat.add_sub_cancel_left]
    simpa using ih
theorem flat_len {α : Type} (f : α → List Value) (k : Nat) : ∀ (l : List α), (∀ y ∈ l, (f y).length = k) → (l.flatMap f).length = l.length * k
  | [], _ => by simp
  | y :: r, hk => by
    have ih := flat_len f k r (fun z hz => hk z (by simp [hz]))
    have h1 := hk y (by simp)
    rw [List.flatMap_cons, List.length_append, ih, h1, List.length_cons, Nat.add_mul]
    omega
theorem flat_set {α : Type} (f : α → List Value) (k : Nat) : ∀ (l : List α) (i : Nat) (x : α), (∀ y ∈ l, (f y).length = k) → (f x).length = k → i < l.length →
    (l.set i x).flatMap f = (l.flatMap f).take (i * k) ++ f x ++ (l.flatMap f).drop (i * k + k)
  | [], _, _, _, _, h => by simp at h
  | y :: r, 0, x, hk, hx, h => by
    have h1 := hk y (by simp)
    simp [List.set, List.flatMap_cons, ← h1]
  | y :: r, i + 1, x, hk, hx, h => by
    have h1 := hk y (by simp)
    have ih := flat_set f k r i x (fun z hz => hk z (by simp [hz])) hx (by simpa using h)
    have e : (i + 1) * k = (f y).length + i * k := by rw [h1, Nat.add_mul]; omega
    rw [List.set_cons_succ, List.flatMap_cons, List.flatMap_cons, ih, e, List.take_append, List.drop_append]
    simp [List.take_of_length_le, Nat.add_assoc]

section
variable {P : Program} (w : World)
/-- 'append(row, l...)', the row the call's own, l whatever slice of such elements. -/
theorem run_append_flat (base : Nat) (t ty e : TypeId) (i : TypeInfo) (z : Value) (k bytes : Nat) (ht : P.underlying t = some (.slice e)) (hi : P.info? e = some i) (hz : i.zero = some z)
    (hsize : i.size = k) (hby : i.bytes = bytes) (hzs : z.cells.size = k) (hk : 0 < k)
    (v : Value) (n : Nat) (xs : List Value) (hown : w.ownsRow base e k v n xs)
    (F : Nat → Prop) (A : Option Addr) (m c : Nat) (ys : List Value) (hl : FlatAt F w k (.slice A m c) m ys) (hroom : n + m ≤ maxLen) (hbytes : (n + m) * bytes ≤ 140737488355328) (hbase : base ≤ w.heap.size) :
    ∃ v' w', (Builtin.append_ #[t, t] ty #[v, .slice A m c]).run P w = .ok v' w' ∧ w'.ownsRow base e k v' (n + m) (xs ++ ys) ∧ w.grownBy w' v.ownBlock := by
  obtain ⟨hlen, h1, A', c', hv, h3, h4, h5, h6⟩ := hl
  obtain ⟨rfl, rfl⟩ : A = A' ∧ c = c' := by injection hv with e1 _ e3; exact ⟨e1, e3⟩
  rcases A with _ | ad
  · have hm : m = 0 := by
      rcases Nat.eq_zero_or_pos m with h | h
      · exact h
      · obtain ⟨_, _, h, _⟩ := h6 h
        cases h
    subst hm
    have : ys = [] := List.eq_nil_of_length_eq_zero (by simpa using hlen)
    subst this
    refine ⟨v, w, ?_, by simpa using hown, World.grownBy.refl w _⟩
    rcases hown.2 with ⟨rfl, rfl⟩ | ⟨g, cap, cur, rfl, _, _, hnc, _⟩
    · simp [Builtin.append_, run_underlying ht, sizeOf, typeInfo, hi, Builtin.lenOf, Builtin.firstCells]
    · simp [Builtin.append_, run_underlying ht, sizeOf, typeInfo, hi, Builtin.lenOf, Builtin.firstCells, hnc, storeCells]
  · obtain ⟨v', w', g1, g2, g3, _, _⟩ := run_append_own_at (P := P) w base t ty e i z k bytes ht hi hz hsize hby hzs hk v n xs hown ad m c ys hlen
      (fun j u hu => by
        have hj : j < ys.length := (List.getElem?_eq_some_iff.1 hu).1
        have hm : 0 < m := by
          rcases Nat.eq_zero_or_pos m with h | h
          · subst h
            omega
          · exact h
        obtain ⟨b, off, h, _, _, hr⟩ := h6 hm
        obtain rfl := Option.some.inj h
        rw [Addr.add_lit]
        exact hr j u hu) h1 hroom hbytes hbase
    exact ⟨v', w', g1, g2, g3⟩

theorem wpList_append_flat {ops : Array Oper} {rest : List Oper} {o : Oper} {a : Act} {Q : Exit → Act → World → Prop} (hgd : o.guard = none) (s x : Operand) (t : TypeId)
    (ho : o.op = .call { callee := .builtin .append, args := #[s, x], argTypes := #[t, t] })
    (base : Nat) (e : TypeId) (i : TypeInfo) (z : Value) (k bytes : Nat) (ht : P.underlying t = some (.slice e)) (hi : P.info? e = some i) (hz : i.zero = some z)
    (hsize : i.size = k) (hby : i.bytes = bytes) (hzs : z.cells.size = k) (hk : 0 < k)
    (v : Value) (n : Nat) (xs : List Value) (hs : a.eval s = v) (hown : w.ownsRow base e k v n xs)
    (F : Nat → Prop) (A : Option Addr) (m c : Nat) (ys : List Value) (hx : a.eval x = .slice A m c) (hl : FlatAt F w k (.slice A m c) m ys) (hroom : n + m ≤ maxLen) (hbytes : (n + m) * bytes ≤ 140737488355328) (hbase : base ≤ w.heap.size)
    (h : ∀ v' w', w'.ownsRow base e k v' (n + m) (xs ++ ys) → w.grownBy w' v.ownBlock → wpList P ops Q rest (a.put o.dst v') w') : wpList P ops Q (o :: rest) a w := by
  refine wpList_plain hgd fun K hK => ?_
  obtain ⟨v', w', hr, h2, h3⟩ := run_append_flat (P := P) w base t o.type e i z k bytes ht hi hz hsize hby hzs hk v n xs hown F A m c ys hl hroom hbytes hbase
  unfold Oper.wp execOp
  simp only [ho, resolve, invoke, builtin, Sem.run_bind, Sem.run_pure, Result.andThen_ok, List.map_toArray, List.map_cons, List.map_nil, hs, hx, hr]
  exact hK _ _ (h v' w' h2 h3)
end
/-- An empty row of the call's own, made by a literal. -/
theorem ownsRow_lit (w : World) (e k : Nat) : (w.alloc (.cells #[] e)).ownsRow w.heap.size e k (.slice (some ⟨w.heap.size, 0, none⟩) 0 0) 0 [] :=
  ⟨by simp, .inr ⟨w.heap.size, 0, #[], rfl, Nat.le_refl _, heap_alloc_new w _, Nat.le_refl _, Nat.zero_le _, by simp, by simp⟩⟩
theorem later_own {w w' : World} {base e size n : Nat} {v : Value} {xs : List Value} (ho : w.ownsRow base e size v n xs) (hb : base ≤ w.heap.size) (hg : w.grownBy w' v.ownBlock) : Below base w w' :=
  (Below.refl _ _).grown hg hb fun k hk => (ho.lt k hk).1
end Go.Proofs.YtaiegmhlgjogmaaGreat
/- Worlds of which all but one block is as it was; objects of the call's own that are written again and again. -/
namespace Go.Proofs.YtaiegmhlgjogmaaGreat
open Go.RowKit

theorem grown_set (w : World) (g o : Nat) (v : Value) : w.grownBy (w.setCell ⟨g, o, none⟩ v) (some g) :=
  ⟨rfl, rfl, rfl, by simp [World.setCell], fun i hi hne => Below.heap_setCell _ _ _ _ (fun e => hne (by rw [e]))⟩
theorem grown_trans {a b c : World} {r : Option Nat} (h : a.grownBy b r) (k : b.grownBy c r) : a.grownBy c r :=
  ⟨k.os.trans h.os, k.tape.trans h.tape, k.output.trans h.output, Nat.le_trans h.size k.size, fun i hi hne => (k.block i (Nat.lt_of_lt_of_le hi h.size) hne).trans (h.block i hi hne)⟩
theorem grown_later {a b : World} (h : Below a.heap.size a b) (r : Option Nat) : a.grownBy b r := ⟨h.os, h.tape, h.output, h.size, fun i hi _ => h.block i hi⟩
theorem grown_drewN (w : World) (r : Option Nat) (n : Nat) : w.grownBy (w.drewN n) r := ⟨rfl, rfl, rfl, Nat.le_refl _, fun _ _ _ => rfl⟩
theorem below_grown {a b : World} {B g : Nat} (h : a.grownBy b (some g)) (hB : B ≤ g) (hs : B ≤ a.heap.size) : Below B a b := (Below.refl _ _).grown h hs (fun k hk => by
  have := Option.some.inj hk
  omega)
theorem below_drewN (B : Nat) (w : World) (n : Nat) : Below B w (w.drewN n) := ⟨rfl, rfl, rfl, Nat.le_refl _, fun _ _ => rfl⟩
/-- What lies in new blocks may be written: to who stands before, only block r has turned. -/
theorem grown_new {a b c : World} {r : Option Nat} {q : Nat} (h : a.grownBy b r) (k : b.grownBy c (some q)) (hq : a.heap.size ≤ q) : a.grownBy c r :=
  ⟨k.os.trans h.os, k.tape.trans h.tape, k.output.trans h.output, Nat.le_trans h.size k.size, fun i hi hne => (k.block i (Nat.lt_of_lt_of_le hi h.size) (fun e => by
    have := Option.some.inj e
    omega)).trans (h.block i hi hne)⟩

/-- The block g holds the cells cs, none of them frozen. -/
def BlockAt (T : TypeId) (w : World) (g : Nat) (cs : List Value) : Prop := w.heap[g]? = some (.cells cs.toArray T (0, 0))
section
variable {T : TypeId} {w w' : World} {g : Nat} {cs : List Value}
theorem BlockAt.lt (h : BlockAt T w g cs) : g < w.heap.size := lt_of_block h
theorem BlockAt.cell (h : BlockAt T w g cs) {i : Nat} {v : Value} (hi : cs[i]? = some v) : w.cell? ⟨g, i, none⟩ = some v := by
  have h' : w.heap[g]? = some (.cells cs.toArray T (0, 0)) := h
  simp [World.cell?, h', hi]
theorem BlockAt.free (h : BlockAt T w g cs) (i : Nat) : w.frozen? ⟨g, i, none⟩ = false := by
  have h' : w.heap[g]? = some (.cells cs.toArray T (0, 0)) := h
  simp [World.frozen?, h']
theorem BlockAt.set (h : BlockAt T w g cs) (i : Nat) (v : Value) : BlockAt T (w.setCell ⟨g, i, none⟩ v) g (cs.set i v) := by
  have hlt := h.lt
  have h' : w.heap[g] = .cells cs.toArray T (0, 0) := by
    have h2 : w.heap[g]? = some (.cells cs.toArray T (0, 0)) := h
    simpa [Array.getElem?_eq_getElem hlt] using h2
  show (w.heap.modify g _)[g]? = _
  rw [Array.getElem?_eq_getElem (by simpa using hlt), Array.getElem_modify_self, h']
  simp
theorem BlockAt.kept (h : BlockAt T w g cs) (hk : w'.heap[g]? = w.heap[g]?) : BlockAt T w' g cs := by
  show w'.heap[g]? = _
  rw [hk]
  exact h
theorem BlockAt.below {B : Nat} (h : BlockAt T w g cs) (hb : Below B w w') (hg : g < B) : BlockAt T w' g cs := h.kept (hb.block g hg)
theorem BlockAt.other {r : Option Nat} (h : BlockAt T w g cs) (hg : w.grownBy w' r) (hr : some g ≠ r) : BlockAt T w' g cs := h.kept (hg.block g h.lt hr)
theorem BlockAt.made (w : World) (cs : List Value) (T : TypeId) : BlockAt T (w.alloc (.cells cs.toArray T (0, 0))) w.heap.size cs := heap_alloc_new _ _
end
end Go.Proofs.YtaiegmhlgjogmaaGreat
/- Blocks that are known whole: a struct read out of one, a struct written into one, at an operation; results that lie in such blocks. -/
namespace Go.Proofs.YtaiegmhlgjogmaaGreat
open Go.RowKit

/-- The cells with vs written from o on. -/
def putAt : Array Value → Nat → List Value → Array Value
  | cs, _, [] => cs
  | cs, o, v :: r => putAt (cs.setIfInBounds o v) (o + 1) r

theorem heap_setCells (b : Nat) {T : TypeId} : ∀ (vs : List Value) (o : Nat) (w : World) (cs : Array Value), w.heap[b]? = some (.cells cs T (0, 0)) → (w.setCells b o vs).heap[b]? = some (.cells (putAt cs o vs) T (0, 0))
  | [], _, _, _, h => h
  | v :: r, o, w, cs, h => heap_setCells b r (o + 1) _ _ (heap_setCell_same w b o cs T v h)
theorem grown_setCells (b : Nat) : ∀ (vs : List Value) (o : Nat) (w : World), w.grownBy (w.setCells b o vs) (some b)
  | [], _, w => World.grownBy.refl w _
  | v :: r, o, w => by
    have h1 : w.grownBy (w.setCell ⟨b, o, none⟩ v) (some b) := ⟨rfl, rfl, rfl, by simp [World.setCell], fun i hi hne => heap_setCell_other _ _ _ _ (fun e => hne (by rw [e]))⟩
    exact h1.trans (grown_setCells b r (o + 1) _)

section
variable {P : Program} {ops : Array Oper} {rest : List Oper} {op : Oper} {a : Act} {w : World} {Q : Exit → Act → World → Prop}

/-- A struct out of a block, from offset o on. -/
theorem wpList_load_box (hgd : op.guard = none) (ty : TypeId) (x : Operand) (ho : op.op = .load ty x)
    (g o : Nat) (hx : a.eval x = .pointer (some ⟨g, o, none⟩)) (T : TypeId) (cs : Array Value) (hg : w.heap[g]? = some (.cells cs T (0, 0))) (n : Nat) (d : TypeDesc)
    (hu : P.underlying ty = some d) (hd : d.isRow = true) (hi : (P.info? ty).map (·.size) = some n) (part : List Value) (hp : (cs.toList.drop o).take n = part) (hn : part.length = n)
    (h : wpList P ops Q rest (a.put op.dst (.agg part.toArray)) w) : wpList P ops Q (op :: rest) a w :=
  wpList_load_mid hgd ty x ho g o hx part d (fun j v hv => by
    rw [cell_of_row w g (o + j) cs T (0, 0) hg]
    have hj : j < n := by rw [← hn]; exact (List.getElem?_eq_some_iff.1 hv).1
    rw [← hp, List.getElem?_take_of_lt hj, List.getElem?_drop] at hv
    simpa using hv) hu hd (by rw [hn]; exact hi) h

/-- A struct into a block, from offset o on: some world in which that block alone has turned. -/
theorem wpList_store_box (hgd : op.guard = none) (ty : TypeId) (x y : Operand) (ho : op.op = .store ty x y)
    (g o : Nat) (cells : Array Value) (hx : a.eval x = .pointer (some ⟨g, o, none⟩)) (hy : a.eval y = .agg cells) (T : TypeId) (cs : Array Value) (hg : w.heap[g]? = some (.cells cs T (0, 0)))
    (hi : (P.info? ty).map (·.size) = some cells.size) (hfit : o + cells.size ≤ cs.size) (h1 : ∀ u ∈ cells.toList, u.oneCell' = true)
    (h : ∀ w', w'.heap[g]? = some (.cells (putAt cs o cells.toList) T (0, 0)) → w.grownBy w' (some g) → wpList P ops Q rest (a.put op.dst undef) w') : wpList P ops Q (op :: rest) a w :=
  wpList_store_mid hgd ty x y ho g o cells hx hy (fun j hj => ⟨by rw [cell_of_row w g (o + j) cs T (0, 0) hg]; simp; omega, frozen_of_row w g _ cs T hg⟩) hi
    (Array.all_eq_true_iff_forall_mem.2 fun v hv => h1 v (by simpa using hv)) (h _ (heap_setCells g _ o w cs hg) (grown_setCells g _ o w))
end

section
variable {P : Program} {op : Oper} {a : Act} {w : World}
/-- The same at an operation of a region that draws its order. -/
theorem exec_load_box (ty : TypeId) (x : Operand) (ho : op.op = .load ty x)
    (g o : Nat) (hx : a.eval x = .pointer (some ⟨g, o, none⟩)) (T : TypeId) (cs : Array Value) (hg : w.heap[g]? = some (.cells cs T (0, 0))) (n : Nat) (d : TypeDesc)
    (hu : P.underlying ty = some d) (hd : d.isRow = true) (hi : (P.info? ty).map (·.size) = some n) (part : List Value) (hp : (cs.toList.drop o).take n = part) (hn : part.length = n) :
    (execOp a.eval op).run P w = .ok (.value (.agg part.toArray)) w := by
  have hr : w.rangeAt g o part := fun j v hv => by
    rw [cell_of_row w g (o + j) cs T (0, 0) hg]
    have hj : j < n := by rw [← hn]; exact (List.getElem?_eq_some_iff.1 hv).1
    rw [← hp, List.getElem?_take_of_lt hj, List.getElem?_drop] at hv
    simpa using hv
  unfold execOp
  simp only [ho, hx, Instr.loadAt, Instr.sureAddr, Sem.run_bind, Sem.run_pure, Result.andThen_ok, run_loadVar_mid w g o ty part d hr hu hd (by rw [hn]; exact hi)]
theorem exec_load_range (ty : TypeId) (x : Operand) (ho : op.op = .load ty x)
    (g o : Nat) (hx : a.eval x = .pointer (some ⟨g, o, none⟩)) (part : List Value) (hr : w.rangeAt g o part) (d : TypeDesc)
    (hu : P.underlying ty = some d) (hd : d.isRow = true) (hi : (P.info? ty).map (·.size) = some part.length) :
    (execOp a.eval op).run P w = .ok (.value (.agg part.toArray)) w := by
  unfold execOp
  simp only [ho, hx, Instr.loadAt, Instr.sureAddr, Sem.run_bind, Sem.run_pure, Result.andThen_ok, run_loadVar_mid w g o ty part d hr hu hd hi]
theorem wp_store_box {K : Act → World → Prop} {Q : Exit → Act → World → Prop} (ty : TypeId) (x y : Operand) (ho : op.op = .store ty x y)
    (g o : Nat) (cells : Array Value) (hx : a.eval x = .pointer (some ⟨g, o, none⟩)) (hy : a.eval y = .agg cells) (T : TypeId) (cs : Array Value) (hg : w.heap[g]? = some (.cells cs T (0, 0)))
    (hi : (P.info? ty).map (·.size) = some cells.size) (hfit : o + cells.size ≤ cs.size) (h1 : ∀ u ∈ cells.toList, u.oneCell' = true)
    (h : ∀ w', w'.heap[g]? = some (.cells (putAt cs o cells.toList) T (0, 0)) → w.grownBy w' (some g) → K (a.put op.dst undef) w') : op.wp P a w K Q :=
  wp_store_mid ty x y ho g o cells hx hy (fun j hj => ⟨by rw [cell_of_row w g (o + j) cs T (0, 0) hg]; simp; omega, frozen_of_row w g _ cs T hg⟩) hi
    (Array.all_eq_true_iff_forall_mem.2 fun v hv => h1 v (by simpa using hv)) (h _ (heap_setCells g _ o w cs hg) (grown_setCells g _ o w))
end

theorem putAt_size : ∀ (vs : List Value) (o : Nat) (cs : Array Value), (putAt cs o vs).size = cs.size
  | [], _, _ => rfl
  | v :: r, o, cs => by rw [putAt, putAt_size r (o + 1)]; simp
theorem putAt_toList : ∀ (vs : List Value) (o : Nat) (cs : Array Value), o + vs.length ≤ cs.size → (putAt cs o vs).toList = cs.toList.take o ++ vs ++ cs.toList.drop (o + vs.length)
  | [], o, cs, _ => by simp [putAt]
  | v :: r, o, cs, h => by
    have hlt : o < cs.size := by simp at h; omega
    have ih := putAt_toList r (o + 1) (cs.setIfInBounds o v) (by simp at h ⊢; omega)
    rw [putAt, ih, Array.toList_setIfInBounds, List.take_succ_eq_append_getElem (by simpa using hlt), List.take_set_of_le (Nat.le_refl _), List.drop_set_of_lt (by omega)]
    simp [Nat.add_assoc, Nat.add_comm 1]
theorem take_splice (L c : List Value) (a N : Nat) (h : a + c.length ≤ N) (hN : N ≤ L.length) : (L.take a ++ c ++ L.drop (a + c.length)).take N = (L.take N).take a ++ c ++ (L.take N).drop (a + c.length) := by
  have hl : (L.take a ++ c).length = a + c.length := by simp; omega
  rw [List.take_append, List.take_of_length_le (by omega), List.take_take, Nat.min_eq_left (by omega), List.drop_take, hl]
/-- An element of a row of the call's own, written. -/
theorem ownsRow_stored {w w' : World} {base e k q n c : Nat} {xs cells : List Value} {cur : Array Value} (h : w.ownsRow base e k (.slice (some ⟨q, 0, none⟩) n c) n xs)
    (hc : w.heap[q]? = some (.cells cur e (0, 0))) {i : Nat} (hi : i < n) (hk : cells.length = k) (hw : w'.heap[q]? = some (.cells (putAt cur (i * k) cells) e (0, 0))) :
    w'.ownsRow base e k (.slice (some ⟨q, 0, none⟩) n c) n (xs.take (i * k) ++ cells ++ xs.drop (i * k + k)) := by
  have hle : i * k + k ≤ n * k := by
    have := Nat.mul_le_mul_right k (show i + 1 ≤ n from hi)
    rwa [Nat.add_mul, Nat.one_mul] at this
  have hl := h.1
  rcases h.2 with ⟨h0, _⟩ | ⟨g, cap, cur', hv, hb, hg, hnc, hm, hsz, ht⟩
  · cases h0
  · have e1 : q = g := by injection hv with e _ _; injection e with e; injection e
    have e2 : c = cap := by injection hv
    subst e1 e2
    obtain rfl : cur' = cur := by rw [hc] at hg; injection hg with e; injection e with e1; exact e1.symm
    have hnk : n * k ≤ cur'.size := by rw [hsz]; exact Nat.mul_le_mul_right _ hnc
    refine ⟨?_, .inr ⟨q, c, _, rfl, hb, hw, hnc, hm, by rw [putAt_size]; exact hsz, ?_⟩⟩
    · simp only [List.length_append, List.length_take, List.length_drop, hl, hk]
      omega
    · rw [putAt_toList _ _ _ (by rw [hk]; omega), ← ht, hk]
      have := take_splice cur'.toList cells (i * k) (n * k) (by omega) (by simpa using hnk)
      rw [hk] at this
      exact this

section
variable {P : Program}
/-- The results of a function: a struct in a block of its own, and a plain one. -/
theorem results_box2 {fn : Func} {p q : Tmp} {ty : TypeId} (h : fn.results = #[.cell p ty, .tmp q]) (tmps : Array Value) (w : World) (g : Nat) (T : TypeId) (cs : Array Value) (d : TypeDesc)
    (hp : tmps.getD p undef = .pointer (some ⟨g, 0, none⟩)) (hg : w.heap[g]? = some (.cells cs T (0, 0)))
    (hu : P.underlying ty = some d) (hd : (match d with | .struct _ | .array _ _ => true | _ => false) = true) (hi : (P.info? ty).map (·.size) = some cs.size) (v : Value) (hv : tmps.getD q undef = v) :
    (results fn tmps).run P w = .ok (.tuple #[.agg cs, v]) w := by
  have hp' : tmps[p]?.getD undef = .pointer (some ⟨g, 0, none⟩) := by simpa using hp
  have hv' : tmps[q]?.getD undef = v := by simpa using hv
  simp [results, h, hp', hv', asAddr, run_loadVar_row w g T ty cs (0, 0) d hg hu hd hi]
end
end Go.Proofs.YtaiegmhlgjogmaaGreat
/- A heap as plain mathematics: numbers by index, none of which is below the one above it, which stands at half its index. -/
namespace Go.Proofs.YtaiegmhlgjogmaaGreat.Ck

def par (k : Nat) : Nat := (k - 1) / 2
def swp (f : Nat → Int) (i j : Nat) : Nat → Int := fun k => if k = i then f j else if k = j then f i else f k
/-- All is in order, but for the one at j, that may be below what stands above it, and, as long as it did not move, above what stands below it. -/
def Up (f : Nat → Int) (n i j : Nat) : Prop :=
  j ≤ i ∧ (∀ k, k < n → 0 < k → k ≠ j → (par k ≠ i ∨ j ≠ i) → f (par k) ≤ f k) ∧ (∀ k, k < n → 0 < k → 0 < j → par k = j → f (par j) ≤ f k)
/-- All is in order, but for the one at i, that may be above what stands below it. -/
def Down (f : Nat → Int) (n i : Nat) : Prop :=
  (∀ k, k < n → 0 < k → par k ≠ i → f (par k) ≤ f k) ∧ (∀ k, k < n → 0 < k → 0 < i → par k = i → f (par i) ≤ f k)
def Heap (f : Nat → Int) (n : Nat) : Prop := ∀ k, k < n → 0 < k → f (par k) ≤ f k

theorem par_lt {k : Nat} (h : 0 < k) : par k < k := by unfold par; omega

theorem Up.step {f : Nat → Int} {n i j : Nat} (h : Up f n i j) (h0 : 0 < j) (hn : j < n) (hlt : f j < f (par j)) : Up (swp f j (par j)) n i (par j) := by
  obtain ⟨hj, h1, h2⟩ := h
  have hp := par_lt h0
  refine ⟨by omega, fun k hk hk0 hkp _ => ?_, fun k hk hk0 hp0 hkp => ?_⟩
  · have hpk := par_lt hk0
    unfold swp
    by_cases e1 : k = j
    · subst e1
      rw [if_neg (by omega), if_pos rfl, if_pos rfl]
      omega
    · by_cases e2 : par k = j
      · have := h2 k hk hk0 h0 e2
        rw [if_pos e2, if_neg e1, if_neg (by omega)]
        exact this
      · by_cases e3 : par k = par j
        · have := h1 k hk hk0 e1 (by omega)
          rw [e3] at this
          rw [if_neg e2, if_pos e3, if_neg e1, if_neg hkp]
          omega
        · rw [if_neg e2, if_neg e3, if_neg e1, if_neg hkp]
          exact h1 k hk hk0 e1 (by omega)
  · have hpp := par_lt hp0
    have h3 := h1 (par j) (by omega) hp0 (by omega) (by omega)
    unfold swp
    rw [if_neg (by omega), if_neg (by omega)]
    by_cases e1 : k = j
    · rw [if_pos e1]
      exact h3
    · have := h1 k hk hk0 e1 (by omega)
      rw [hkp] at this
      have hpk := par_lt hk0
      rw [if_neg e1, if_neg (by omega)]
      omega
theorem Up.over {f : Nat → Int} {n i j : Nat} (h : Up f n i j) (hs : 0 < j → f (par j) ≤ f j) : Down f n i := by
  obtain ⟨hj, h1, h2⟩ := h
  refine ⟨fun k hk hk0 hkp => ?_, fun k hk hk0 hi hkp => ?_⟩
  · by_cases e : k = j
    · subst e; exact hs hk0
    · exact h1 k hk hk0 e (.inl hkp)
  · have hpk := par_lt hk0
    by_cases e : j = i
    · subst e; exact h2 k hk hk0 hi hkp
    · have a1 := h1 k hk hk0 (by omega) (.inr e)
      have a2 := h1 i (by omega) hi (by omega) (.inr e)
      rw [hkp] at a1
      omega
theorem Down.step {f : Nat → Int} {n i c : Nat} (h : Down f n i) (hc : c < n) (hc0 : 0 < c) (hp : par c = i) (hlt : f c < f i) (hmin : ∀ d, d < n → 0 < d → par d = i → f c ≤ f d) : Down (swp f i c) n c := by
  obtain ⟨h1, h2⟩ := h
  have hpc := par_lt hc0
  refine ⟨fun k hk hk0 hkp => ?_, fun k hk hk0 _ hkp => ?_⟩
  · have hpk := par_lt hk0
    unfold swp
    by_cases e1 : k = c
    · subst e1
      rw [if_pos hp, if_neg (by omega), if_pos rfl]
      omega
    · by_cases e2 : k = i
      · subst e2
        have := h2 c hc hc0 hk0 hp
        rw [if_neg (by omega), if_neg hkp, if_pos rfl]
        exact this
      · by_cases e3 : par k = i
        · rw [if_pos e3, if_neg e2, if_neg e1]
          exact hmin k hk hk0 e3
        · rw [if_neg e3, if_neg hkp, if_neg e2, if_neg e1]
          exact h1 k hk hk0 e3
  · have hpk := par_lt hk0
    have := h1 k hk hk0 (by omega)
    rw [hkp] at this
    unfold swp
    rw [hp, if_pos rfl, if_neg (by omega), if_neg (by omega)]
    exact this
theorem Down.over {f : Nat → Int} {n i : Nat} (h : Down f n i) (hs : ∀ c, c < n → 0 < c → par c = i → f i ≤ f c) : Heap f n := by
  intro k hk hk0
  by_cases e : par k = i
  · rw [e]; exact hs k hk hk0 e
  · exact h.1 k hk hk0 e
theorem Heap.root {f : Nat → Int} {n : Nat} (h : Heap f n) : ∀ m k, k ≤ m → k < n → f 0 ≤ f k
  | 0, k, hm, _ => by obtain rfl : k = 0 := by omega
                      exact Int.le_refl _
  | m + 1, k, hm, hk => by
    by_cases e : k = 0
    · subst e; exact Int.le_refl _
    · have hp := par_lt (Nat.pos_of_ne_zero e)
      exact Int.le_trans (Heap.root h m (par k) (by omega) (by omega)) (h k hk (Nat.pos_of_ne_zero e))
theorem Heap.least {f : Nat → Int} {n k : Nat} (h : Heap f n) (hk : k < n) : f 0 ≤ f k := h.root k k (Nat.le_refl _) hk
theorem Heap.push {f : Nat → Int} {n : Nat} (h : Heap f n) : Up f (n + 1) n n :=
  ⟨Nat.le_refl _, fun k hk hk0 hkn _ => h k (by omega) hk0, fun k hk hk0 hn hp => by have := par_lt hk0; omega⟩
theorem Down.last {f : Nat → Int} {n : Nat} (h : Down f (n + 1) n) : Heap f (n + 1) := fun k hk hk0 => h.1 k hk hk0 (by have := par_lt hk0; omega)
/-- The one at i makes place for the last one. -/
theorem Heap.cut {f g : Nat → Int} {n i : Nat} (h : Heap f (n + 1)) (hi : i < n) (hg : ∀ k, k < n → k ≠ i → g k = f k) : Up g n i i := by
  refine ⟨Nat.le_refl _, fun k hk hk0 hki hp => ?_, fun k hk hk0 hi0 hp => ?_⟩
  · have hpk := par_lt hk0
    rw [hg k hk hki, hg (par k) (by omega) (by omega)]
    exact h k (by omega) hk0
  · have hpk := par_lt hk0
    have hpi := par_lt hi0
    rw [hg k hk (by omega), hg (par i) (by omega) (by omega)]
    have a1 := h k (by omega) hk0
    have a2 := h i (by omega) hi0
    rw [hp] at a1
    omega
theorem Heap.short {f g : Nat → Int} {n : Nat} (h : Heap f (n + 1)) (hg : ∀ k, k < n → g k = f k) : Heap g n := fun k hk hk0 => by
  have := par_lt hk0
  rw [hg k hk, hg _ (by omega)]
  exact h k (by omega) hk0
theorem Heap.congr {f g : Nat → Int} {n : Nat} (h : Heap f n) (hg : ∀ k, k < n → g k = f k) : Heap g n := fun k hk hk0 => by
  have := par_lt hk0
  rw [hg k hk, hg _ (by omega)]
  exact h k hk hk0

/-- What two timers are put in order by: the tick, then the name. -/
def tkey (p : Int × Int) : Int := p.1 * 18446744073709551616 + p.2
def T64 (p : Int × Int) : Prop := (-9223372036854775808 ≤ p.1 ∧ p.1 < 9223372036854775808) ∧ -9223372036854775808 ≤ p.2 ∧ p.2 < 9223372036854775808
theorem tkey_lt {a b : Int × Int} (ha : T64 a) (hb : T64 b) : tkey a < tkey b ↔ a.1 < b.1 ∨ (a.1 = b.1 ∧ a.2 < b.2) := by
  unfold tkey T64 at *
  omega
theorem tkey_inj {a b : Int × Int} (ha : T64 a) (hb : T64 b) (h : tkey a = tkey b) : a = b := by
  unfold tkey T64 at *
  apply Prod.ext <;> omega
/-- The list's keys, by index. -/
def kf (l : List (Int × Int)) (k : Nat) : Int := tkey (l.getD k (0, 0))
/-- The list with those at i and j changed. -/
def lswp (l : List (Int × Int)) (i j : Nat) : List (Int × Int) := (l.set i (l.getD j (0, 0))).set j (l.getD i (0, 0))
theorem lswp_len (l : List (Int × Int)) (i j : Nat) : (lswp l i j).length = l.length := by simp [lswp]
theorem getD_set (l : List (Int × Int)) (i k : Nat) (x d : Int × Int) (hi : i < l.length) : (l.set i x).getD k d = if k = i then x else l.getD k d := by
  simp only [List.getD_eq_getElem?_getD, List.getElem?_set]
  by_cases e : k = i
  · subst e; simp [hi]
  · rw [if_neg (fun h => e h.symm), if_neg e]
theorem kf_lswp {l : List (Int × Int)} {i j : Nat} (hi : i < l.length) (hj : j < l.length) (hne : i ≠ j) : kf (lswp l i j) = swp (kf l) i j := by
  funext k
  unfold kf lswp swp
  rw [getD_set _ _ _ _ _ (by simpa using hj), getD_set _ _ _ _ _ hi]
  by_cases e1 : k = j
  · subst e1
    rw [if_pos rfl, if_neg (fun h => hne h.symm), if_pos rfl]
  · rw [if_neg e1]
    by_cases e2 : k = i
    · rw [if_pos e2, if_pos e2]
    · rw [if_neg e2, if_neg e2, if_neg e1]
theorem set_perm {l : List (Int × Int)} {i : Nat} (hi : i < l.length) (x : Int × Int) : (l.getD i (0, 0) :: l.set i x).Perm (x :: l) := by
  induction l generalizing i with
  | nil => simp at hi
  | cons y r ih =>
    cases i with
    | zero => simpa using List.Perm.swap x y r
    | succ i =>
      have := ih (i := i) (by simpa using hi)
      simp only [List.getD_cons_succ, List.set_cons_succ]
      exact (List.Perm.swap _ _ _).trans ((List.Perm.cons y this).trans (List.Perm.swap _ _ _))
theorem lswp_perm {l : List (Int × Int)} {i j : Nat} (hi : i < l.length) (hj : j < l.length) (hne : i ≠ j) : (lswp l i j).Perm l := by
  have h1 := set_perm (l := l.set i (l.getD j (0, 0))) (i := j) (by simpa using hj) (l.getD i (0, 0))
  rw [getD_set _ _ _ _ _ hi, if_neg (fun h => hne h.symm)] at h1
  have h2 := set_perm (l := l) hi (l.getD j (0, 0))
  have h3 : (l.getD j (0, 0) :: lswp l i j).Perm (l.getD j (0, 0) :: l) := h1.trans h2
  exact (List.perm_cons _).1 h3
/-- One is taken away: the last one takes its place. -/
def lcut (l : List (Int × Int)) (i : Nat) : List (Int × Int) := (l.set i (l.getD (l.length - 1) (0, 0))).take (l.length - 1)
theorem lcut_len (l : List (Int × Int)) (i : Nat) : (lcut l i).length = l.length - 1 := by simp [lcut]
theorem getD_take (l : List (Int × Int)) (n k : Nat) (d : Int × Int) (h : k < n) : (l.take n).getD k d = l.getD k d := by
  simp [List.getD_eq_getElem?_getD, List.getElem?_take_of_lt h]
theorem take_last {l : List (Int × Int)} (h : 0 < l.length) : l = l.take (l.length - 1) ++ [l.getD (l.length - 1) (0, 0)] := by
  have e : l.drop (l.length - 1) = [l.getD (l.length - 1) (0, 0)] := by
    rw [List.drop_eq_getElem_cons (by omega), List.drop_eq_nil_of_le (by omega), List.getD_eq_getElem?_getD, List.getElem?_eq_getElem (by omega)]
    rfl
  rw [← e, List.take_append_drop]
theorem lcut_perm {l : List (Int × Int)} {i : Nat} (hi : i < l.length) : (l.getD i (0, 0) :: lcut l i).Perm l := by
  have h1 := set_perm hi (l.getD (l.length - 1) (0, 0))
  have hlen : 0 < (l.set i (l.getD (l.length - 1) (0, 0))).length := by simp; omega
  have h2 := take_last hlen
  have e1 : (l.set i (l.getD (l.length - 1) (0, 0))).length = l.length := by simp
  rw [e1, getD_set _ _ _ _ _ hi] at h2
  have e3 : (if l.length - 1 = i then l.getD (l.length - 1) (0, 0) else l.getD (l.length - 1) (0, 0)) = l.getD (l.length - 1) (0, 0) := by split <;> rfl
  rw [e3] at h2
  have h3 : (l.set i (l.getD (l.length - 1) (0, 0))).Perm (l.getD (l.length - 1) (0, 0) :: lcut l i) := by
    conv => lhs; rw [h2]
    exact List.perm_append_comm
  have h4 : (l.getD (l.length - 1) (0, 0) :: l.getD i (0, 0) :: lcut l i).Perm (l.getD (l.length - 1) (0, 0) :: l) :=
    (List.Perm.swap _ _ _).trans ((List.Perm.cons _ h3.symm).trans h1)
  exact (List.perm_cons _).1 h4
theorem kf_lcut {l : List (Int × Int)} {i : Nat} (hi : i < l.length) (k : Nat) (hk : k < l.length - 1) (hne : k ≠ i) : kf (lcut l i) k = kf l k := by
  unfold kf lcut
  rw [getD_take _ _ _ _ hk, getD_set _ _ _ _ _ hi, if_neg hne]
/-- What is left is in order, but for the one that moved. -/
theorem Heap.cutAt {l : List (Int × Int)} {i : Nat} (h : Heap (kf l) l.length) (hi : i < l.length - 1) : Up (kf (lcut l i)) (l.length - 1) i i := by
  have e : l.length = l.length - 1 + 1 := by omega
  rw [e] at h
  exact h.cut hi (fun k hk hne => kf_lcut (by omega) k hk hne)
theorem Heap.cutLast {l : List (Int × Int)} {i : Nat} (h : Heap (kf l) l.length) (hi : i = l.length - 1) (h0 : 0 < l.length) : Heap (kf (lcut l i)) (l.length - 1) := by
  have e : l.length = l.length - 1 + 1 := by omega
  rw [e] at h
  exact h.short fun k hk => kf_lcut (by omega) k hk (by omega)
end Go.Proofs.YtaiegmhlgjogmaaGreat.Ck
/- Rows of the call's own, carried over; the cells that were there. -/
namespace Go.Proofs.YtaiegmhlgjogmaaGreat
open Go.RowKit

theorem bcell {W w1 : World} (hb : Below W.heap.size W w1) : (∀ b o, b < W.heap.size → w1.cell? ⟨b, o, none⟩ = W.cell? ⟨b, o, none⟩) ∧ (∀ b o, b < W.heap.size → w1.frozen? ⟨b, o, none⟩ = W.frozen? ⟨b, o, none⟩) :=
  ⟨fun b o h => hb.cell (p := ⟨b, o, none⟩) h, fun b o h => hb.frozen (p := ⟨b, o, none⟩) h⟩

/-- A row of the call's own is as it was where no block from its base on was written. -/
theorem own_same {w w' : World} {base e size n : Nat} {v : Value} {xs : List Value} (h : w.ownsRow base e size v n xs) (hk : ∀ g, base ≤ g → w'.heap[g]? = w.heap[g]?) : w'.ownsRow base e size v n xs := by
  refine ⟨h.1, ?_⟩
  rcases h.2 with hn | ⟨g, cap, cur, rfl, hb, hg, rest⟩
  · exact .inl hn
  · exact .inr ⟨g, cap, cur, rfl, hb, (hk g hb).trans hg, rest⟩
theorem own_holds {w : World} {base e n c : Nat} {A : Option Addr} {l : List Nat} (h : w.ownsRow base e 1 (.slice A n c) n (bvs l)) (hs : ∀ x ∈ l, x < 256) : n ≤ c ∧ Holds w w.heap.size A n l := by
  obtain ⟨A', c', h1, h2, _, h3⟩ := Holds.of_own h hs
  injection h1 with e1 e2 e3
  subst e1 e3
  exact ⟨h2, h3⟩

theorem own_base {w : World} {base base' e size n : Nat} {v : Value} {xs : List Value} (h : w.ownsRow base e size v n xs) (hb : base' ≤ base) : w.ownsRow base' e size v n xs := by
  refine ⟨h.1, ?_⟩
  rcases h.2 with hn | ⟨g, cap, cur, rfl, hg, rest⟩
  · exact .inl hn
  · exact .inr ⟨g, cap, cur, rfl, by omega, rest⟩

/-- A row of bytes of the call's own: where it lies, its cells, a cell that is written. -/
theorem own_at {w : World} {base e n : Nat} {v : Value} {l : List Nat} (h : w.ownsRow base e 1 v n (bvs l)) (hn : 0 < n) : ∃ g c, v = .slice (some ⟨g, 0, none⟩) n c ∧ base ≤ g ∧ g < w.heap.size ∧ n ≤ c ∧ c ≤ maxLen := by
  rcases h.2 with ⟨_, h0⟩ | ⟨g, cap, cur, hv, hb, hg, hnc, hm, _⟩
  · omega
  · refine ⟨g, cap, hv, hb, ?_, hnc, hm⟩
    rcases Nat.lt_or_ge g w.heap.size with hlt | hge
    · exact hlt
    · rw [Array.getElem?_eq_none hge] at hg
      cases hg
theorem own_cell {w : World} {base e g n c : Nat} {l : List Nat} (h : w.ownsRow base e 1 (.slice (some ⟨g, 0, none⟩) n c) n (bvs l)) {i : Nat} (hi : i < n) : w.cell? ⟨g, i, none⟩ = some (.int .u8 ((l.getD i 0 : Nat) : Int)) := by
  have hl : l.length = n := by have := h.1; rw [bvs_len] at this; omega
  have h1 := h.cellAt i (by omega)
  rw [h1, bvs_get (by omega)]
theorem own_set {w : World} {base e g n c : Nat} {l : List Nat} (h : w.ownsRow base e 1 (.slice (some ⟨g, 0, none⟩) n c) n (bvs l)) (i x : Nat) :
    (w.setCell ⟨g, i, none⟩ (.int .u8 (x : Int))).ownsRow base e 1 (.slice (some ⟨g, 0, none⟩) n c) n (bvs (l.set i x)) ∧ w.grownBy (w.setCell ⟨g, i, none⟩ (.int .u8 (x : Int))) (some g) := by
  have h1 := h.stored i (.int .u8 (x : Int))
  have e1 : bvs (l.set i x) = (bvs l).set i (.int .u8 (x : Int)) := by simp [bvs, bv, List.map_set]
  rw [e1]
  exact h1
end Go.Proofs.YtaiegmhlgjogmaaGreat
/- What is said of memory, for slices of int: a slice that holds a list of integers, nil and empty ones among them; a row of ints that the call itself made. -/
namespace Go.Proofs.YtaiegmhlgjogmaaGreat
open Go.RowKit

def iv (x : Int) : Value := .int .i64 x
def ivs (l : List Int) : List Value := l.map iv

theorem ivs_len (l : List Int) : (ivs l).length = l.length := by simp [ivs]
theorem ivs_append (a b : List Int) : ivs (a ++ b) = ivs a ++ ivs b := by simp [ivs]
theorem ivs_one (x : Int) : ivs [x] = [.int .i64 x] := rfl
theorem ivs_cell (l : List Int) : ∀ u ∈ ivs l, u.oneCell' = true := by
  intro u hu
  obtain ⟨_, _, rfl⟩ := List.mem_map.1 hu
  rfl
theorem ivs_get {l : List Int} {i : Nat} (h : i < l.length) : (ivs l)[i]? = some (.int .i64 (l.getD i 0)) := by
  simp [ivs, iv, h]
theorem ivs_set (l : List Int) (i : Nat) (x : Int) : ivs (l.set i x) = (ivs l).set i (.int .i64 x) := by simp [ivs, iv, List.map_set]

/-- All of them fit an int. -/
def Fit (l : List Int) : Prop := ∀ x ∈ l, -9223372036854775808 ≤ x ∧ x < 9223372036854775808
theorem Fit.get {l : List Int} (h : Fit l) (i : Nat) : -9223372036854775808 ≤ l.getD i 0 ∧ l.getD i 0 < 9223372036854775808 := by
  by_cases hi : i < l.length
  · have e : l.getD i 0 = l[i] := by simp [List.getD, hi]
    rw [e]
    exact h _ (List.getElem_mem hi)
  · have e : l.getD i 0 = 0 := by simp [List.getD, Nat.not_lt.1 hi]
    rw [e]
    decide

/-- The slice at 'A', of 'n' ints, holds the list l, in a block below B. -/
def IHolds (w : World) (B : Nat) (A : Option Addr) (n : Nat) (l : List Int) : Prop :=
  l.length = n ∧ Fit l ∧ (0 < n → ∃ b off, A = some ⟨b, off, none⟩ ∧ b < B ∧ ∀ i, i < n → w.cell? ⟨b, off + i, none⟩ = some (.int .i64 (l.getD i 0)))

section
variable {w w' : World} {B B' : Nat} {A : Option Addr} {n : Nat} {l : List Int}
theorem IHolds.nil_ (w : World) (B : Nat) : IHolds w B none 0 [] := ⟨rfl, by simp [Fit], fun h => by omega⟩
theorem IHolds.keep (h : IHolds w B A n l) (hk : ∀ p : Addr, p.block < B → w'.cell? p = w.cell? p) : IHolds w' B A n l :=
  ⟨h.1, h.2.1, fun hn => by
    obtain ⟨b, off, e, hb, hc⟩ := h.2.2 hn
    exact ⟨b, off, e, hb, fun i hi => (hk ⟨b, off + i, none⟩ hb).trans (hc i hi)⟩⟩
theorem IHolds.below (h : IHolds w B A n l) (hb : Below B w w') : IHolds w' B A n l := h.keep fun _ hp => hb.cell hp
theorem IHolds.more (h : IHolds w B A n l) (hB : B ≤ B') : IHolds w B' A n l :=
  ⟨h.1, h.2.1, fun hn => by
    obtain ⟨b, off, e, hb, hc⟩ := h.2.2 hn
    exact ⟨b, off, e, by omega, hc⟩⟩
theorem IHolds.drew (h : IHolds w B A n l) : IHolds w.drew B A n l := h
theorem IHolds.drewN (h : IHolds w B A n l) (k : Nat) : IHolds (w.drewN k) B A n l := h
/-- The cell of one of them, at an address that is there. -/
theorem IHolds.at_ (h : IHolds w B A n l) {i : Nat} (hi : i < n) : ∃ b off, A = some ⟨b, off, none⟩ ∧ b < B ∧ w.cell? ⟨b, off + i, none⟩ = some (.int .i64 (l.getD i 0)) := by
  obtain ⟨b, off, e, hb, hc⟩ := h.2.2 (by omega)
  exact ⟨b, off, e, hb, hc i hi⟩
/-- A row of the call's own is such a slice. -/
theorem IHolds.of_own {base e : Nat} {v : Value} (h : w.ownsRow base e 1 v n (ivs l)) (hs : Fit l) : ∃ A c, v = .slice A n c ∧ n ≤ c ∧ (A = none → c = 0) ∧ IHolds w w.heap.size A n l := by
  have hl : l.length = n := by have := h.1; rw [ivs_len] at this; omega
  rcases h.2 with ⟨rfl, rfl⟩ | ⟨g, cap, cur, rfl, _, hg, hnc, _, _, _⟩
  · exact ⟨none, 0, rfl, Nat.le_refl _, fun _ => rfl, hl, hs, fun h => by omega⟩
  · refine ⟨some ⟨g, 0, none⟩, cap, rfl, hnc, (fun h => by cases h), hl, hs, fun hn => ⟨g, 0, rfl, ?_, fun i hi => ?_⟩⟩
    · exact (Array.getElem?_eq_some_iff.1 hg).1
    · have := h.cellAt i (by omega)
      rw [Nat.zero_add, this, ivs_get (by omega)]
end

/-- What a call hands back that makes ints: a slice of the call's own, that holds l; nothing that was there has turned. -/
def NewInts (w : World) (l : List Int) (e : Ending) (w' : World) : Prop :=
  ∃ A n c, e = .returned (.slice A n c) ∧ w'.ownsRow w.heap.size 3 1 (.slice A n c) n (ivs l) ∧ IHolds w' w'.heap.size A n l ∧ n ≤ c ∧ Below w.heap.size w w'

theorem Tryz.infoI64 : (Tryz.prog.info? 3).map (fun i => (i.zero, i.size, i.bytes)) = some (some (.int .i64 0), 1, 8) := by kernel_rfl

section
variable {P : Program} (w : World)
/-- 'append(row, l...)', the row the call's own, l whatever slice of ints. -/
theorem run_append_ints (base : Nat) (t ty e : TypeId) (i : TypeInfo) (z : Value) (ht : P.underlying t = some (.slice e)) (hi : P.info? e = some i) (hz : i.zero = some z)
    (hsize : i.size = 1) (hby : i.bytes = 8) (hzs : z.cells.size = 1)
    (v : Value) (n : Nat) (xs : List Value) (hown : w.ownsRow base e 1 v n xs)
    (B : Nat) (A : Option Addr) (m c : Nat) (l : List Int) (hl : IHolds w B A m l) (hroom : n + m ≤ 8796093022208) (hbase : base ≤ w.heap.size) :
    ∃ v' w', (Builtin.append_ #[t, t] ty #[v, .slice A m c]).run P w = .ok v' w' ∧ w'.ownsRow base e 1 v' (n + m) (xs ++ ivs l) ∧ Went w v.ownBlock w' v'.ownBlock := by
  have hlen := hl.1
  rcases A with _ | ad
  · have hm : m = 0 := by
      rcases Nat.eq_zero_or_pos m with h | h
      · exact h
      · obtain ⟨_, _, h, _⟩ := hl.2.2 h
        cases h
    subst hm
    have : l = [] := List.eq_nil_of_length_eq_zero hlen
    subst this
    refine ⟨v, w, ?_, by simpa [ivs] using hown, Went.refl w _⟩
    rcases hown.2 with ⟨rfl, rfl⟩ | ⟨g, cap, cur, rfl, _, _, hnc, _⟩
    · simp [Builtin.append_, run_underlying ht, sizeOf, typeInfo, hi, Builtin.lenOf, Builtin.firstCells]
    · simp [Builtin.append_, run_underlying ht, sizeOf, typeInfo, hi, Builtin.lenOf, Builtin.firstCells, hnc, storeCells]
  · obtain ⟨v', w', h1, h2, h3, _, h5⟩ := run_append_own_at (P := P) w base t ty e i z 1 8 ht hi hz hsize hby hzs (by omega) v n xs hown ad m c (ivs l) (by rw [ivs_len, hlen, Nat.mul_one])
      (fun j u hu => by
        have hj : j < l.length := by
          have := (List.getElem?_eq_some_iff.1 hu).1
          rwa [ivs_len] at this
        obtain ⟨b, off, h, _, hc⟩ := hl.2.2 (by omega)
        obtain rfl := Option.some.inj h
        rw [ivs_get hj] at hu
        rw [Addr.add_lit, hc j (by omega)]
        exact hu) (ivs_cell _) (by simp only [maxLen]; omega) (by omega) hbase
    exact ⟨v', w', h1, h2, .of_at h3 h5⟩

theorem wpList_append_ints {ops : Array Oper} {rest : List Oper} {o : Oper} {a : Act} {Q : Exit → Act → World → Prop} (hgd : o.guard = none) (s x : Operand) (t : TypeId)
    (ho : o.op = .call { callee := .builtin .append, args := #[s, x], argTypes := #[t, t] })
    (base : Nat) (e : TypeId) (i : TypeInfo) (z : Value) (ht : P.underlying t = some (.slice e)) (hi : P.info? e = some i) (hz : i.zero = some z)
    (hsize : i.size = 1) (hby : i.bytes = 8) (hzs : z.cells.size = 1)
    (v : Value) (n : Nat) (xs : List Value) (hs : a.eval s = v) (hown : w.ownsRow base e 1 v n xs)
    (B : Nat) (A : Option Addr) (m c : Nat) (l : List Int) (hx : a.eval x = .slice A m c) (hl : IHolds w B A m l) (hroom : n + m ≤ 8796093022208) (hbase : base ≤ w.heap.size)
    (h : ∀ v' w', w'.ownsRow base e 1 v' (n + m) (xs ++ ivs l) → Went w v.ownBlock w' v'.ownBlock → wpList P ops Q rest (a.put o.dst v') w') : wpList P ops Q (o :: rest) a w := by
  refine wpList_plain hgd fun K hK => ?_
  obtain ⟨v', w', hr, h2, h3⟩ := run_append_ints (P := P) w base t o.type e i z ht hi hz hsize hby hzs v n xs hown B A m c l hl hroom hbase
  unfold Oper.wp execOp
  simp only [ho, resolve, invoke, builtin, Sem.run_bind, Sem.run_pure, Result.andThen_ok, List.map_toArray, List.map_cons, List.map_nil, hs, hx, hr]
  exact hK _ _ (h v' w' h2 h3)
end

/-- A row of ints of the call's own: where it lies, its cells, a cell that is written. -/
theorem iown_at {w : World} {base e n : Nat} {v : Value} {xs : List Value} (h : w.ownsRow base e 1 v n xs) (hn : 0 < n) : ∃ g c, v = .slice (some ⟨g, 0, none⟩) n c ∧ base ≤ g ∧ g < w.heap.size ∧ n ≤ c ∧ c ≤ maxLen := by
  rcases h.2 with ⟨_, h0⟩ | ⟨g, cap, cur, hv, hb, hg, hnc, hm, _⟩
  · omega
  · exact ⟨g, cap, hv, hb, lt_of_block hg, hnc, hm⟩
theorem iown_cell {w : World} {base e g n c : Nat} {l : List Int} (h : w.ownsRow base e 1 (.slice (some ⟨g, 0, none⟩) n c) n (ivs l)) {i : Nat} (hi : i < n) : w.cell? ⟨g, i, none⟩ = some (.int .i64 (l.getD i 0)) := by
  have hl : l.length = n := by have := h.1; rw [ivs_len] at this; omega
  have h1 := h.cellAt i (by omega)
  rw [h1, ivs_get (by omega)]
theorem iown_free {w : World} {base e g n c : Nat} {xs : List Value} (h : w.ownsRow base e 1 (.slice (some ⟨g, 0, none⟩) n c) n xs) (i : Nat) : w.frozen? ⟨g, i, none⟩ = false := by
  rcases h.2 with ⟨h0, _⟩ | ⟨g', cap, cur, hv, hb, hg, _⟩
  · cases h0
  · simp only [Value.slice.injEq, Option.some.injEq, Addr.mk.injEq, and_true, true_and] at hv
    obtain ⟨rfl, _⟩ := hv
    simp [World.frozen?, hg]
theorem iown_set {w : World} {base e g n c : Nat} {l : List Int} (h : w.ownsRow base e 1 (.slice (some ⟨g, 0, none⟩) n c) n (ivs l)) (i : Nat) (x : Int) :
    (w.setCell ⟨g, i, none⟩ (.int .i64 x)).ownsRow base e 1 (.slice (some ⟨g, 0, none⟩) n c) n (ivs (l.set i x)) ∧ w.grownBy (w.setCell ⟨g, i, none⟩ (.int .i64 x)) (some g) := by
  have h1 := h.stored i (.int .i64 x)
  rw [ivs_set]
  exact h1
theorem own_whole {w : World} {base e g n : Nat} {xs : List Value} (h : w.ownsRow base e 1 (.slice (some ⟨g, 0, none⟩) n n) n xs) : w.heap[g]? = some (.cells xs.toArray e (0, 0)) := by
  rcases h.2 with ⟨h0, _⟩ | ⟨g', cap, cur, hv, _, hg, _, _, hs, ht⟩
  · cases h0
  · simp only [Value.slice.injEq, Option.some.injEq, Addr.mk.injEq, and_true, true_and] at hv
    obtain ⟨rfl, rfl⟩ := hv
    rw [Nat.mul_one] at hs ht
    rw [List.take_of_length_le (by simp [hs])] at ht
    rw [hg, ← ht]
theorem own_of_whole {w : World} {base e g n : Nat} {xs : List Value} (h : w.heap[g]? = some (.cells xs.toArray e (0, 0))) (hl : xs.length = n) (hb : base ≤ g) (hn : n ≤ maxLen) : w.ownsRow base e 1 (.slice (some ⟨g, 0, none⟩) n n) n xs :=
  ⟨by omega, .inr ⟨g, n, xs.toArray, rfl, hb, h, Nat.le_refl _, hn, by simp [hl], by rw [Nat.mul_one]; simp [← hl]⟩⟩
theorem splice_all {cur cs : List Value} (h : cur.length = cs.length) : splice cur 0 cs = cs := by simp [splice, ← h]

/-- 'copy(row, l)', the row made of the same length. -/
theorem wpList_copy_ints {w : World} {ops : Array Oper} {rest : List Oper} {o : Oper} {a : Act} {Q : Exit → Act → World → Prop} (hgd : o.guard = none) (d s : Operand)
    (ho : o.op = .call { callee := .builtin .copy, args := #[d, s], argTypes := #[40, 40] })
    (base g n : Nat) (A : Option Addr) (cap B : Nat) (l : List Int) (xs : List Value) (hd : a.eval d = .slice (some ⟨g, 0, none⟩) n n) (hs : a.eval s = .slice A n cap)
    (hown : w.ownsRow base 3 1 (.slice (some ⟨g, 0, none⟩) n n) n xs) (hl : IHolds w B A n l) (hg : base ≤ g) (hn : n ≤ maxLen)
    (h : ∀ w', Hid (w'.ownsRow base 3 1 (.slice (some ⟨g, 0, none⟩) n n) n (ivs l)) → Hid (Below base w w') → wpList Tryz.prog ops Q rest (a.put o.dst (goInt n)) w') : wpList Tryz.prog ops Q (o :: rest) a w := by
  obtain ⟨i0, hi, hz0, hz1, hz2⟩ := info_parts Tryz.infoI64
  have hsz : (Tryz.prog.info? 3).map (·.size) = some 1 := by rw [hi, ← hz1]; rfl
  have hlen : (ivs l).length = n := by rw [ivs_len, hl.1]
  have hxs : xs.length = n := by have := hown.1; omega
  refine wpList_copy_splice hgd d s 40 40 ho 3 Tryz.underlying40 hsz (some ⟨g, 0, none⟩) A n n n cap hd hs g 0 xs 3 (own_whole hown) (ivs l) (by rw [hlen]; simp) (fun h0 => ?_) (by omega) (ivs_cell _) base w (Below.refl _ _) hg (fun w' h1 h2 => ?_)
  · rw [hlen] at h0
    obtain ⟨b, off, e1, _, hc⟩ := hl.2.2 h0
    refine ⟨rfl, _, e1, fun j u hu => ?_⟩
    have hj : j < l.length := by
      have := (List.getElem?_eq_some_iff.1 hu).1
      rwa [ivs_len] at this
    rw [ivs_get hj] at hu
    rw [Addr.add_lit, ← hu]
    exact hc j (by have := hl.1; omega)
  · rw [hlen]
    refine h w' ?_ h2
    have h3 := h1.out
    rw [splice_all (by omega)] at h3
    exact own_of_whole h3 hlen hg hn
end Go.Proofs.YtaiegmhlgjogmaaGreat
/- Timers in memory: two cells each, in a row of the program's own; before and above of package clock. -/
namespace Go.Proofs.YtaiegmhlgjogmaaGreat.Ck
open Go.RowKit

def tcell (p : Int × Int) : List Value := [.int .i64 p.1, .int .i64 p.2]
def tagg (p : Int × Int) : Value := .agg #[.int .i64 p.1, .int .i64 p.2]
def tcells (l : List (Int × Int)) : List Value := l.flatMap tcell
theorem tcells_len (l : List (Int × Int)) : (tcells l).length = l.length * 2 := flat_len tcell 2 l fun _ _ => rfl
theorem tcells_cell (l : List (Int × Int)) : ∀ u ∈ tcells l, u.oneCell' = true := by
  intro u hu
  obtain ⟨p, _, hp⟩ := List.mem_flatMap.1 hu
  simp only [tcell, List.mem_cons, List.not_mem_nil, or_false] at hp
  rcases hp with rfl | rfl <;> rfl
theorem tcells_append (a b : List (Int × Int)) : tcells (a ++ b) = tcells a ++ tcells b := by simp [tcells]
theorem tcells_single (p : Int × Int) : tcells [p] = tcell p := by simp [tcells]
theorem tcells_get (l : List (Int × Int)) (i : Nat) (hi : i < l.length) : ((tcells l).drop (i * 2)).take 2 = tcell (l.getD i (0, 0)) := by
  refine flat_get tcell 2 l i _ (fun _ _ => rfl) ?_
  simp [List.getD_eq_getElem?_getD, hi]
theorem tcells_set (l : List (Int × Int)) (i : Nat) (x : Int × Int) (hi : i < l.length) : tcells (l.set i x) = ((tcells l).set (i * 2) (.int .i64 x.1)).set (i * 2 + 1) (.int .i64 x.2) := by
  induction l generalizing i with
  | nil => simp at hi
  | cons y r ih =>
    cases i with
    | zero => simp [tcells, tcell]
    | succ i =>
      have := ih i (by simpa using hi)
      simp only [tcells, tcell, List.set_cons_succ, List.flatMap_cons, List.cons_append, List.nil_append] at this ⊢
      rw [this, show (i + 1) * 2 = i * 2 + 1 + 1 from by omega]
      simp only [List.set_cons_succ]
theorem tcells_take : ∀ (l : List (Int × Int)) (k : Nat), (tcells l).take (k * 2) = tcells (l.take k)
  | [], k => by simp [tcells]
  | y :: r, 0 => by simp [tcells]
  | y :: r, k + 1 => by
    have := tcells_take r k
    simp only [tcells, tcell, List.take_succ_cons, List.flatMap_cons, List.cons_append, List.nil_append] at this ⊢
    rw [show (k + 1) * 2 = k * 2 + 1 + 1 from by omega]
    simp only [List.take_succ_cons, this]

/-- A row of timers of the program's own: block g. -/
def TRow (w : World) (base g n c : Nat) (l : List (Int × Int)) : Prop := w.ownsRow base 156 2 (.slice (some ⟨g, 0, none⟩) n c) n (tcells l)
section
variable {w w' : World} {base g n c : Nat} {l : List (Int × Int)}
theorem TRow.len (h : TRow w base g n c l) : l.length = n := by
  have := h.1
  rw [tcells_len] at this
  omega
theorem TRow.own (h : TRow w base g n c l) : ∃ cur : Array Value, base ≤ g ∧ w.heap[g]? = some (.cells cur 156 (0, 0)) ∧ n ≤ c ∧ c ≤ maxLen ∧ cur.size = c * 2 ∧ cur.toList.take (n * 2) = tcells l := by
  rcases h.2 with ⟨h0, _⟩ | ⟨g', cap, cur, hv, hb, hg, hnc, hm, hs, ht⟩
  · cases h0
  · simp only [Value.slice.injEq, Option.some.injEq, Addr.mk.injEq, and_true, true_and] at hv
    obtain ⟨rfl, rfl⟩ := hv
    exact ⟨cur, hb, hg, hnc, hm, hs, ht⟩
theorem TRow.lt (h : TRow w base g n c l) : base ≤ g ∧ g < w.heap.size := by
  obtain ⟨cur, hb, hg, _⟩ := h.own
  exact ⟨hb, lt_of_block hg⟩
theorem TRow.cap (h : TRow w base g n c l) : n ≤ c ∧ c ≤ maxLen := by
  obtain ⟨cur, _, _, h1, h2, _⟩ := h.own
  exact ⟨h1, h2⟩
theorem TRow.range (h : TRow w base g n c l) {i : Nat} (hi : i < n) : w.rangeAt g (i * 2) (tcell (l.getD i (0, 0))) := by
  have hl := h.len
  intro j u hj
  have hj2 : j < 2 := by have := (List.getElem?_eq_some_iff.1 hj).1; simpa [tcell] using this
  rw [← tcells_get l i (by omega), List.getElem?_take_of_lt hj2, List.getElem?_drop] at hj
  exact h.cellAt (i * 2 + j) (by omega) |>.trans hj
theorem TRow.free (h : TRow w base g n c l) (j : Nat) : w.frozen? ⟨g, j, none⟩ = false := by
  obtain ⟨cur, _, hg, _⟩ := h.own
  exact frozen_of_row w g j cur _ hg
theorem TRow.kept (h : TRow w base g n c l) (hk : w'.heap[g]? = w.heap[g]?) : TRow w' base g n c l := by
  obtain ⟨cur, hb, hg, h1, h2, h3, h4⟩ := h.own
  exact ⟨h.1, .inr ⟨g, c, cur, rfl, hb, hk.trans hg, h1, h2, h3, h4⟩⟩
theorem TRow.later (h : TRow w base g n c l) (hb : Below w.heap.size w w') : TRow w' base g n c l := h.kept (hb.block g h.lt.2)
/-- The first k of them. -/
theorem TRow.cut (h : TRow w base g n c l) {k : Nat} (hk : k ≤ n) : TRow w base g k c (l.take k) := by
  obtain ⟨cur, hb, hg, h1, h2, h3, h4⟩ := h.own
  have hl := h.len
  refine ⟨by rw [tcells_len, List.length_take]; omega, .inr ⟨g, c, cur, rfl, hb, hg, by omega, h2, h3, ?_⟩⟩
  rw [← tcells_take, ← h4, List.take_take, Nat.min_eq_left (by omega)]
/-- One of them is written. -/
theorem TRow.stored (h : TRow w base g n c l) {i : Nat} (hi : i < n) (x : Int × Int) : TRow (w.setCells g (i * 2) (tcell x)) base g n c (l.set i x) ∧ w.grownBy (w.setCells g (i * 2) (tcell x)) (some g) := by
  refine ⟨?_, grown_setCells g _ _ w⟩
  obtain ⟨cur, hb, hg, h1, h2, h3, h4⟩ := h.own
  have hl := h.len
  have hput := heap_setCells g (tcell x) (i * 2) w cur hg
  refine ⟨by rw [tcells_len, List.length_set]; omega, .inr ⟨g, c, putAt cur (i * 2) (tcell x), rfl, hb, hput, h1, h2, by rw [putAt_size]; exact h3, ?_⟩⟩
  have e : (putAt cur (i * 2) (tcell x)).toList = (cur.toList.set (i * 2) (.int .i64 x.1)).set (i * 2 + 1) (.int .i64 x.2) := by simp [putAt, tcell]
  rw [e, List.take_set, List.take_set, h4, tcells_set _ _ _ (by omega)]

theorem TRow.laterD (h : TRow w base g n c l) (hl : Below w.heap.size w.drew w') : TRow w' base g n c l := h.kept (hl.block g h.lt.2)
theorem TRow.drew (h : TRow w base g n c l) : TRow w.drew base g n c l := h
/-- One of them is read, and one is written, at an operation. -/
theorem exec_load_timer {op : Oper} {a : Act} (x : Operand) (ho : op.op = .load 156 x) (h : TRow w base g n c l) {i : Nat} (hi : i < n) (hx : a.eval x = .pointer (some ⟨g, i * 2, none⟩)) :
    (execOp a.eval op).run Tryz.prog w = .ok (.value (tagg (l.getD i (0, 0)))) w :=
  exec_load_range 156 x ho g (i * 2) hx _ (h.range hi) _ Tryz.underlying156 (by rfl) (by kernel_rfl)
theorem wp_store_timer {op : Oper} {a : Act} {K : Act → World → Prop} {Q : Exit → Act → World → Prop} (x y : Operand) (ho : op.op = .store 156 x y) (h : TRow w base g n c l) {i : Nat} (hi : i < n) (p : Int × Int)
    (hx : a.eval x = .pointer (some ⟨g, i * 2, none⟩)) (hy : a.eval y = tagg p) (hK : ∀ w', TRow w' base g n c (l.set i p) → w.grownBy w' (some g) → K (a.put op.dst undef) w') : op.wp Tryz.prog a w K Q := by
  obtain ⟨k1, k2⟩ := h.stored hi p
  refine wp_store_mid 156 x y ho g (i * 2) #[.int .i64 p.1, .int .i64 p.2] hx hy (fun j hj => ?_) (by kernel_rfl) (by simp [Value.oneCell']) (hK _ k1 k2)
  have hj2 : j < 2 := by simpa using hj
  have hr := h.range hi
  refine ⟨?_, h.free _⟩
  have : (tcell (l.getD i (0, 0)))[j]? = some ((tcell (l.getD i (0, 0)))[j]'(by simpa [tcell] using hj2)) := List.getElem?_eq_getElem _
  rw [hr j _ this]
  rfl
end

theorem above_any (i : Nat) (w : World) (h0 : 0 < i) (h1 : i ≤ 1000000000) : Calls Tryz.prog 201 #[.int .i64 (i : Int)] w fun e w' => e = .returned (.int .i64 (par i : Int)) ∧ w = w' := by
  have hp : (par i : Int) = ((i : Int) - 1) / 2 := by unfold par; omega
  have HP := hide hp
  clear hp
  go_enter Tryz.func201, Tryz.ntmps201
  go_wp2
  go_ret
  exact ⟨ret_int HP.out.symm, rfl⟩

theorem before_any (a b : Int × Int) (w : World) (ha : T64 a) (hb : T64 b) : Calls Tryz.prog 200 #[tagg a, tagg b] w fun e w' => e = .returned (.bool (decide (tkey a < tkey b))) ∧ Below w.heap.size w w' := by
  have hk := tkey_lt ha hb
  obtain ⟨a1, a2⟩ := a
  obtain ⟨b1, b2⟩ := b
  obtain ⟨⟨k1, k2⟩, k3, k4⟩ := ha
  obtain ⟨⟨j1, j2⟩, j3, j4⟩ := hb
  simp only at k1 k2 k3 k4 j1 j2 j3 j4
  unfold tagg
  simp only at hk ⊢
  have hbw : Below w.heap.size w ((w.alloc (.cells #[.int .i64 a1, .int .i64 a2] 156 (0, 0))).alloc (.cells #[.int .i64 b1, .int .i64 b2] 156 (0, 0))) := ((Below.refl _ _).alloc (Nat.le_refl _) _).alloc (by simp) _
  have HBW := hide hbw
  clear hbw
  by_cases he : a1 = b1
  · subst he
    have HK : Hid (decide (tkey (a1, a2) < tkey (a1, b2)) = decide (a2 < b2)) := by
      show _ = _
      rw [Bool.eq_iff_iff, decide_eq_true_eq, decide_eq_true_eq, hk]
      omega
    clear hk
    have ht : (a1 != a1) = false := by simp
    go_enter Tryz.func200, Tryz.ntmps200
    go_wp2
    go_ret
    exact ⟨ret_bool HK.out.symm, HBW.out⟩
  · have HK : Hid (decide (tkey (a1, a2) < tkey (b1, b2)) = decide (a1 < b1)) := by
      show _ = _
      rw [Bool.eq_iff_iff, decide_eq_true_eq, decide_eq_true_eq, hk]
      omega
    clear hk
    have ht : (a1 != b1) = true := by simpa using he
    clear he
    go_enter Tryz.func200, Tryz.ntmps200
    go_wp2
    go_ret
    exact ⟨ret_bool HK.out.symm, HBW.out⟩
end Go.Proofs.YtaiegmhlgjogmaaGreat.Ck
/- A region whose order is open, of calls that make memory beside operations that read what earlier calls made: what reads the same in all later worlds may come up at once. -/
namespace Go.Proofs.YtaiegmhlgjogmaaGreat
open Go.RowKit

/-- The later world: what was there has not turned. -/
def Later (w w' : World) : Prop := Below w.heap.size w w'
theorem Later.refl (w : World) : Later w w := Below.refl _ _
theorem Later.trans {a b c : World} (h : Later a b) (k : Later b c) : Later a c := Below.trans h (Below.mono k h.size)
theorem Later.drew (w : World) : Later w w.drew := (Below.refl _ _).drew

section
variable {P : Program} {ops : Array Oper} {Q : Exit → Act → World → Prop} {md : Region.Mode}

/-- Whatever order is picked from here on, and behind each operation the world is a later one. -/
def wpAnyL (P : Program) (md : Region.Mode) (ops : Array Oper) (Q : Exit → Act → World → Prop) : Nat → Array Bool → Act → World → Prop
  | 0, listed, a, w => Region.ready md ops listed = [] ∧ Q .normal a w
  | fuel + 1, listed, a, w =>
    (Region.ready md ops listed = [] → Q .normal a w) ∧
    ∀ i ∈ Region.ready md ops listed, wpOp P ops Q i (fun a' w' => Later w w' ∧ wpAnyL P md ops Q fuel (listed.setIfInBounds i true) a' w') a w

theorem wpAny_of_L : ∀ (fuel : Nat) (listed : Array Bool) (a : Act) (w : World), wpAnyL P md ops Q fuel listed a w → wpAny P md ops Q fuel listed a w
  | 0, _, _, _, h => h
  | fuel + 1, _, _, _, h => ⟨h.1, fun i hi => wpOp_mono (fun a' w' h' => wpAny_of_L fuel _ a' w' h'.2) (h.2 i hi)⟩

/-- What yields its value in all later worlds does so in those that are later than a later one. -/
theorem yields_later {o : Oper} {v : Value} {a : Act} {w w' : World} (h : YieldsIf P ops (Later w) o v a) (hl : Later w w') : YieldsIf P ops (Later w') o v a :=
  h.imp (fun ⟨hw, hv⟩ => ⟨hw, fun u hu => hv u (hl.trans hu)⟩) id

/-- Such an operation, if it may come up, may come up at once. -/
theorem wpAnyL_first {i : Nat} {oi : Oper} {v : Value} (hi : ops[i]? = some oi) (hsel : ∀ (j : Nat) (o : Oper) cs b, ops[j]? = some o → o.op ≠ .select cs b)
    (hQ : ∀ c a w, Q (.panic c) (a.put oi.dst v) w → Q (.panic c) a w) :
    ∀ (fuel : Nat) (listed : Array Bool) (a : Act) (w : World),
      (∀ j oj, ops[j]? = some oj → j ≠ i → listed.getD j true = false → (∀ e ∈ oj.after, Region.binds md e = true → e.on ≠ i) → oi.apart ops oj = true) →
      i ∈ Region.ready md ops listed → YieldsIf P ops (Later w) oi v a →
      wpAnyL P md ops Q fuel (listed.setIfInBounds i true) (a.put oi.dst v) w → wpAnyL P md ops Q (fuel + 1) listed a w := by
  intro fuel
  induction fuel with
  | zero =>
    intro listed a w _ hr hy H
    refine ⟨fun h => (by rw [h] at hr; cases hr), fun j hj => ?_⟩
    by_cases hji : j = i
    · subst hji
      exact hy.wpOp hi (Later.refl w) ⟨Later.refl w, H⟩
    · have := ready_mono hj hji
      rw [H.1] at this
      cases this
  | succ fuel ih =>
    intro listed a w hfree hr hy H
    refine ⟨fun h => (by rw [h] at hr; cases hr), fun j hj => ?_⟩
    by_cases hji : j = i
    · subst hji
      exact hy.wpOp hi (Later.refl w) ⟨Later.refl w, H⟩
    · have h1 := H.2 j (ready_mono hj hji)
      obtain ⟨hjun, oj, hoj, hall⟩ := mem_ready.1 hj
      have hnot : ∀ e ∈ oj.after, Region.binds md e = true → e.on ≠ i := fun e he hb heq => by
        have q1 := hall e he hb
        have q0 := (mem_ready.1 hr).1
        rw [heq] at q1
        rcases Nat.lt_or_ge i listed.size with h' | h'
        · simp [h'] at q0 q1
          rw [q0] at q1
          cases q1
        · simp [Array.getElem?_eq_none h'] at q1
      have h2 := wpOp_putIf hoj (hfree j oj hoj hji hjun hnot) (fun cs b => hsel i oi cs b hi) (fun cs b => hsel j oj cs b hoj) hQ hy h1
      have hfree' : ∀ k ok, ops[k]? = some ok → k ≠ i → (listed.setIfInBounds j true).getD k true = false →
          (∀ e ∈ ok.after, Region.binds md e = true → e.on ≠ i) → oi.apart ops ok = true := fun k ok hk hki hun hno => by
        refine hfree k ok hk hki ?_ hno
        by_cases hjk : j = k
        · subst hjk; exact hjun
        · rw [getD_set_ne true hjk] at hun; exact hun
      refine wpOp_mono (fun a' w' h3 => ⟨h3.2.1, ih (listed.setIfInBounds j true) a' w' hfree' (ready_mono hr (Ne.symm hji)) (yields_later h3.1 h3.2.1) ?_⟩) h2
      rw [Array.setIfInBounds_comm _ _ hji]
      exact h3.2.2

/-- The moves: an operation that may come up at once; the one that must; the end; the beginning. -/
theorem wpAnyL_take {i : Nat} {oi : Oper} {d : Option Tmp} {v : Value} {fuel : Nat} {listed : Array Bool} {a : Act} {w : World} (hi : ops[i]? = some oi) (hd : oi.dst = d)
    (hs : Region.noSelect ops = true) (hf : Region.free md ops listed i = true) (hr : (Region.ready md ops listed).contains i = true)
    (hQ : ∀ c a w, Q (.panic c) (a.put d v) w → Q (.panic c) a w) (hw : Region.wanted oi (yielded ops a.tmps) = true) (hy : ∀ w', Later w w' → (execOp a.eval oi).run P w' = .ok (.value v) w')
    (h : wpAnyL P md ops Q fuel (listed.setIfInBounds i true) (a.put d v) w) : wpAnyL P md ops Q (fuel + 1) listed a w := by
  subst hd
  exact wpAnyL_first hi (Region.noSelect_spec hs) hQ fuel listed a w (Region.free_spec hi hf) (by simpa using hr) (.inl ⟨hw, hy⟩) h

theorem wpAnyL_pass {i : Nat} {oi : Oper} {d : Option Tmp} {fuel : Nat} {listed : Array Bool} {a : Act} {w : World} (hi : ops[i]? = some oi) (hd : oi.dst = d)
    (hs : Region.noSelect ops = true) (hf : Region.free md ops listed i = true) (hr : (Region.ready md ops listed).contains i = true)
    (hQ : ∀ c a w, Q (.panic c) (a.put d undef) w → Q (.panic c) a w) (hw : Region.wanted oi (yielded ops a.tmps) = false)
    (h : wpAnyL P md ops Q fuel (listed.setIfInBounds i true) (a.put d undef) w) : wpAnyL P md ops Q (fuel + 1) listed a w := by
  subst hd
  exact wpAnyL_first hi (Region.noSelect_spec hs) hQ fuel listed a w (Region.free_spec hi hf) (by simpa using hr) (.inr ⟨hw, rfl⟩) h

theorem wpAnyL_only {i : Nat} {o : Oper} {fuel : Nat} {listed : Array Bool} {a : Act} {w : World} (ho : ops[i]? = some o) (hr : Region.ready md ops listed = [i]) (hw : Region.wanted o (yielded ops a.tmps) = true)
    (h : ∀ K' : Act → World → Prop, Hid (∀ a' w', Later w w' → wpAnyL P md ops Q fuel (listed.setIfInBounds i true) a' w' → K' a' w') → Oper.wp P o a w K' Q) : wpAnyL P md ops Q (fuel + 1) listed a w := by
  refine ⟨fun h0 => absurd (hr ▸ h0) (by simp), fun j hj => ?_⟩
  rw [hr] at hj
  obtain rfl : j = i := by simpa using hj
  refine wpOp_step ho fun K' hK => ?_
  rw [if_pos hw]
  exact h K' fun a' w' hl hn => hK a' w' ⟨hl, hn⟩

theorem wpAnyL_two {i j : Nat} {oi oj : Oper} {fuel : Nat} {listed : Array Bool} {a : Act} {w : World} (hoi : ops[i]? = some oi) (hoj : ops[j]? = some oj) (hr : Region.ready md ops listed = [i, j])
    (hwi : Region.wanted oi (yielded ops a.tmps) = true) (hwj : Region.wanted oj (yielded ops a.tmps) = true)
    (hi : ∀ K' : Act → World → Prop, Hid (∀ a' w', Later w w' → wpAnyL P md ops Q fuel (listed.setIfInBounds i true) a' w' → K' a' w') → Oper.wp P oi a w K' Q)
    (hj : ∀ K' : Act → World → Prop, Hid (∀ a' w', Later w w' → wpAnyL P md ops Q fuel (listed.setIfInBounds j true) a' w' → K' a' w') → Oper.wp P oj a w K' Q) : wpAnyL P md ops Q (fuel + 1) listed a w := by
  refine ⟨fun h0 => absurd (hr ▸ h0) (by simp), fun k hk => ?_⟩
  rw [hr] at hk
  rcases List.mem_cons.1 hk with rfl | hk
  · refine wpOp_step hoi fun K' hK => ?_
    rw [if_pos hwi]
    exact hi K' fun a' w' hl hn => hK a' w' ⟨hl, hn⟩
  · obtain rfl : k = j := by simpa using hk
    refine wpOp_step hoj fun K' hK => ?_
    rw [if_pos hwj]
    exact hj K' fun a' w' hl hn => hK a' w' ⟨hl, hn⟩

theorem wpAnyL_done {listed : Array Bool} {a : Act} {w : World} (hr : Region.ready md ops listed = []) (h : Q .normal a w) : ∀ fuel, wpAnyL P md ops Q fuel listed a w
  | 0 => ⟨hr, h⟩
  | _ + 1 => ⟨fun _ => h, by rw [hr]; simp⟩

theorem wp_region_L {id : Nat} {a : Act} {w : World} (hm : P.follows .mixedOrders = true)
    (h : wpAnyL P .any ops Q ops.size (Array.replicate ops.size false) a w.drew) : (Code.region id ops true).wp P Q a w :=
  wp_region_any hm (wpAny_of_L _ _ _ _ h)
end

end Go.Proofs.YtaiegmhlgjogmaaGreat
/- A region whose order is open, of calls that turn but one part of memory beside operations that read another: as text Order, over whatever relation of worlds. -/
namespace Go.Proofs.YtaiegmhlgjogmaaGreat
open Go.RowKit

/-- A relation of worlds that goes on. -/
def Pre (R : World → World → Prop) : Prop := (∀ w, R w w) ∧ ∀ {a b c : World}, R a b → R b c → R a c
theorem pre_grown (r : Option Nat) : Pre (fun a b => a.grownBy b r) := ⟨fun w => World.grownBy.refl w r, fun h k => h.trans k⟩

section
variable {P : Program} {ops : Array Oper} {Q : Exit → Act → World → Prop} {md : Region.Mode} {R : World → World → Prop}

/-- Whatever order is picked from here on, and behind each operation the world is a later one. -/
def wpAnyR (R : World → World → Prop) (P : Program) (md : Region.Mode) (ops : Array Oper) (Q : Exit → Act → World → Prop) : Nat → Array Bool → Act → World → Prop
  | 0, listed, a, w => Region.ready md ops listed = [] ∧ Q .normal a w
  | fuel + 1, listed, a, w =>
    (Region.ready md ops listed = [] → Q .normal a w) ∧
    ∀ i ∈ Region.ready md ops listed, wpOp P ops Q i (fun a' w' => R w w' ∧ wpAnyR R P md ops Q fuel (listed.setIfInBounds i true) a' w') a w

theorem wpAny_of_R : ∀ (fuel : Nat) (listed : Array Bool) (a : Act) (w : World), wpAnyR R P md ops Q fuel listed a w → wpAny P md ops Q fuel listed a w
  | 0, _, _, _, h => h
  | fuel + 1, _, _, _, h => ⟨h.1, fun i hi => wpOp_mono (fun a' w' h' => wpAny_of_R fuel _ a' w' h'.2) (h.2 i hi)⟩

/-- What yields its value in all later worlds does so in those that are later than a later one. -/
theorem yields_rel {o : Oper} {v : Value} {a : Act} {w w' : World} (h : YieldsIf P ops (R w) o v a) (hR : Pre R) (hl : R w w') : YieldsIf P ops (R w') o v a :=
  h.imp (fun ⟨hw, hv⟩ => ⟨hw, fun u hu => hv u (hR.2 hl hu)⟩) id

/-- Such an operation, if it may come up, may come up at once. -/
theorem wpAnyR_first (hR : Pre R) {i : Nat} {oi : Oper} {v : Value} (hi : ops[i]? = some oi) (hsel : ∀ (j : Nat) (o : Oper) cs b, ops[j]? = some o → o.op ≠ .select cs b)
    (hQ : ∀ c a w, Q (.panic c) (a.put oi.dst v) w → Q (.panic c) a w) :
    ∀ (fuel : Nat) (listed : Array Bool) (a : Act) (w : World),
      (∀ j oj, ops[j]? = some oj → j ≠ i → listed.getD j true = false → (∀ e ∈ oj.after, Region.binds md e = true → e.on ≠ i) → oi.apart ops oj = true) →
      i ∈ Region.ready md ops listed → YieldsIf P ops (R w) oi v a →
      wpAnyR R P md ops Q fuel (listed.setIfInBounds i true) (a.put oi.dst v) w → wpAnyR R P md ops Q (fuel + 1) listed a w := by
  intro fuel
  induction fuel with
  | zero =>
    intro listed a w _ hr hy H
    refine ⟨fun h => (by rw [h] at hr; cases hr), fun j hj => ?_⟩
    by_cases hji : j = i
    · subst hji
      exact hy.wpOp hi (hR.1 w) ⟨hR.1 w, H⟩
    · have := ready_mono hj hji
      rw [H.1] at this
      cases this
  | succ fuel ih =>
    intro listed a w hfree hr hy H
    refine ⟨fun h => (by rw [h] at hr; cases hr), fun j hj => ?_⟩
    by_cases hji : j = i
    · subst hji
      exact hy.wpOp hi (hR.1 w) ⟨hR.1 w, H⟩
    · have h1 := H.2 j (ready_mono hj hji)
      obtain ⟨hjun, oj, hoj, hall⟩ := mem_ready.1 hj
      have hnot : ∀ e ∈ oj.after, Region.binds md e = true → e.on ≠ i := fun e he hb heq => by
        have q1 := hall e he hb
        have q0 := (mem_ready.1 hr).1
        rw [heq] at q1
        rcases Nat.lt_or_ge i listed.size with h' | h'
        · simp [h'] at q0 q1
          rw [q0] at q1
          cases q1
        · simp [Array.getElem?_eq_none h'] at q1
      have h2 := wpOp_putIf hoj (hfree j oj hoj hji hjun hnot) (fun cs b => hsel i oi cs b hi) (fun cs b => hsel j oj cs b hoj) hQ hy h1
      have hfree' : ∀ k ok, ops[k]? = some ok → k ≠ i → (listed.setIfInBounds j true).getD k true = false →
          (∀ e ∈ ok.after, Region.binds md e = true → e.on ≠ i) → oi.apart ops ok = true := fun k ok hk hki hun hno => by
        refine hfree k ok hk hki ?_ hno
        by_cases hjk : j = k
        · subst hjk; exact hjun
        · rw [getD_set_ne true hjk] at hun; exact hun
      refine wpOp_mono (fun a' w' h3 => ⟨h3.2.1, ih (listed.setIfInBounds j true) a' w' hfree' (ready_mono hr (Ne.symm hji)) (yields_rel h3.1 hR h3.2.1) ?_⟩) h2
      rw [Array.setIfInBounds_comm _ _ hji]
      exact h3.2.2

/-- The moves: an operation that may come up at once; the one that must; the end; the beginning. -/
theorem wpAnyR_take (hR : Pre R) {i : Nat} {oi : Oper} {d : Option Tmp} {v : Value} {fuel : Nat} {listed : Array Bool} {a : Act} {w : World} (hi : ops[i]? = some oi) (hd : oi.dst = d)
    (hs : Region.noSelect ops = true) (hf : Region.free md ops listed i = true) (hr : (Region.ready md ops listed).contains i = true)
    (hQ : ∀ c a w, Q (.panic c) (a.put d v) w → Q (.panic c) a w) (hw : Region.wanted oi (yielded ops a.tmps) = true) (hy : ∀ w', R w w' → (execOp a.eval oi).run P w' = .ok (.value v) w')
    (h : wpAnyR R P md ops Q fuel (listed.setIfInBounds i true) (a.put d v) w) : wpAnyR R P md ops Q (fuel + 1) listed a w := by
  subst hd
  exact wpAnyR_first hR hi (Region.noSelect_spec hs) hQ fuel listed a w (Region.free_spec hi hf) (by simpa using hr) (.inl ⟨hw, hy⟩) h

theorem wpAnyR_pass (hR : Pre R) {i : Nat} {oi : Oper} {d : Option Tmp} {fuel : Nat} {listed : Array Bool} {a : Act} {w : World} (hi : ops[i]? = some oi) (hd : oi.dst = d)
    (hs : Region.noSelect ops = true) (hf : Region.free md ops listed i = true) (hr : (Region.ready md ops listed).contains i = true)
    (hQ : ∀ c a w, Q (.panic c) (a.put d undef) w → Q (.panic c) a w) (hw : Region.wanted oi (yielded ops a.tmps) = false)
    (h : wpAnyR R P md ops Q fuel (listed.setIfInBounds i true) (a.put d undef) w) : wpAnyR R P md ops Q (fuel + 1) listed a w := by
  subst hd
  exact wpAnyR_first hR hi (Region.noSelect_spec hs) hQ fuel listed a w (Region.free_spec hi hf) (by simpa using hr) (.inr ⟨hw, rfl⟩) h

theorem wpAnyR_only {i : Nat} {o : Oper} {fuel : Nat} {listed : Array Bool} {a : Act} {w : World} (ho : ops[i]? = some o) (hr : Region.ready md ops listed = [i]) (hw : Region.wanted o (yielded ops a.tmps) = true)
    (h : ∀ K' : Act → World → Prop, Hid (∀ a' w', R w w' → wpAnyR R P md ops Q fuel (listed.setIfInBounds i true) a' w' → K' a' w') → Oper.wp P o a w K' Q) : wpAnyR R P md ops Q (fuel + 1) listed a w := by
  refine ⟨fun h0 => absurd (hr ▸ h0) (by simp), fun j hj => ?_⟩
  rw [hr] at hj
  obtain rfl : j = i := by simpa using hj
  refine wpOp_step ho fun K' hK => ?_
  rw [if_pos hw]
  exact h K' fun a' w' hl hn => hK a' w' ⟨hl, hn⟩

theorem wpAnyR_two {i j : Nat} {oi oj : Oper} {fuel : Nat} {listed : Array Bool} {a : Act} {w : World} (hoi : ops[i]? = some oi) (hoj : ops[j]? = some oj) (hr : Region.ready md ops listed = [i, j])
    (hwi : Region.wanted oi (yielded ops a.tmps) = true) (hwj : Region.wanted oj (yielded ops a.tmps) = true)
    (hi : ∀ K' : Act → World → Prop, Hid (∀ a' w', R w w' → wpAnyR R P md ops Q fuel (listed.setIfInBounds i true) a' w' → K' a' w') → Oper.wp P oi a w K' Q)
    (hj : ∀ K' : Act → World → Prop, Hid (∀ a' w', R w w' → wpAnyR R P md ops Q fuel (listed.setIfInBounds j true) a' w' → K' a' w') → Oper.wp P oj a w K' Q) : wpAnyR R P md ops Q (fuel + 1) listed a w := by
  refine ⟨fun h0 => absurd (hr ▸ h0) (by simp), fun k hk => ?_⟩
  rw [hr] at hk
  rcases List.mem_cons.1 hk with rfl | hk
  · refine wpOp_step hoi fun K' hK => ?_
    rw [if_pos hwi]
    exact hi K' fun a' w' hl hn => hK a' w' ⟨hl, hn⟩
  · obtain rfl : k = j := by simpa using hk
    refine wpOp_step hoj fun K' hK => ?_
    rw [if_pos hwj]
    exact hj K' fun a' w' hl hn => hK a' w' ⟨hl, hn⟩

theorem wpAnyR_done {listed : Array Bool} {a : Act} {w : World} (hr : Region.ready md ops listed = []) (h : Q .normal a w) : ∀ fuel, wpAnyR R P md ops Q fuel listed a w
  | 0 => ⟨hr, h⟩
  | _ + 1 => ⟨fun _ => h, by rw [hr]; simp⟩

theorem wp_region_R {id : Nat} {a : Act} {w : World} (hm : P.follows .mixedOrders = true)
    (h : wpAnyR R P .any ops Q ops.size (Array.replicate ops.size false) a w.drew) : (Code.region id ops true).wp P Q a w :=
  wp_region_any hm (wpAny_of_R _ _ _ _ h)
end

end Go.Proofs.YtaiegmhlgjogmaaGreat
/- A region whose order is open, some of whose operations write what others read: the writers wait for those; what reads the same in all worlds may come up at once, and so may what all writers wait for. -/
namespace Go.Proofs.YtaiegmhlgjogmaaGreat
open Go.RowKit

section
variable {P : Program} {ops : Array Oper} {Q : Exit → Act → World → Prop} {md : Region.Mode} {S : Nat → Bool}

/-- Whatever order is picked from here on; behind each operation that is no writer the world is a later one. -/
def wpAnyS (S : Nat → Bool) (P : Program) (md : Region.Mode) (ops : Array Oper) (Q : Exit → Act → World → Prop) : Nat → Array Bool → Act → World → Prop
  | 0, listed, a, w => Region.ready md ops listed = [] ∧ Q .normal a w
  | fuel + 1, listed, a, w =>
    (Region.ready md ops listed = [] → Q .normal a w) ∧
    ∀ i ∈ Region.ready md ops listed, wpOp P ops Q i (fun a' w' => (S i = false → Later w w') ∧ wpAnyS S P md ops Q fuel (listed.setIfInBounds i true) a' w') a w

theorem wpAny_of_S : ∀ (fuel : Nat) (listed : Array Bool) (a : Act) (w : World), wpAnyS S P md ops Q fuel listed a w → wpAny P md ops Q fuel listed a w
  | 0, _, _, _, h => h
  | fuel + 1, _, _, _, h => ⟨h.1, fun i hi => wpOp_mono (fun a' w' h' => wpAny_of_S fuel _ a' w' h'.2) (h.2 i hi)⟩

/-- What is listed stands behind what it waits for. -/
def Closed (md : Region.Mode) (ops : Array Oper) (listed : Array Bool) : Prop := ∀ m om, ops[m]? = some om → listed.getD m false = true → ∀ e ∈ om.after, Region.binds md e = true → listed.getD e.on false = true
def closedB (md : Region.Mode) (ops : Array Oper) (listed : Array Bool) : Bool :=
  (List.range ops.size).all fun m => !listed.getD m false || (match ops[m]? with | some o => o.after.all (fun e => !Region.binds md e || listed.getD e.on false) | none => true)
theorem closed_spec {listed : Array Bool} (h : closedB md ops listed = true) : Closed md ops listed := by
  intro m om hm hl e he hb
  unfold closedB at h
  rw [List.all_eq_true] at h
  have h1 := h m (by rw [List.mem_range]; exact (Array.getElem?_eq_some_iff.1 hm).1)
  rw [hm, hl] at h1
  simp only [Bool.not_true, Bool.false_or] at h1
  rw [Array.all_eq_true] at h1
  obtain ⟨k, hk, rfl⟩ := Array.mem_iff_getElem.1 he
  have h2 := h1 k hk
  rw [hb] at h2
  simpa using h2
theorem getD_set_listed {listed : Array Bool} {j k : Nat} (h : (listed.setIfInBounds j true).getD k false = true) : k = j ∨ listed.getD k false = true := by
  by_cases e : j = k
  · exact .inl e.symm
  · rw [getD_set_ne false e] at h
    exact .inr h
theorem getD_set_more {listed : Array Bool} {j k : Nat} (h : listed.getD k false = true) : (listed.setIfInBounds j true).getD k false = true := by
  by_cases e : j = k
  · subst e
    have hj : j < listed.size := by
      rcases Nat.lt_or_ge j listed.size with h' | h'
      · exact h'
      · simp [Array.getElem?_eq_none h'] at h
    simp [hj]
  · rw [getD_set_ne false e]
    exact h
theorem Closed.next {listed : Array Bool} (h : Closed md ops listed) {j : Nat} (hj : j ∈ Region.ready md ops listed) : Closed md ops (listed.setIfInBounds j true) := by
  obtain ⟨_, oj, hoj, hall⟩ := mem_ready.1 hj
  intro m om hm hl e he hb
  rcases getD_set_listed hl with rfl | hl
  · rw [hoj] at hm
    obtain rfl := Option.some.inj hm
    exact getD_set_more (hall e he hb)
  · exact getD_set_more (h m om hm hl e he hb)
/-- The operation j waits for i. -/
def reaches (md : Region.Mode) (ops : Array Oper) : Nat → Nat → Nat → Bool
  | 0, _, _ => false
  | f + 1, j, i => match ops[j]? with | some o => o.after.any (fun e => Region.binds md e && (e.on == i || reaches md ops f e.on i)) | none => false
theorem reaches_spec {listed : Array Bool} (hc : Closed md ops listed) {i : Nat} : ∀ (f j : Nat) (oj : Oper), ops[j]? = some oj → (∀ e ∈ oj.after, Region.binds md e = true → listed.getD e.on false = true) → reaches md ops f j i = true → listed.getD i false = true
  | 0, _, _, _, _, h => by simp [reaches] at h
  | f + 1, j, oj, hj, hall, h => by
    unfold reaches at h
    rw [hj] at h
    simp only at h
    rw [Array.any_eq_true] at h
    obtain ⟨k, hk, h2⟩ := h
    simp only [Bool.and_eq_true, Bool.or_eq_true, beq_iff_eq] at h2
    have hl := hall _ (Array.getElem_mem hk) h2.1
    rcases h2.2 with h3 | h3
    · rw [← h3]; exact hl
    · rcases hm : ops[oj.after[k].on]? with _ | om
      · cases f with
        | zero => simp [reaches] at h3
        | succ f => unfold reaches at h3; rw [hm] at h3; cases h3
      · exact reaches_spec hc f _ om hm (fun e he hb => hc _ om hm hl e he hb) h3

/-- Such an operation, if it may come up, may come up at once. -/
theorem wpAnyS_first (T : World → World → Prop) (hT : Pre T) {i : Nat} {oi : Oper} {v : Value} (hi : ops[i]? = some oi) (hsel : ∀ (j : Nat) (o : Oper) cs b, ops[j]? = some o → o.op ≠ .select cs b)
    (hQ : ∀ c a w, Q (.panic c) (a.put oi.dst v) w → Q (.panic c) a w)
    (hst : ∀ (listed : Array Bool) (j : Nat), Closed md ops listed → i ∈ Region.ready md ops listed → j ∈ Region.ready md ops listed → ∀ w w' : World, (S j = false → Later w w') → T w w') :
    ∀ (fuel : Nat) (listed : Array Bool) (a : Act) (w : World), Closed md ops listed →
      (∀ j oj, ops[j]? = some oj → j ≠ i → listed.getD j true = false → (∀ e ∈ oj.after, Region.binds md e = true → e.on ≠ i) → oi.apart ops oj = true) →
      i ∈ Region.ready md ops listed → YieldsIf P ops (T w) oi v a →
      wpAnyS S P md ops Q fuel (listed.setIfInBounds i true) (a.put oi.dst v) w → wpAnyS S P md ops Q (fuel + 1) listed a w := by
  intro fuel
  induction fuel with
  | zero =>
    intro listed a w _ _ hr hy H
    refine ⟨fun h => (by rw [h] at hr; cases hr), fun j hj => ?_⟩
    by_cases hji : j = i
    · subst hji
      exact hy.wpOp hi (hT.1 w) ⟨fun _ => Later.refl w, H⟩
    · have := ready_mono hj hji
      rw [H.1] at this
      cases this
  | succ fuel ih =>
    intro listed a w hcl hfree hr hy H
    refine ⟨fun h => (by rw [h] at hr; cases hr), fun j hj => ?_⟩
    by_cases hji : j = i
    · subst hji
      exact hy.wpOp hi (hT.1 w) ⟨fun _ => Later.refl w, H⟩
    · have h1 := H.2 j (ready_mono hj hji)
      obtain ⟨hjun, oj, hoj, hall⟩ := mem_ready.1 hj
      have hnot : ∀ e ∈ oj.after, Region.binds md e = true → e.on ≠ i := fun e he hb heq => by
        have q1 := hall e he hb
        have q0 := (mem_ready.1 hr).1
        rw [heq] at q1
        rcases Nat.lt_or_ge i listed.size with h' | h'
        · simp [h'] at q0 q1
          rw [q0] at q1
          cases q1
        · simp [Array.getElem?_eq_none h'] at q1
      have h2 := wpOp_putIf hoj (hfree j oj hoj hji hjun hnot) (fun cs b => hsel i oi cs b hi) (fun cs b => hsel j oj cs b hoj) hQ hy h1
      have hfree' : ∀ k ok, ops[k]? = some ok → k ≠ i → (listed.setIfInBounds j true).getD k true = false →
          (∀ e ∈ ok.after, Region.binds md e = true → e.on ≠ i) → oi.apart ops ok = true := fun k ok hk hki hun hno => by
        refine hfree k ok hk hki ?_ hno
        by_cases hjk : j = k
        · subst hjk; exact hjun
        · rw [getD_set_ne true hjk] at hun; exact hun
      refine wpOp_mono (fun a' w' h3 => ⟨h3.2.1, ih (listed.setIfInBounds j true) a' w' (hcl.next hj) hfree' (ready_mono hr (Ne.symm hji)) (yields_rel h3.1 hT (hst listed j hcl hr hj w w' h3.2.1)) ?_⟩) h2
      rw [Array.setIfInBounds_comm _ _ hji]
      exact h3.2.2

/-- All writers wait for the operation i. -/
def waited (S : Nat → Bool) (md : Region.Mode) (ops : Array Oper) (i : Nat) : Bool := (List.range ops.size).all fun j => !S j || reaches md ops ops.size j i
theorem waited_spec {i : Nat} (h : waited S md ops i = true) {listed : Array Bool} (hc : Closed md ops listed) (hi : i ∈ Region.ready md ops listed) {j : Nat} (hj : j ∈ Region.ready md ops listed) : S j = false := by
  obtain ⟨_, oj, hoj, hall⟩ := mem_ready.1 hj
  have hun := (mem_ready.1 hi).1
  unfold waited at h
  rw [List.all_eq_true] at h
  have h1 := h j (by rw [List.mem_range]; exact (Array.getElem?_eq_some_iff.1 hoj).1)
  simp only [Bool.or_eq_true, Bool.not_eq_true'] at h1
  rcases h1 with h1 | h1
  · exact h1
  · have h2 := reaches_spec hc _ j oj hoj hall h1
    rcases Nat.lt_or_ge i listed.size with h' | h'
    · simp [h'] at hun h2
      rw [hun] at h2
      cases h2
    · simp [Array.getElem?_eq_none h'] at h2

theorem pre_later : Pre Later := ⟨Later.refl, fun h k => Later.trans h k⟩
theorem pre_all : Pre (fun _ _ => True) := ⟨fun _ => trivial, fun _ _ => trivial⟩

/-- The moves: an operation that all writers wait for; one that reads no memory; one that is not wanted; the one that must; a writer; the end; the beginning. -/
theorem wpAnyS_take {i : Nat} {oi : Oper} {d : Option Tmp} {v : Value} {fuel : Nat} {listed : Array Bool} {a : Act} {w : World} (hi : ops[i]? = some oi) (hd : oi.dst = d)
    (hs : Region.noSelect ops = true) (hcl : closedB md ops listed = true) (hwt : waited S md ops i = true) (hf : Region.free md ops listed i = true) (hr : (Region.ready md ops listed).contains i = true)
    (hQ : ∀ c a w, Q (.panic c) (a.put d v) w → Q (.panic c) a w) (hw : Region.wanted oi (yielded ops a.tmps) = true) (hy : ∀ w', Later w w' → (execOp a.eval oi).run P w' = .ok (.value v) w')
    (h : wpAnyS S P md ops Q fuel (listed.setIfInBounds i true) (a.put d v) w) : wpAnyS S P md ops Q (fuel + 1) listed a w := by
  subst hd
  exact wpAnyS_first Later pre_later hi (Region.noSelect_spec hs) hQ (fun _ _ hc h1 h2 _ _ hl => hl (waited_spec hwt hc h1 h2)) fuel listed a w (closed_spec hcl) (Region.free_spec hi hf) (by simpa using hr) (.inl ⟨hw, hy⟩) h
theorem wpAnyS_pure {i : Nat} {oi : Oper} {d : Option Tmp} {v : Value} {fuel : Nat} {listed : Array Bool} {a : Act} {w : World} (hi : ops[i]? = some oi) (hd : oi.dst = d)
    (hs : Region.noSelect ops = true) (hcl : closedB md ops listed = true) (hf : Region.free md ops listed i = true) (hr : (Region.ready md ops listed).contains i = true)
    (hQ : ∀ c a w, Q (.panic c) (a.put d v) w → Q (.panic c) a w) (hw : Region.wanted oi (yielded ops a.tmps) = true) (hy : ∀ w', (execOp a.eval oi).run P w' = .ok (.value v) w')
    (h : wpAnyS S P md ops Q fuel (listed.setIfInBounds i true) (a.put d v) w) : wpAnyS S P md ops Q (fuel + 1) listed a w := by
  subst hd
  exact wpAnyS_first (fun _ _ => True) pre_all hi (Region.noSelect_spec hs) hQ (fun _ _ _ _ _ _ _ _ => trivial) fuel listed a w (closed_spec hcl) (Region.free_spec hi hf) (by simpa using hr) (.inl ⟨hw, fun w' _ => hy w'⟩) h
theorem wpAnyS_pass {i : Nat} {oi : Oper} {d : Option Tmp} {fuel : Nat} {listed : Array Bool} {a : Act} {w : World} (hi : ops[i]? = some oi) (hd : oi.dst = d)
    (hs : Region.noSelect ops = true) (hcl : closedB md ops listed = true) (hf : Region.free md ops listed i = true) (hr : (Region.ready md ops listed).contains i = true)
    (hQ : ∀ c a w, Q (.panic c) (a.put d undef) w → Q (.panic c) a w) (hw : Region.wanted oi (yielded ops a.tmps) = false)
    (h : wpAnyS S P md ops Q fuel (listed.setIfInBounds i true) (a.put d undef) w) : wpAnyS S P md ops Q (fuel + 1) listed a w := by
  subst hd
  exact wpAnyS_first (fun _ _ => True) pre_all hi (Region.noSelect_spec hs) hQ (fun _ _ _ _ _ _ _ _ => trivial) fuel listed a w (closed_spec hcl) (Region.free_spec hi hf) (by simpa using hr) (.inr ⟨hw, rfl⟩) h
theorem wpAnyS_only {i : Nat} {o : Oper} {fuel : Nat} {listed : Array Bool} {a : Act} {w : World} (ho : ops[i]? = some o) (hr : Region.ready md ops listed = [i]) (hw : Region.wanted o (yielded ops a.tmps) = true)
    (h : ∀ K' : Act → World → Prop, Hid (∀ a' w', Later w w' → wpAnyS S P md ops Q fuel (listed.setIfInBounds i true) a' w' → K' a' w') → Oper.wp P o a w K' Q) : wpAnyS S P md ops Q (fuel + 1) listed a w := by
  refine ⟨fun h0 => absurd (hr ▸ h0) (by simp), fun j hj => ?_⟩
  rw [hr] at hj
  obtain rfl : j = i := by simpa using hj
  refine wpOp_step ho fun K' hK => ?_
  rw [if_pos hw]
  exact h K' fun a' w' hl hn => hK a' w' ⟨fun _ => hl, hn⟩
theorem wpAnyS_write {i : Nat} {o : Oper} {fuel : Nat} {listed : Array Bool} {a : Act} {w : World} (ho : ops[i]? = some o) (hS : S i = true) (hr : Region.ready md ops listed = [i]) (hw : Region.wanted o (yielded ops a.tmps) = true)
    (h : ∀ K' : Act → World → Prop, Hid (∀ a' w', wpAnyS S P md ops Q fuel (listed.setIfInBounds i true) a' w' → K' a' w') → Oper.wp P o a w K' Q) : wpAnyS S P md ops Q (fuel + 1) listed a w := by
  refine ⟨fun h0 => absurd (hr ▸ h0) (by simp), fun j hj => ?_⟩
  rw [hr] at hj
  obtain rfl : j = i := by simpa using hj
  refine wpOp_step ho fun K' hK => ?_
  rw [if_pos hw]
  exact h K' fun a' w' hn => hK a' w' ⟨(fun h0 => by rw [hS] at h0; cases h0), hn⟩
theorem wpAnyS_done {listed : Array Bool} {a : Act} {w : World} (hr : Region.ready md ops listed = []) (h : Q .normal a w) : ∀ fuel, wpAnyS S P md ops Q fuel listed a w
  | 0 => ⟨hr, h⟩
  | _ + 1 => ⟨fun _ => h, by rw [hr]; simp⟩
theorem wp_region_S (S : Nat → Bool) {id : Nat} {a : Act} {w : World} (hm : P.follows .mixedOrders = true)
    (h : wpAnyS S P .any ops Q ops.size (Array.replicate ops.size false) a w.drew) : (Code.region id ops true).wp P Q a w :=
  wp_region_any hm (wpAny_of_S _ _ _ _ h)
end

end Go.Proofs.YtaiegmhlgjogmaaGreat
/- rise of package clock. -/
namespace Go.Proofs.YtaiegmhlgjogmaaGreat.Ck
open Go.RowKit

theorem grown_of_drew {a b : World} {r : Option Nat} (h : a.drew.grownBy b r) : a.grownBy b r := ⟨h.os, h.tape, h.output, h.size, h.block⟩
/-- What a walk through the heap leaves: the same timers, in a row in place of the other; all else is as it was. -/
structure HeapTo (w w' : World) (base g n c : Nat) (l l' : List (Int × Int)) : Prop where
  perm : l'.Perm l
  row : TRow w' base g n c l'
  grown : w.grownBy w' (some g)
section
variable {w w1 w2 : World} {base g n c : Nat} {l l' l2 : List (Int × Int)}
theorem HeapTo.refl (h : TRow w base g n c l) : HeapTo w w base g n c l l := ⟨List.Perm.refl _, h, World.grownBy.refl _ _⟩
theorem HeapTo.later (h : HeapTo w w1 base g n c l l') (hb : Below w1.heap.size w1 w2) : HeapTo w w2 base g n c l l' := ⟨h.perm, h.row.later hb, grown_trans h.grown (grown_later hb _)⟩
theorem HeapTo.swapped (h : HeapTo w w1 base g n c l l') {i j : Nat} (hi : i < n) (hj : j < n) (hne : i ≠ j) (hr : TRow w2 base g n c (lswp l' i j)) (hg : w1.grownBy w2 (some g)) : HeapTo w w2 base g n c l (lswp l' i j) :=
  ⟨(lswp_perm (by have := h.row.len; omega) (by have := h.row.len; omega) hne).trans h.perm, hr, grown_trans h.grown hg⟩
theorem HeapTo.t64 (h : HeapTo w w1 base g n c l l') (ht : ∀ x ∈ l, T64 x) (i : Nat) : T64 (l'.getD i (0, 0)) := by
  by_cases hi : i < l'.length
  · rw [List.getD_eq_getElem?_getD, List.getElem?_eq_getElem hi]
    exact ht _ (h.perm.mem_iff.1 (List.getElem_mem hi))
  · rw [List.getD_eq_getElem?_getD, List.getElem?_eq_none (by omega)]
    unfold T64
    simp
end
/-- What rise leaves: order, but for what stands below the one at i. -/
def Risen (w : World) (base g n c : Nat) (l : List (Int × Int)) (i : Nat) (w' : World) : Prop := ∃ l', HeapTo w w' base g n c l l' ∧ Down (kf l') n i

set_option maxHeartbeats 2000000 in
set_option maxRecDepth 100000 in
theorem rise_any (base g n c i : Nat) (l : List (Int × Int)) (w : World) (h : TRow w base g n c l) (hi : i < n) (hn : n ≤ 1000000) (ht : ∀ x ∈ l, T64 x) (hup : Up (kf l) n i i) :
    Calls Tryz.prog 187 #[.slice (some ⟨g, 0, none⟩) n c, .int .i64 (i : Int)] w fun e w' => e = .returned (.tuple #[]) ∧ Risen w base g n c l i w' := by
  obtain ⟨hnc, hcm⟩ := h.cap
  unfold maxLen at hcm
  have H := hide h
  have HT := hide ht
  have HU := hide hup
  clear h ht hup
  go_enter Tryz.func187, Tryz.ntmps187
  go_wp2
  go_loopw [1] (fun v wr => ∃ (j : Nat) (l' : List (Int × Int)), v = .int .i64 (j : Int) ∧ j < n ∧ HeapTo w wr base g n c l l' ∧ Up (kf l') n i j) (fun v _ => (intOf v).toNat)
  case atStart => exact ⟨i, l, rfl, hi, HeapTo.refl H.out, HU.out⟩
  case round =>
    obtain ⟨j, l', rfl, hjn, hj, hu⟩ := hrel
    have HJ := hide hj
    have HUP := hide hu
    clear hj hu
    by_cases hj0 : 0 < j
    · have CA := hide (fun w => above_any j w hj0 (by omega))
      have hp : par j < j := par_lt hj0
      obtain ⟨p, hpe⟩ : ∃ p, p = par j := ⟨_, rfl⟩
      rw [← hpe] at CA hp
      have HP := hide hpe
      clear hpe
      have hpn : p < n := by omega
      by_cases hlt : tkey (l'.getD j (0, 0)) < tkey (l'.getD p (0, 0))
      · have CB : Hid (∀ w, Calls Tryz.prog 200 #[tagg (l'.getD j (0, 0)), tagg (l'.getD p (0, 0))] w fun e w' => e = .returned (.bool true) ∧ Below w.heap.size w w') := fun w => by
          have := before_any (l'.getD j (0, 0)) (l'.getD p (0, 0)) w (HJ.out.t64 HT.out j) (HJ.out.t64 HT.out p)
          rwa [decide_eq_true hlt] at this
        have HLT := hide hlt
        clear hlt
        go_wp2
        refine wp_region_L (by kernel_rfl) ?_
        refine wpAnyL_take (i := 0) (d := some 4) (v := ?vat0) rfl rfl (by kernel_rfl) (by kernel_rfl) (by kernel_rfl) (fun _ _ _ h => h) (by rfl) ?yat0 ?_
        case yat0 => (intro w' hw'; go_simp; try (with_reducible rfl))
        simp only [Act.put, List.setIfInBounds_toArray]; try simp only [List.set_cons_zero, List.set_cons_succ]
        refine wpAnyL_take (i := 1) (d := some 5) (v := ?vat1) rfl rfl (by kernel_rfl) (by kernel_rfl) (by kernel_rfl) (fun _ _ _ h => h) (by rfl) ?yat1 ?_
        case yat1 => (intro w' hw'; go_simp; try (with_reducible rfl))
        simp only [Act.put, List.setIfInBounds_toArray]; try simp only [List.set_cons_zero, List.set_cons_succ]
        refine wpAnyL_take (i := 2) (d := some 6) (v := ?vat2) rfl rfl (by kernel_rfl) (by kernel_rfl) (by kernel_rfl) (fun _ _ _ h => h) (by rfl) ?yat2 ?_
        case yat2 => (intro w' hw'; go_simp; try (with_reducible rfl))
        simp only [Act.put, List.setIfInBounds_toArray]; try simp only [List.set_cons_zero, List.set_cons_succ]
        refine wpAnyL_take (i := 3) (d := some 7) (v := ?vat3) rfl rfl (by kernel_rfl) (by kernel_rfl) (by kernel_rfl) (fun _ _ _ h => h) (by rfl) ?yat3 ?_
        case yat3 => (intro w' hw'; go_simp; try (with_reducible rfl))
        simp only [Act.put, List.setIfInBounds_toArray]; try simp only [List.set_cons_zero, List.set_cons_succ]
        refine wpAnyL_take (i := 4) (d := some 8) (v := ?vat4) rfl rfl (by kernel_rfl) (by kernel_rfl) (by kernel_rfl) (fun _ _ _ h => h) (by rfl) ?yat4 ?_
        case yat4 => (intro w' hw'; go_simp; try (with_reducible rfl))
        simp only [Act.put, List.setIfInBounds_toArray]; try simp only [List.set_cons_zero, List.set_cons_succ]
        refine wpAnyL_take (i := 5) (d := some 9) (v := .pointer (some ⟨g, j * 2, none⟩)) rfl rfl (by kernel_rfl) (by kernel_rfl) (by kernel_rfl) (fun _ _ _ h => h) (by rfl) ?yat5 ?_
        case yat5 => (intro w' hw'; go_simp; try (with_reducible rfl))
        simp only [Act.put, List.setIfInBounds_toArray]; try simp only [List.set_cons_zero, List.set_cons_succ]
        refine wpAnyL_take (i := 6) (d := some 10) (v := tagg (l'.getD j (0, 0))) rfl rfl (by kernel_rfl) (by kernel_rfl) (by kernel_rfl) (fun _ _ _ h => h) (by rfl) ?yat6 ?_
        case yat6 => (intro w' hw'; have hb : Below wr.heap.size wr.drew w' := hw'; exact exec_load_timer _ (by rfl) (HJ.out.row.laterD hb) hjn (by rfl))
        simp only [Act.put, List.setIfInBounds_toArray]; try simp only [List.set_cons_zero, List.set_cons_succ]
        refine wpAnyL_take (i := 7) (d := some 11) (v := ?vat7) rfl rfl (by kernel_rfl) (by kernel_rfl) (by kernel_rfl) (fun _ _ _ h => h) (by rfl) ?yat7 ?_
        case yat7 => (intro w' hw'; go_simp; try (with_reducible rfl))
        simp only [Act.put, List.setIfInBounds_toArray]; try simp only [List.set_cons_zero, List.set_cons_succ]
        refine wpAnyL_take (i := 8) (d := some 12) (v := ?vat8) rfl rfl (by kernel_rfl) (by kernel_rfl) (by kernel_rfl) (fun _ _ _ h => h) (by rfl) ?yat8 ?_
        case yat8 => (intro w' hw'; go_simp; try (with_reducible rfl))
        simp only [Act.put, List.setIfInBounds_toArray]; try simp only [List.set_cons_zero, List.set_cons_succ]
        refine wpAnyL_only (i := 9) rfl (by kernel_rfl) (by rfl) fun K hK => ?_
        go_simp
        refine (CA.out _).mono ?_
        rintro e w0 ⟨rfl, rfl⟩
        refine hK.out _ _ (Later.refl _) ?_
        clear hK K
        try (simp only [Act.put, List.setIfInBounds_toArray]; try simp only [List.set_cons_zero, List.set_cons_succ])
        refine wpAnyL_take (i := 10) (d := some 14) (v := .pointer (some ⟨g, p * 2, none⟩)) rfl rfl (by kernel_rfl) (by kernel_rfl) (by kernel_rfl) (fun _ _ _ h => h) (by rfl) ?yat10 ?_
        case yat10 => (intro w' hw'; go_simp; try (with_reducible rfl))
        simp only [Act.put, List.setIfInBounds_toArray]; try simp only [List.set_cons_zero, List.set_cons_succ]
        refine wpAnyL_take (i := 11) (d := some 15) (v := tagg (l'.getD p (0, 0))) rfl rfl (by kernel_rfl) (by kernel_rfl) (by kernel_rfl) (fun _ _ _ h => h) (by rfl) ?yat11 ?_
        case yat11 => (intro w' hw'; have hb : Below wr.heap.size wr.drew w' := hw'; exact exec_load_timer _ (by rfl) (HJ.out.row.laterD hb) (by omega) (by rfl))
        simp only [Act.put, List.setIfInBounds_toArray]; try simp only [List.set_cons_zero, List.set_cons_succ]
        refine wpAnyL_only (i := 12) rfl (by kernel_rfl) (by rfl) fun K hK => ?_
        go_simp
        refine (CB.out _).mono ?_
        rintro e w1 ⟨rfl, hb1⟩
        have HB1 : Hid (Below wr.heap.size wr w1) := (Below.refl wr.heap.size wr).drew.trans hb1
        refine hK.out _ _ hb1 ?_
        clear hb1
        clear hK K
        try (simp only [Act.put, List.setIfInBounds_toArray]; try simp only [List.set_cons_zero, List.set_cons_succ])
        refine wpAnyL_take (i := 13) (d := some 17) (v := ?vat13) rfl rfl (by kernel_rfl) (by kernel_rfl) (by kernel_rfl) (fun _ _ _ h => h) (by rfl) ?yat13 ?_
        case yat13 => (intro w' hw'; go_simp; try (with_reducible rfl))
        simp only [Act.put, List.setIfInBounds_toArray]; try simp only [List.set_cons_zero, List.set_cons_succ]
        refine wpAnyL_done (by kernel_rfl) ?_ _
        have HD : Hid (HeapTo w w1 base g n c l l') := HJ.out.later HB1.out
        clear HJ HB1
        go_wp2
        refine wp_region_S (fun k => k == 15 || k == 17) (by kernel_rfl) ?_
        refine wpAnyS_take (i := 0) (d := some 18) (v := ?vas0) rfl rfl (by kernel_rfl) (by kernel_rfl) (by kernel_rfl) (by kernel_rfl) (by kernel_rfl) (fun _ _ _ h => h) (by rfl) ?yas0 ?_
        case yas0 => (intro w' hw'; go_simp; try (with_reducible rfl))
        simp only [Act.put, List.setIfInBounds_toArray]; try simp only [List.set_cons_zero, List.set_cons_succ]
        refine wpAnyS_take (i := 1) (d := some 19) (v := ?vas1) rfl rfl (by kernel_rfl) (by kernel_rfl) (by kernel_rfl) (by kernel_rfl) (by kernel_rfl) (fun _ _ _ h => h) (by rfl) ?yas1 ?_
        case yas1 => (intro w' hw'; go_simp; try (with_reducible rfl))
        simp only [Act.put, List.setIfInBounds_toArray]; try simp only [List.set_cons_zero, List.set_cons_succ]
        refine wpAnyS_pure (i := 2) (d := some 20) (v := ?vas2) rfl rfl (by kernel_rfl) (by kernel_rfl) (by kernel_rfl) (by kernel_rfl) (fun _ _ _ h => h) (by rfl) ?yas2 ?_
        case yas2 => (intro w'; go_simp; try (with_reducible rfl))
        simp only [Act.put, List.setIfInBounds_toArray]; try simp only [List.set_cons_zero, List.set_cons_succ]
        refine wpAnyS_take (i := 3) (d := some 21) (v := ?vas3) rfl rfl (by kernel_rfl) (by kernel_rfl) (by kernel_rfl) (by kernel_rfl) (by kernel_rfl) (fun _ _ _ h => h) (by rfl) ?yas3 ?_
        case yas3 => (intro w' hw'; go_simp; try (with_reducible rfl))
        simp only [Act.put, List.setIfInBounds_toArray]; try simp only [List.set_cons_zero, List.set_cons_succ]
        refine wpAnyS_take (i := 5) (d := some 23) (v := ?vas5) rfl rfl (by kernel_rfl) (by kernel_rfl) (by kernel_rfl) (by kernel_rfl) (by kernel_rfl) (fun _ _ _ h => h) (by rfl) ?yas5 ?_
        case yas5 => (intro w' hw'; go_simp; try (with_reducible rfl))
        simp only [Act.put, List.setIfInBounds_toArray]; try simp only [List.set_cons_zero, List.set_cons_succ]
        refine wpAnyS_take (i := 6) (d := some 24) (v := ?vas6) rfl rfl (by kernel_rfl) (by kernel_rfl) (by kernel_rfl) (by kernel_rfl) (by kernel_rfl) (fun _ _ _ h => h) (by rfl) ?yas6 ?_
        case yas6 => (intro w' hw'; go_simp; try (with_reducible rfl))
        simp only [Act.put, List.setIfInBounds_toArray]; try simp only [List.set_cons_zero, List.set_cons_succ]
        refine wpAnyS_take (i := 10) (d := some 28) (v := ?vas10) rfl rfl (by kernel_rfl) (by kernel_rfl) (by kernel_rfl) (by kernel_rfl) (by kernel_rfl) (fun _ _ _ h => h) (by rfl) ?yas10 ?_
        case yas10 => (intro w' hw'; go_simp; try (with_reducible rfl))
        simp only [Act.put, List.setIfInBounds_toArray]; try simp only [List.set_cons_zero, List.set_cons_succ]
        refine wpAnyS_take (i := 11) (d := some 29) (v := ?vas11) rfl rfl (by kernel_rfl) (by kernel_rfl) (by kernel_rfl) (by kernel_rfl) (by kernel_rfl) (fun _ _ _ h => h) (by rfl) ?yas11 ?_
        case yas11 => (intro w' hw'; go_simp; try (with_reducible rfl))
        simp only [Act.put, List.setIfInBounds_toArray]; try simp only [List.set_cons_zero, List.set_cons_succ]
        refine wpAnyS_take (i := 12) (d := some 30) (v := .pointer (some ⟨g, j * 2, none⟩)) rfl rfl (by kernel_rfl) (by kernel_rfl) (by kernel_rfl) (by kernel_rfl) (by kernel_rfl) (fun _ _ _ h => h) (by rfl) ?yas12 ?_
        case yas12 => (intro w' hw'; go_simp; try (with_reducible rfl))
        simp only [Act.put, List.setIfInBounds_toArray]; try simp only [List.set_cons_zero, List.set_cons_succ]
        refine wpAnyS_take (i := 13) (d := some 31) (v := tagg (l'.getD j (0, 0))) rfl rfl (by kernel_rfl) (by kernel_rfl) (by kernel_rfl) (by kernel_rfl) (by kernel_rfl) (fun _ _ _ h => h) (by rfl) ?yas13 ?_
        case yas13 => (intro w' hw'; have hb : Below w1.heap.size w1.drew w' := hw'; exact exec_load_timer _ (by rfl) (HD.out.row.laterD hb) hjn (by rfl))
        simp only [Act.put, List.setIfInBounds_toArray]; try simp only [List.set_cons_zero, List.set_cons_succ]
        refine wpAnyS_only (i := 4) rfl (by kernel_rfl) (by rfl) fun K hK => ?_
        go_simp
        refine (CA.out _).mono ?_
        rintro e w0 ⟨rfl, rfl⟩
        refine hK.out _ _ (Later.refl _) ?_
        clear hK K
        try (simp only [Act.put, List.setIfInBounds_toArray]; try simp only [List.set_cons_zero, List.set_cons_succ])
        refine wpAnyS_only (i := 7) rfl (by kernel_rfl) (by rfl) fun K hK => ?_
        go_simp
        refine (CA.out _).mono ?_
        rintro e w0 ⟨rfl, rfl⟩
        refine hK.out _ _ (Later.refl _) ?_
        clear hK K
        try (simp only [Act.put, List.setIfInBounds_toArray]; try simp only [List.set_cons_zero, List.set_cons_succ])
        refine wpAnyS_take (i := 8) (d := some 26) (v := .pointer (some ⟨g, p * 2, none⟩)) rfl rfl (by kernel_rfl) (by kernel_rfl) (by kernel_rfl) (by kernel_rfl) (by kernel_rfl) (fun _ _ _ h => h) (by rfl) ?yas8 ?_
        case yas8 => (intro w' hw'; go_simp; try (with_reducible rfl))
        simp only [Act.put, List.setIfInBounds_toArray]; try simp only [List.set_cons_zero, List.set_cons_succ]
        refine wpAnyS_take (i := 9) (d := some 27) (v := tagg (l'.getD p (0, 0))) rfl rfl (by kernel_rfl) (by kernel_rfl) (by kernel_rfl) (by kernel_rfl) (by kernel_rfl) (fun _ _ _ h => h) (by rfl) ?yas9 ?_
        case yas9 => (intro w' hw'; have hb : Below w1.heap.size w1.drew w' := hw'; exact exec_load_timer _ (by rfl) (HD.out.row.laterD hb) (by omega) (by rfl))
        simp only [Act.put, List.setIfInBounds_toArray]; try simp only [List.set_cons_zero, List.set_cons_succ]
        refine wpAnyS_take (i := 14) (d := some 32) (v := .pointer (some ⟨g, j * 2, none⟩)) rfl rfl (by kernel_rfl) (by kernel_rfl) (by kernel_rfl) (by kernel_rfl) (by kernel_rfl) (fun _ _ _ h => h) (by rfl) ?yas14 ?_
        case yas14 => (intro w' hw'; go_simp; try (with_reducible rfl))
        simp only [Act.put, List.setIfInBounds_toArray]; try simp only [List.set_cons_zero, List.set_cons_succ]
        refine wpAnyS_write (i := 15) rfl rfl (by kernel_rfl) (by rfl) fun K hK => ?_
        refine wp_store_timer _ _ (by rfl) HD.out.row.drew (i := j) hjn (l'.getD p (0, 0)) (by rfl) (by rfl) ?_
        intro w2 h2 hg2
        refine hK.out _ _ ?_
        clear hK K
        try simp only [Act.put]
        refine wpAnyS_pure (i := 16) (d := some 33) (v := .pointer (some ⟨g, p * 2, none⟩)) rfl rfl (by kernel_rfl) (by kernel_rfl) (by kernel_rfl) (by kernel_rfl) (fun _ _ _ h => h) (by rfl) ?yas16 ?_
        case yas16 => (intro w'; go_simp; try (with_reducible rfl))
        simp only [Act.put, List.setIfInBounds_toArray]; try simp only [List.set_cons_zero, List.set_cons_succ]
        refine wpAnyS_write (i := 17) rfl rfl (by kernel_rfl) (by rfl) fun K hK => ?_
        refine wp_store_timer _ _ (by rfl) h2 (i := p) (by omega) (l'.getD j (0, 0)) (by rfl) (by rfl) ?_
        intro w3 h3 hg3
        refine hK.out _ _ ?_
        clear hK K
        try simp only [Act.put]
        refine wpAnyS_done (by kernel_rfl) ?_ _
        have HE : Hid (HeapTo w w3 base g n c l (lswp l' j p)) := HD.out.swapped hjn (by omega) (by omega) h3 (grown_trans (grown_of_drew hg2) hg3)
        have HV : Hid (Up (kf (lswp l' j p)) n i p) := by
          have hu := HUP.out.step hj0 hjn (by have := HLT.out; rw [HP.out] at this; exact this)
          rw [← HP.out, ← kf_lswp (by have := HD.out.row.len; omega) (by have := HD.out.row.len; omega) (by omega)] at hu
          exact hu
        clear h3 hg2 hg3
        go_wp2_with (fail)
        refine (CA.out _).mono ?_
        rintro e w4 ⟨rfl, rfl⟩
        go_wp2
        go_roundw
        case rel => exact ⟨p, _, rfl, by omega, HE.out, HV.out⟩
        case measure => simp [intOf]; omega
      · have CB : Hid (∀ w, Calls Tryz.prog 200 #[tagg (l'.getD j (0, 0)), tagg (l'.getD p (0, 0))] w fun e w' => e = .returned (.bool false) ∧ Below w.heap.size w w') := fun w => by
          have := before_any (l'.getD j (0, 0)) (l'.getD p (0, 0)) w (HJ.out.t64 HT.out j) (HJ.out.t64 HT.out p)
          rwa [decide_eq_false hlt] at this
        have HLT := hide hlt
        clear hlt
        go_wp2
        refine wp_region_L (by kernel_rfl) ?_
        refine wpAnyL_take (i := 0) (d := some 4) (v := ?vau0) rfl rfl (by kernel_rfl) (by kernel_rfl) (by kernel_rfl) (fun _ _ _ h => h) (by rfl) ?yau0 ?_
        case yau0 => (intro w' hw'; go_simp; try (with_reducible rfl))
        simp only [Act.put, List.setIfInBounds_toArray]; try simp only [List.set_cons_zero, List.set_cons_succ]
        refine wpAnyL_take (i := 1) (d := some 5) (v := ?vau1) rfl rfl (by kernel_rfl) (by kernel_rfl) (by kernel_rfl) (fun _ _ _ h => h) (by rfl) ?yau1 ?_
        case yau1 => (intro w' hw'; go_simp; try (with_reducible rfl))
        simp only [Act.put, List.setIfInBounds_toArray]; try simp only [List.set_cons_zero, List.set_cons_succ]
        refine wpAnyL_take (i := 2) (d := some 6) (v := ?vau2) rfl rfl (by kernel_rfl) (by kernel_rfl) (by kernel_rfl) (fun _ _ _ h => h) (by rfl) ?yau2 ?_
        case yau2 => (intro w' hw'; go_simp; try (with_reducible rfl))
        simp only [Act.put, List.setIfInBounds_toArray]; try simp only [List.set_cons_zero, List.set_cons_succ]
        refine wpAnyL_take (i := 3) (d := some 7) (v := ?vau3) rfl rfl (by kernel_rfl) (by kernel_rfl) (by kernel_rfl) (fun _ _ _ h => h) (by rfl) ?yau3 ?_
        case yau3 => (intro w' hw'; go_simp; try (with_reducible rfl))
        simp only [Act.put, List.setIfInBounds_toArray]; try simp only [List.set_cons_zero, List.set_cons_succ]
        refine wpAnyL_take (i := 4) (d := some 8) (v := ?vau4) rfl rfl (by kernel_rfl) (by kernel_rfl) (by kernel_rfl) (fun _ _ _ h => h) (by rfl) ?yau4 ?_
        case yau4 => (intro w' hw'; go_simp; try (with_reducible rfl))
        simp only [Act.put, List.setIfInBounds_toArray]; try simp only [List.set_cons_zero, List.set_cons_succ]
        refine wpAnyL_take (i := 5) (d := some 9) (v := .pointer (some ⟨g, j * 2, none⟩)) rfl rfl (by kernel_rfl) (by kernel_rfl) (by kernel_rfl) (fun _ _ _ h => h) (by rfl) ?yau5 ?_
        case yau5 => (intro w' hw'; go_simp; try (with_reducible rfl))
        simp only [Act.put, List.setIfInBounds_toArray]; try simp only [List.set_cons_zero, List.set_cons_succ]
        refine wpAnyL_take (i := 6) (d := some 10) (v := tagg (l'.getD j (0, 0))) rfl rfl (by kernel_rfl) (by kernel_rfl) (by kernel_rfl) (fun _ _ _ h => h) (by rfl) ?yau6 ?_
        case yau6 => (intro w' hw'; have hb : Below wr.heap.size wr.drew w' := hw'; exact exec_load_timer _ (by rfl) (HJ.out.row.laterD hb) hjn (by rfl))
        simp only [Act.put, List.setIfInBounds_toArray]; try simp only [List.set_cons_zero, List.set_cons_succ]
        refine wpAnyL_take (i := 7) (d := some 11) (v := ?vau7) rfl rfl (by kernel_rfl) (by kernel_rfl) (by kernel_rfl) (fun _ _ _ h => h) (by rfl) ?yau7 ?_
        case yau7 => (intro w' hw'; go_simp; try (with_reducible rfl))
        simp only [Act.put, List.setIfInBounds_toArray]; try simp only [List.set_cons_zero, List.set_cons_succ]
        refine wpAnyL_take (i := 8) (d := some 12) (v := ?vau8) rfl rfl (by kernel_rfl) (by kernel_rfl) (by kernel_rfl) (fun _ _ _ h => h) (by rfl) ?yau8 ?_
        case yau8 => (intro w' hw'; go_simp; try (with_reducible rfl))
        simp only [Act.put, List.setIfInBounds_toArray]; try simp only [List.set_cons_zero, List.set_cons_succ]
        refine wpAnyL_only (i := 9) rfl (by kernel_rfl) (by rfl) fun K hK => ?_
        go_simp
        refine (CA.out _).mono ?_
        rintro e w0 ⟨rfl, rfl⟩
        refine hK.out _ _ (Later.refl _) ?_
        clear hK K
        try (simp only [Act.put, List.setIfInBounds_toArray]; try simp only [List.set_cons_zero, List.set_cons_succ])
        refine wpAnyL_take (i := 10) (d := some 14) (v := .pointer (some ⟨g, p * 2, none⟩)) rfl rfl (by kernel_rfl) (by kernel_rfl) (by kernel_rfl) (fun _ _ _ h => h) (by rfl) ?yau10 ?_
        case yau10 => (intro w' hw'; go_simp; try (with_reducible rfl))
        simp only [Act.put, List.setIfInBounds_toArray]; try simp only [List.set_cons_zero, List.set_cons_succ]
        refine wpAnyL_take (i := 11) (d := some 15) (v := tagg (l'.getD p (0, 0))) rfl rfl (by kernel_rfl) (by kernel_rfl) (by kernel_rfl) (fun _ _ _ h => h) (by rfl) ?yau11 ?_
        case yau11 => (intro w' hw'; have hb : Below wr.heap.size wr.drew w' := hw'; exact exec_load_timer _ (by rfl) (HJ.out.row.laterD hb) (by omega) (by rfl))
        simp only [Act.put, List.setIfInBounds_toArray]; try simp only [List.set_cons_zero, List.set_cons_succ]
        refine wpAnyL_only (i := 12) rfl (by kernel_rfl) (by rfl) fun K hK => ?_
        go_simp
        refine (CB.out _).mono ?_
        rintro e w1 ⟨rfl, hb1⟩
        have HB1 : Hid (Below wr.heap.size wr w1) := (Below.refl wr.heap.size wr).drew.trans hb1
        refine hK.out _ _ hb1 ?_
        clear hb1
        clear hK K
        try (simp only [Act.put, List.setIfInBounds_toArray]; try simp only [List.set_cons_zero, List.set_cons_succ])
        refine wpAnyL_take (i := 13) (d := some 17) (v := ?vau13) rfl rfl (by kernel_rfl) (by kernel_rfl) (by kernel_rfl) (fun _ _ _ h => h) (by rfl) ?yau13 ?_
        case yau13 => (intro w' hw'; go_simp; try (with_reducible rfl))
        simp only [Act.put, List.setIfInBounds_toArray]; try simp only [List.set_cons_zero, List.set_cons_succ]
        refine wpAnyL_done (by kernel_rfl) ?_ _
        have HD : Hid (HeapTo w w1 base g n c l l') := HJ.out.later HB1.out
        clear HJ HB1
        go_wp2
        go_end0
        exact ⟨rfl, l', HD.out, HUP.out.over fun _ => by
          have := HLT.out
          rw [HP.out] at this
          exact this⟩
    · obtain rfl : j = 0 := by omega
      clear hj0
      go_wp2
      refine wp_region_L (by kernel_rfl) ?_
      refine wpAnyL_take (i := 0) (d := some 4) (v := ?vaz0) rfl rfl (by kernel_rfl) (by kernel_rfl) (by kernel_rfl) (fun _ _ _ h => h) (by rfl) ?yaz0 ?_
      case yaz0 => (intro w' hw'; go_simp; try (with_reducible rfl))
      simp only [Act.put, List.setIfInBounds_toArray]; try simp only [List.set_cons_zero, List.set_cons_succ]
      refine wpAnyL_take (i := 1) (d := some 5) (v := ?vaz1) rfl rfl (by kernel_rfl) (by kernel_rfl) (by kernel_rfl) (fun _ _ _ h => h) (by rfl) ?yaz1 ?_
      case yaz1 => (intro w' hw'; go_simp; try (with_reducible rfl))
      simp only [Act.put, List.setIfInBounds_toArray]; try simp only [List.set_cons_zero, List.set_cons_succ]
      refine wpAnyL_take (i := 2) (d := some 6) (v := ?vaz2) rfl rfl (by kernel_rfl) (by kernel_rfl) (by kernel_rfl) (fun _ _ _ h => h) (by rfl) ?yaz2 ?_
      case yaz2 => (intro w' hw'; go_simp; try (with_reducible rfl))
      simp only [Act.put, List.setIfInBounds_toArray]; try simp only [List.set_cons_zero, List.set_cons_succ]
      refine wpAnyL_pass (i := 3) (d := some 7) rfl rfl (by kernel_rfl) (by kernel_rfl) (by kernel_rfl) (fun _ _ _ h => h) (by rfl) ?_
      try (simp only [Act.put, List.setIfInBounds_toArray]; try simp only [List.set_cons_zero, List.set_cons_succ])
      refine wpAnyL_pass (i := 4) (d := some 8) rfl rfl (by kernel_rfl) (by kernel_rfl) (by kernel_rfl) (fun _ _ _ h => h) (by rfl) ?_
      try (simp only [Act.put, List.setIfInBounds_toArray]; try simp only [List.set_cons_zero, List.set_cons_succ])
      refine wpAnyL_pass (i := 5) (d := some 9) rfl rfl (by kernel_rfl) (by kernel_rfl) (by kernel_rfl) (fun _ _ _ h => h) (by rfl) ?_
      try (simp only [Act.put, List.setIfInBounds_toArray]; try simp only [List.set_cons_zero, List.set_cons_succ])
      refine wpAnyL_pass (i := 6) (d := some 10) rfl rfl (by kernel_rfl) (by kernel_rfl) (by kernel_rfl) (fun _ _ _ h => h) (by rfl) ?_
      try (simp only [Act.put, List.setIfInBounds_toArray]; try simp only [List.set_cons_zero, List.set_cons_succ])
      refine wpAnyL_pass (i := 7) (d := some 11) rfl rfl (by kernel_rfl) (by kernel_rfl) (by kernel_rfl) (fun _ _ _ h => h) (by rfl) ?_
      try (simp only [Act.put, List.setIfInBounds_toArray]; try simp only [List.set_cons_zero, List.set_cons_succ])
      refine wpAnyL_pass (i := 8) (d := some 12) rfl rfl (by kernel_rfl) (by kernel_rfl) (by kernel_rfl) (fun _ _ _ h => h) (by rfl) ?_
      try (simp only [Act.put, List.setIfInBounds_toArray]; try simp only [List.set_cons_zero, List.set_cons_succ])
      refine wpAnyL_pass (i := 9) (d := some 13) rfl rfl (by kernel_rfl) (by kernel_rfl) (by kernel_rfl) (fun _ _ _ h => h) (by rfl) ?_
      try (simp only [Act.put, List.setIfInBounds_toArray]; try simp only [List.set_cons_zero, List.set_cons_succ])
      refine wpAnyL_pass (i := 10) (d := some 14) rfl rfl (by kernel_rfl) (by kernel_rfl) (by kernel_rfl) (fun _ _ _ h => h) (by rfl) ?_
      try (simp only [Act.put, List.setIfInBounds_toArray]; try simp only [List.set_cons_zero, List.set_cons_succ])
      refine wpAnyL_pass (i := 11) (d := some 15) rfl rfl (by kernel_rfl) (by kernel_rfl) (by kernel_rfl) (fun _ _ _ h => h) (by rfl) ?_
      try (simp only [Act.put, List.setIfInBounds_toArray]; try simp only [List.set_cons_zero, List.set_cons_succ])
      refine wpAnyL_pass (i := 12) (d := some 16) rfl rfl (by kernel_rfl) (by kernel_rfl) (by kernel_rfl) (fun _ _ _ h => h) (by rfl) ?_
      try (simp only [Act.put, List.setIfInBounds_toArray]; try simp only [List.set_cons_zero, List.set_cons_succ])
      refine wpAnyL_take (i := 13) (d := some 17) (v := ?vaz13) rfl rfl (by kernel_rfl) (by kernel_rfl) (by kernel_rfl) (fun _ _ _ h => h) (by rfl) ?yaz13 ?_
      case yaz13 => (intro w' hw'; go_simp; try (with_reducible rfl))
      simp only [Act.put, List.setIfInBounds_toArray]; try simp only [List.set_cons_zero, List.set_cons_succ]
      refine wpAnyL_done (by kernel_rfl) ?_ _
      go_wp2
      go_end0
      exact ⟨rfl, l', HJ.out.later (Below.refl _ _).drew, HUP.out.over fun h => by omega⟩
end Go.Proofs.YtaiegmhlgjogmaaGreat.Ck
/- first and sink of package clock. -/
namespace Go.Proofs.YtaiegmhlgjogmaaGreat.Ck
open Go.RowKit

/-- m is the least of i and of those below it that are ahead of b. -/
structure Firsts (l : List (Int × Int)) (n i m b : Nat) : Prop where
  lo : 2 * i + 1 ≤ b
  hi : b ≤ 2 * i + 3
  inn : m < n
  one : m = i ∨ (2 * i + 1 ≤ m ∧ m < b ∧ kf l m < kf l i)
  le : kf l m ≤ kf l i
  all : ∀ d, 2 * i + 1 ≤ d → d < b → d < n → kf l m ≤ kf l d
section
variable {l : List (Int × Int)} {n i m b : Nat}
theorem Firsts.start (hi : i < n) : Firsts l n i i (2 * i + 1) := ⟨by omega, by omega, hi, .inl rfl, Int.le_refl _, fun d h1 h2 _ => by omega⟩
theorem Firsts.take (h : Firsts l n i m b) (hb : b ≤ 2 * i + 2) (hn : b < n) (hlt : kf l b < kf l m) : Firsts l n i b (b + 1) := by
  obtain ⟨h1, h2, h3, h4, h5, h6⟩ := h
  refine ⟨by omega, by omega, hn, .inr ⟨h1, by omega, by omega⟩, by omega, fun d k1 k2 k3 => ?_⟩
  by_cases e : d = b
  · subst e; exact Int.le_refl _
  · have := h6 d k1 (by omega) k3
    omega
theorem Firsts.keep (h : Firsts l n i m b) (hb : b ≤ 2 * i + 2) (hlt : kf l m ≤ kf l b) : Firsts l n i m (b + 1) := by
  obtain ⟨h1, h2, h3, h4, h5, h6⟩ := h
  refine ⟨by omega, by omega, h3, h4.imp id fun ⟨a, b, c⟩ => ⟨a, by omega, c⟩, h5, fun d k1 k2 k3 => ?_⟩
  by_cases e : d = b
  · subst e; exact hlt
  · exact h6 d k1 (by omega) k3
/-- m is the least of i and of those below it. -/
def Least (l : List (Int × Int)) (n i m : Nat) : Prop := m < n ∧ (m = i ∨ (0 < m ∧ par m = i ∧ kf l m < kf l i)) ∧ ∀ d, d < n → 0 < d → par d = i → kf l m ≤ kf l d
theorem Firsts.over (h : Firsts l n i m b) (ho : 2 * i + 2 < b ∨ n ≤ b) : Least l n i m := by
  obtain ⟨h1, h2, h3, h4, h5, h6⟩ := h
  refine ⟨h3, h4.imp id fun ⟨a, b, c⟩ => ⟨by omega, by unfold par; omega, c⟩, fun d k1 k2 k3 => ?_⟩
  unfold par at k3
  exact h6 d (by omega) (by omega) k1
end
def FirstOf (w : World) (n : Nat) (l : List (Int × Int)) (i : Nat) (e : Ending) (w' : World) : Prop := ∃ m : Nat, e = .returned (.int .i64 (m : Int)) ∧ Least l n i m ∧ Below w.heap.size w w'

theorem t64_get {l : List (Int × Int)} (ht : ∀ x ∈ l, T64 x) (i : Nat) : T64 (l.getD i (0, 0)) := by
  by_cases hi : i < l.length
  · rw [List.getD_eq_getElem?_getD, List.getElem?_eq_getElem hi]
    exact ht _ (List.getElem_mem hi)
  · rw [List.getD_eq_getElem?_getD, List.getElem?_eq_none (by omega)]
    unfold T64
    simp

set_option maxHeartbeats 2000000 in
set_option maxRecDepth 100000 in
theorem first_any (base g n c i : Nat) (l : List (Int × Int)) (w : World) (h : TRow w base g n c l) (hi : i < n) (hn : n ≤ 1000000) (ht : ∀ x ∈ l, T64 x) :
    Calls Tryz.prog 202 #[.slice (some ⟨g, 0, none⟩) n c, .int .i64 (i : Int)] w (FirstOf w n l i) := by
  obtain ⟨hnc, hcm⟩ := h.cap
  unfold maxLen at hcm
  have H := hide h
  have HT := hide ht
  clear h ht
  go_enter Tryz.func202, Tryz.ntmps202
  go_wp2
  go_loopw [5, 6] (fun f v wr => ∃ m b : Nat, f = .int .i64 (m : Int) ∧ v = .int .i64 (b : Int) ∧ Firsts l n i m b ∧ Below w.heap.size w wr) (fun _ v _ => 2 * i + 3 - (intOf v).toNat)
  case atStart => exact ⟨i, 2 * i + 1, rfl, by go_num, Firsts.start hi, Below.refl _ _⟩
  case round =>
    obtain ⟨m, b, rfl, rfl, hf, hb⟩ := hrel
    have hlo := hf.lo
    have hhi := hf.hi
    have hmn := hf.inn
    have HF := hide hf
    have HB := hide hb
    have HR : Hid (TRow wr base g n c l) := H.out.later hb
    clear hf hb
    by_cases hb2 : b ≤ 2 * i + 2
    · by_cases hbn : b < n
      · have hnb : (b : Int) < (n : Int) := by omega
        have hq : (b : Int) ≤ 2 * (i : Int) + 2 := by omega
        by_cases hlt : tkey (l.getD b (0, 0)) < tkey (l.getD m (0, 0))
        · have CB : Hid (∀ w, Calls Tryz.prog 200 #[tagg (l.getD b (0, 0)), tagg (l.getD m (0, 0))] w fun e w' => e = .returned (.bool true) ∧ Below w.heap.size w w') := fun w => by
            have := before_any (l.getD b (0, 0)) (l.getD m (0, 0)) w (t64_get HT.out b) (t64_get HT.out m)
            rwa [decide_eq_true hlt] at this
          have HV : Hid (Firsts l n i b (b + 1)) := HF.out.take hb2 hbn hlt
          clear hlt
          go_wp2
          refine wp_region_L (by kernel_rfl) ?_
          refine wpAnyL_take (i := 0) (d := some 24) (v := ?vat0) rfl rfl (by kernel_rfl) (by kernel_rfl) (by kernel_rfl) (fun _ _ _ h => h) (by rfl) ?yat0 ?_
          case yat0 => (intro w' hw'; go_simp; try (with_reducible rfl))
          simp only [Act.put, List.setIfInBounds_toArray]; try simp only [List.set_cons_zero, List.set_cons_succ]
          refine wpAnyL_take (i := 1) (d := some 25) (v := ?vat1) rfl rfl (by kernel_rfl) (by kernel_rfl) (by kernel_rfl) (fun _ _ _ h => h) (by rfl) ?yat1 ?_
          case yat1 => (intro w' hw'; go_simp; try (with_reducible rfl))
          simp only [Act.put, List.setIfInBounds_toArray]; try simp only [List.set_cons_zero, List.set_cons_succ]
          refine wpAnyL_take (i := 2) (d := some 26) (v := .pointer (some ⟨g, b * 2, none⟩)) rfl rfl (by kernel_rfl) (by kernel_rfl) (by kernel_rfl) (fun _ _ _ h => h) (by rfl) ?yat2 ?_
          case yat2 => (intro w' hw'; go_simp; try (with_reducible rfl))
          simp only [Act.put, List.setIfInBounds_toArray]; try simp only [List.set_cons_zero, List.set_cons_succ]
          refine wpAnyL_take (i := 3) (d := some 27) (v := tagg (l.getD b (0, 0))) rfl rfl (by kernel_rfl) (by kernel_rfl) (by kernel_rfl) (fun _ _ _ h => h) (by rfl) ?yat3 ?_
          case yat3 => (intro w' hw'; have hb : Below wr.heap.size wr.drew w' := hw'; exact exec_load_timer _ (by rfl) (HR.out.laterD hb) hbn (by rfl))
          simp only [Act.put, List.setIfInBounds_toArray]; try simp only [List.set_cons_zero, List.set_cons_succ]
          refine wpAnyL_take (i := 4) (d := some 28) (v := ?vat4) rfl rfl (by kernel_rfl) (by kernel_rfl) (by kernel_rfl) (fun _ _ _ h => h) (by rfl) ?yat4 ?_
          case yat4 => (intro w' hw'; go_simp; try (with_reducible rfl))
          simp only [Act.put, List.setIfInBounds_toArray]; try simp only [List.set_cons_zero, List.set_cons_succ]
          refine wpAnyL_take (i := 5) (d := some 29) (v := ?vat5) rfl rfl (by kernel_rfl) (by kernel_rfl) (by kernel_rfl) (fun _ _ _ h => h) (by rfl) ?yat5 ?_
          case yat5 => (intro w' hw'; go_simp; try (with_reducible rfl))
          simp only [Act.put, List.setIfInBounds_toArray]; try simp only [List.set_cons_zero, List.set_cons_succ]
          refine wpAnyL_take (i := 6) (d := some 30) (v := .pointer (some ⟨g, m * 2, none⟩)) rfl rfl (by kernel_rfl) (by kernel_rfl) (by kernel_rfl) (fun _ _ _ h => h) (by rfl) ?yat6 ?_
          case yat6 => (intro w' hw'; go_simp; try (with_reducible rfl))
          simp only [Act.put, List.setIfInBounds_toArray]; try simp only [List.set_cons_zero, List.set_cons_succ]
          refine wpAnyL_take (i := 7) (d := some 31) (v := tagg (l.getD m (0, 0))) rfl rfl (by kernel_rfl) (by kernel_rfl) (by kernel_rfl) (fun _ _ _ h => h) (by rfl) ?yat7 ?_
          case yat7 => (intro w' hw'; have hb : Below wr.heap.size wr.drew w' := hw'; exact exec_load_timer _ (by rfl) (HR.out.laterD hb) hmn (by rfl))
          simp only [Act.put, List.setIfInBounds_toArray]; try simp only [List.set_cons_zero, List.set_cons_succ]
          refine wpAnyL_only (i := 8) rfl (by kernel_rfl) (by rfl) fun K hK => ?_
          go_simp
          refine (CB.out _).mono ?_
          rintro e w1 ⟨rfl, hb1⟩
          have HB1 : Hid (Below wr.heap.size wr w1) := (Below.refl wr.heap.size wr).drew.trans hb1
          refine hK.out _ _ hb1 ?_
          clear hb1
          clear hK K
          try (simp only [Act.put, List.setIfInBounds_toArray]; try simp only [List.set_cons_zero, List.set_cons_succ])
          refine wpAnyL_done (by kernel_rfl) ?_ _
          go_wp2
          go_roundw
          case rel => exact ⟨b, b + 1, rfl, by go_num, HV.out, HB.out.trans (HB1.out.mono HB.out.size)⟩
          case measure => simp [intOf]; omega
        · have CB : Hid (∀ w, Calls Tryz.prog 200 #[tagg (l.getD b (0, 0)), tagg (l.getD m (0, 0))] w fun e w' => e = .returned (.bool false) ∧ Below w.heap.size w w') := fun w => by
            have := before_any (l.getD b (0, 0)) (l.getD m (0, 0)) w (t64_get HT.out b) (t64_get HT.out m)
            rwa [decide_eq_false hlt] at this
          have HV : Hid (Firsts l n i m (b + 1)) := HF.out.keep hb2 (Int.not_lt.1 hlt)
          clear hlt
          go_wp2
          refine wp_region_L (by kernel_rfl) ?_
          refine wpAnyL_take (i := 0) (d := some 24) (v := ?vau0) rfl rfl (by kernel_rfl) (by kernel_rfl) (by kernel_rfl) (fun _ _ _ h => h) (by rfl) ?yau0 ?_
          case yau0 => (intro w' hw'; go_simp; try (with_reducible rfl))
          simp only [Act.put, List.setIfInBounds_toArray]; try simp only [List.set_cons_zero, List.set_cons_succ]
          refine wpAnyL_take (i := 1) (d := some 25) (v := ?vau1) rfl rfl (by kernel_rfl) (by kernel_rfl) (by kernel_rfl) (fun _ _ _ h => h) (by rfl) ?yau1 ?_
          case yau1 => (intro w' hw'; go_simp; try (with_reducible rfl))
          simp only [Act.put, List.setIfInBounds_toArray]; try simp only [List.set_cons_zero, List.set_cons_succ]
          refine wpAnyL_take (i := 2) (d := some 26) (v := .pointer (some ⟨g, b * 2, none⟩)) rfl rfl (by kernel_rfl) (by kernel_rfl) (by kernel_rfl) (fun _ _ _ h => h) (by rfl) ?yau2 ?_
          case yau2 => (intro w' hw'; go_simp; try (with_reducible rfl))
          simp only [Act.put, List.setIfInBounds_toArray]; try simp only [List.set_cons_zero, List.set_cons_succ]
          refine wpAnyL_take (i := 3) (d := some 27) (v := tagg (l.getD b (0, 0))) rfl rfl (by kernel_rfl) (by kernel_rfl) (by kernel_rfl) (fun _ _ _ h => h) (by rfl) ?yau3 ?_
          case yau3 => (intro w' hw'; have hb : Below wr.heap.size wr.drew w' := hw'; exact exec_load_timer _ (by rfl) (HR.out.laterD hb) hbn (by rfl))
          simp only [Act.put, List.setIfInBounds_toArray]; try simp only [List.set_cons_zero, List.set_cons_succ]
          refine wpAnyL_take (i := 4) (d := some 28) (v := ?vau4) rfl rfl (by kernel_rfl) (by kernel_rfl) (by kernel_rfl) (fun _ _ _ h => h) (by rfl) ?yau4 ?_
          case yau4 => (intro w' hw'; go_simp; try (with_reducible rfl))
          simp only [Act.put, List.setIfInBounds_toArray]; try simp only [List.set_cons_zero, List.set_cons_succ]
          refine wpAnyL_take (i := 5) (d := some 29) (v := ?vau5) rfl rfl (by kernel_rfl) (by kernel_rfl) (by kernel_rfl) (fun _ _ _ h => h) (by rfl) ?yau5 ?_
          case yau5 => (intro w' hw'; go_simp; try (with_reducible rfl))
          simp only [Act.put, List.setIfInBounds_toArray]; try simp only [List.set_cons_zero, List.set_cons_succ]
          refine wpAnyL_take (i := 6) (d := some 30) (v := .pointer (some ⟨g, m * 2, none⟩)) rfl rfl (by kernel_rfl) (by kernel_rfl) (by kernel_rfl) (fun _ _ _ h => h) (by rfl) ?yau6 ?_
          case yau6 => (intro w' hw'; go_simp; try (with_reducible rfl))
          simp only [Act.put, List.setIfInBounds_toArray]; try simp only [List.set_cons_zero, List.set_cons_succ]
          refine wpAnyL_take (i := 7) (d := some 31) (v := tagg (l.getD m (0, 0))) rfl rfl (by kernel_rfl) (by kernel_rfl) (by kernel_rfl) (fun _ _ _ h => h) (by rfl) ?yau7 ?_
          case yau7 => (intro w' hw'; have hb : Below wr.heap.size wr.drew w' := hw'; exact exec_load_timer _ (by rfl) (HR.out.laterD hb) hmn (by rfl))
          simp only [Act.put, List.setIfInBounds_toArray]; try simp only [List.set_cons_zero, List.set_cons_succ]
          refine wpAnyL_only (i := 8) rfl (by kernel_rfl) (by rfl) fun K hK => ?_
          go_simp
          refine (CB.out _).mono ?_
          rintro e w1 ⟨rfl, hb1⟩
          have HB1 : Hid (Below wr.heap.size wr w1) := (Below.refl wr.heap.size wr).drew.trans hb1
          refine hK.out _ _ hb1 ?_
          clear hb1
          clear hK K
          try (simp only [Act.put, List.setIfInBounds_toArray]; try simp only [List.set_cons_zero, List.set_cons_succ])
          refine wpAnyL_done (by kernel_rfl) ?_ _
          go_wp2
          go_roundw
          case rel => exact ⟨m, b + 1, rfl, by go_num, HV.out, HB.out.trans (HB1.out.mono HB.out.size)⟩
          case measure => simp [intOf]; omega
      · have hnb : (n : Int) ≤ (b : Int) := by omega
        have hq : (b : Int) ≤ 2 * (i : Int) + 2 := by omega
        have HV : Hid (Least l n i m) := HF.out.over (.inr (by omega))
        go_wp2
        go_ret
        exact ⟨m, rfl, HV.out, HB.out⟩
    · have hq : 2 * (i : Int) + 2 < (b : Int) := by omega
      have HV : Hid (Least l n i m) := HF.out.over (.inl (by omega))
      go_wp2
      go_ret
      exact ⟨m, rfl, HV.out, HB.out⟩

/-- What sink leaves: a heap. -/
def Sunk (w : World) (base g n c : Nat) (l : List (Int × Int)) (w' : World) : Prop := ∃ l', HeapTo w w' base g n c l l' ∧ Heap (kf l') n

set_option maxHeartbeats 2000000 in
set_option maxRecDepth 100000 in
theorem sink_any (base g n c i : Nat) (l : List (Int × Int)) (w : World) (h : TRow w base g n c l) (hi : i < n) (hn : n ≤ 1000000) (ht : ∀ x ∈ l, T64 x) (hd : Down (kf l) n i) :
    Calls Tryz.prog 188 #[.slice (some ⟨g, 0, none⟩) n c, .int .i64 (i : Int)] w fun e w' => e = .returned (.tuple #[]) ∧ Sunk w base g n c l w' := by
  obtain ⟨hnc, hcm⟩ := h.cap
  unfold maxLen at hcm
  have H := hide h
  have HT := hide ht
  have HU := hide hd
  clear h ht hd
  go_enter Tryz.func188, Tryz.ntmps188
  go_wp2
  go_loopw [1] (fun v wr => ∃ (j : Nat) (l' : List (Int × Int)), v = .int .i64 (j : Int) ∧ j < n ∧ HeapTo w wr base g n c l l' ∧ Down (kf l') n j) (fun v _ => n - (intOf v).toNat)
  case atStart => exact ⟨i, l, rfl, hi, HeapTo.refl H.out, HU.out⟩
  case round =>
    obtain ⟨j, l', rfl, hjn, hj, hu⟩ := hrel
    have HJ := hide hj
    have HUP := hide hu
    clear hj hu
    go_wp2_with (fail)
    refine (first_any base g n c j l' wr HJ.out.row hjn hn (fun x hx => HT.out x (HJ.out.perm.mem_iff.1 hx))).mono ?_
    rintro e w1 ⟨m, rfl, hm, hb⟩
    have HD : Hid (HeapTo w w1 base g n c l l') := HJ.out.later hb
    have HM := hide hm
    clear hm hb HJ
    by_cases hmj : m = j
    · subst hmj
      have ht1 : ((m : Int) == (m : Int)) = true := by simp
      go_wp2
      refine bodyPost_ret (results_none rfl _ _ _) rfl ?_
      exact ⟨rfl, l', HD.out, HUP.out.over fun d h1 h2 h3 => HM.out.2.2 d h1 h2 h3⟩
    · have ht1 : ((m : Int) == (j : Int)) = false := by
        rw [beq_eq_false_iff_ne]
        omega
      have hmn : m < n := HM.out.1
      have HL : Hid (0 < m ∧ par m = j ∧ kf l' m < kf l' j) := HM.out.2.1.resolve_left hmj
      have hjm : j < m := by
        have h1 := par_lt HL.out.1
        rw [HL.out.2.1] at h1
        exact h1
      clear hmj
      go_wp2
      refine wp_region_S (fun k => k == 13 || k == 15) (by kernel_rfl) ?_
      refine wpAnyS_take (i := 0) (d := some 11) (v := ?vas0) rfl rfl (by kernel_rfl) (by kernel_rfl) (by kernel_rfl) (by kernel_rfl) (by kernel_rfl) (fun _ _ _ h => h) (by rfl) ?yas0 ?_
      case yas0 => (intro w' hw'; go_simp; try (with_reducible rfl))
      simp only [Act.put, List.setIfInBounds_toArray]; try simp only [List.set_cons_zero, List.set_cons_succ]
      refine wpAnyS_take (i := 1) (d := some 12) (v := ?vas1) rfl rfl (by kernel_rfl) (by kernel_rfl) (by kernel_rfl) (by kernel_rfl) (by kernel_rfl) (fun _ _ _ h => h) (by rfl) ?yas1 ?_
      case yas1 => (intro w' hw'; go_simp; try (with_reducible rfl))
      simp only [Act.put, List.setIfInBounds_toArray]; try simp only [List.set_cons_zero, List.set_cons_succ]
      refine wpAnyS_pure (i := 2) (d := some 13) (v := ?vas2) rfl rfl (by kernel_rfl) (by kernel_rfl) (by kernel_rfl) (by kernel_rfl) (fun _ _ _ h => h) (by rfl) ?yas2 ?_
      case yas2 => (intro w'; go_simp; try (with_reducible rfl))
      simp only [Act.put, List.setIfInBounds_toArray]; try simp only [List.set_cons_zero, List.set_cons_succ]
      refine wpAnyS_pure (i := 3) (d := some 14) (v := ?vas3) rfl rfl (by kernel_rfl) (by kernel_rfl) (by kernel_rfl) (by kernel_rfl) (fun _ _ _ h => h) (by rfl) ?yas3 ?_
      case yas3 => (intro w'; go_simp; try (with_reducible rfl))
      simp only [Act.put, List.setIfInBounds_toArray]; try simp only [List.set_cons_zero, List.set_cons_succ]
      refine wpAnyS_take (i := 4) (d := some 15) (v := ?vas4) rfl rfl (by kernel_rfl) (by kernel_rfl) (by kernel_rfl) (by kernel_rfl) (by kernel_rfl) (fun _ _ _ h => h) (by rfl) ?yas4 ?_
      case yas4 => (intro w' hw'; go_simp; try (with_reducible rfl))
      simp only [Act.put, List.setIfInBounds_toArray]; try simp only [List.set_cons_zero, List.set_cons_succ]
      refine wpAnyS_take (i := 5) (d := some 16) (v := ?vas5) rfl rfl (by kernel_rfl) (by kernel_rfl) (by kernel_rfl) (by kernel_rfl) (by kernel_rfl) (fun _ _ _ h => h) (by rfl) ?yas5 ?_
      case yas5 => (intro w' hw'; go_simp; try (with_reducible rfl))
      simp only [Act.put, List.setIfInBounds_toArray]; try simp only [List.set_cons_zero, List.set_cons_succ]
      refine wpAnyS_take (i := 6) (d := some 17) (v := .pointer (some ⟨g, m * 2, none⟩)) rfl rfl (by kernel_rfl) (by kernel_rfl) (by kernel_rfl) (by kernel_rfl) (by kernel_rfl) (fun _ _ _ h => h) (by rfl) ?yas6 ?_
      case yas6 => (intro w' hw'; go_simp; try (with_reducible rfl))
      simp only [Act.put, List.setIfInBounds_toArray]; try simp only [List.set_cons_zero, List.set_cons_succ]
      refine wpAnyS_take (i := 7) (d := some 18) (v := tagg (l'.getD m (0, 0))) rfl rfl (by kernel_rfl) (by kernel_rfl) (by kernel_rfl) (by kernel_rfl) (by kernel_rfl) (fun _ _ _ h => h) (by rfl) ?yas7 ?_
      case yas7 => (intro w' hw'; have hb : Below w1.heap.size w1.drew w' := hw'; exact exec_load_timer _ (by rfl) (HD.out.row.laterD hb) hmn (by rfl))
      simp only [Act.put, List.setIfInBounds_toArray]; try simp only [List.set_cons_zero, List.set_cons_succ]
      refine wpAnyS_take (i := 8) (d := some 19) (v := ?vas8) rfl rfl (by kernel_rfl) (by kernel_rfl) (by kernel_rfl) (by kernel_rfl) (by kernel_rfl) (fun _ _ _ h => h) (by rfl) ?yas8 ?_
      case yas8 => (intro w' hw'; go_simp; try (with_reducible rfl))
      simp only [Act.put, List.setIfInBounds_toArray]; try simp only [List.set_cons_zero, List.set_cons_succ]
      refine wpAnyS_take (i := 9) (d := some 20) (v := ?vas9) rfl rfl (by kernel_rfl) (by kernel_rfl) (by kernel_rfl) (by kernel_rfl) (by kernel_rfl) (fun _ _ _ h => h) (by rfl) ?yas9 ?_
      case yas9 => (intro w' hw'; go_simp; try (with_reducible rfl))
      simp only [Act.put, List.setIfInBounds_toArray]; try simp only [List.set_cons_zero, List.set_cons_succ]
      refine wpAnyS_take (i := 10) (d := some 21) (v := .pointer (some ⟨g, j * 2, none⟩)) rfl rfl (by kernel_rfl) (by kernel_rfl) (by kernel_rfl) (by kernel_rfl) (by kernel_rfl) (fun _ _ _ h => h) (by rfl) ?yas10 ?_
      case yas10 => (intro w' hw'; go_simp; try (with_reducible rfl))
      simp only [Act.put, List.setIfInBounds_toArray]; try simp only [List.set_cons_zero, List.set_cons_succ]
      refine wpAnyS_take (i := 11) (d := some 22) (v := tagg (l'.getD j (0, 0))) rfl rfl (by kernel_rfl) (by kernel_rfl) (by kernel_rfl) (by kernel_rfl) (by kernel_rfl) (fun _ _ _ h => h) (by rfl) ?yas11 ?_
      case yas11 => (intro w' hw'; have hb : Below w1.heap.size w1.drew w' := hw'; exact exec_load_timer _ (by rfl) (HD.out.row.laterD hb) hjn (by rfl))
      simp only [Act.put, List.setIfInBounds_toArray]; try simp only [List.set_cons_zero, List.set_cons_succ]
      refine wpAnyS_take (i := 12) (d := some 23) (v := .pointer (some ⟨g, j * 2, none⟩)) rfl rfl (by kernel_rfl) (by kernel_rfl) (by kernel_rfl) (by kernel_rfl) (by kernel_rfl) (fun _ _ _ h => h) (by rfl) ?yas12 ?_
      case yas12 => (intro w' hw'; go_simp; try (with_reducible rfl))
      simp only [Act.put, List.setIfInBounds_toArray]; try simp only [List.set_cons_zero, List.set_cons_succ]
      refine wpAnyS_write (i := 13) rfl rfl (by kernel_rfl) (by rfl) fun K hK => ?_
      refine wp_store_timer _ _ (by rfl) HD.out.row.drew (i := j) hjn (l'.getD m (0, 0)) (by rfl) (by rfl) ?_
      intro w2 h2 hg2
      refine hK.out _ _ ?_
      clear hK K
      try simp only [Act.put]
      refine wpAnyS_pure (i := 14) (d := some 24) (v := .pointer (some ⟨g, m * 2, none⟩)) rfl rfl (by kernel_rfl) (by kernel_rfl) (by kernel_rfl) (by kernel_rfl) (fun _ _ _ h => h) (by rfl) ?yas14 ?_
      case yas14 => (intro w'; go_simp; try (with_reducible rfl))
      simp only [Act.put, List.setIfInBounds_toArray]; try simp only [List.set_cons_zero, List.set_cons_succ]
      refine wpAnyS_write (i := 15) rfl rfl (by kernel_rfl) (by rfl) fun K hK => ?_
      refine wp_store_timer _ _ (by rfl) h2 (i := m) hmn (l'.getD j (0, 0)) (by rfl) (by rfl) ?_
      intro w3 h3 hg3
      refine hK.out _ _ ?_
      clear hK K
      try simp only [Act.put]
      refine wpAnyS_done (by kernel_rfl) ?_ _
      have HE : Hid (HeapTo w w3 base g n c l (lswp l' j m)) := HD.out.swapped hjn hmn (by omega) h3 (grown_trans (grown_of_drew hg2) hg3)
      have HV : Hid (Down (kf (lswp l' j m)) n m) := by
        have hlen := HD.out.row.len
        show Down _ _ _
        rw [kf_lswp (by omega) (by omega) (by omega)]
        exact HUP.out.step hmn HL.out.1 HL.out.2.1 HL.out.2.2 fun d h1 h2 h3 => HM.out.2.2 d h1 h2 h3
      clear h3 hg2 hg3
      go_wp2
      go_roundw
      case rel => exact ⟨m, _, rfl, hmn, HE.out, HV.out⟩
      case measure => simp [intOf]; omega
end Go.Proofs.YtaiegmhlgjogmaaGreat.Ck
/- The closure of remove, and the library's IndexFunc by it: where a timer stands in a row. -/
namespace Go.Proofs.YtaiegmhlgjogmaaGreat.Ck
open Go.RowKit

theorem eql_timer (s t : Int × Int) (w : World) : (binOp .eql 156 (tagg s) (tagg t)).run Tryz.prog w = .ok (.bool (decide (s = t))) w := by
  have u3 := Tryz.underlying3
  have hS : Tryz.prog.underlying 156 = some (.struct (Tryz.prog.fieldsOf 156)) := by kernel_rfl
  have hp : Tryz.prog.stoodInHeld 156 = false := by kernel_rfl
  obtain ⟨a, b⟩ := s
  obtain ⟨c, d⟩ := t
  unfold tagg
  rw [run_eql_struct, show (10000 : Nat) = 9999 + 1 from rfl, run_equalIn_struct w 9999 156 _ _ hS hp]
  simp only [Program.fieldsOf, Tryz.underlying156]
  go_simp
  by_cases h0 : a = c <;> by_cases h1 : b = d <;> simp [h0, h1]

theorem closure_any (x t : Int × Int) (g : Nat) (w : World) (hg : w.heap[g]? = some (.cells #[.int .i64 t.1, .int .i64 t.2] 156 (0, 0))) :
    Calls Tryz.prog 186 #[tagg x, .pointer (some ⟨g, 0, none⟩)] w fun e w' => e = .returned (.bool (decide (x = t))) ∧ Below w.heap.size w w' := by
  have he := fun w => eql_timer x t w
  obtain ⟨x1, x2⟩ := x
  obtain ⟨t1, t2⟩ := t
  simp only at hg
  have hlt := lt_of_block hg
  have c0 := cell_of_row w g 0 _ _ _ hg
  have c1 := cell_of_row w g 1 _ _ _ hg
  simp only [List.getElem?_toArray, List.getElem?_cons_zero, List.getElem?_cons_succ] at c0 c1
  have HBW : Hid (Below w.heap.size w (w.alloc (.cells #[.int .i64 x1, .int .i64 x2] 156 (0, 0)))) := (Below.refl _ _).alloc (Nat.le_refl _) _
  unfold tagg at he ⊢
  simp only at he ⊢
  clear hg
  go_enter Tryz.func186, Tryz.ntmps186
  go_wp2
  go_ret
  exact ⟨ret_bool (by simp), HBW.out⟩

/-- Where it stands. -/
def IndexOf (w : World) (n : Nat) (l : List (Int × Int)) (t : Int × Int) (e : Ending) (w' : World) : Prop := ∃ i : Nat, i < n ∧ l.getD i (0, 0) = t ∧ e = .returned (.int .i64 (i : Int)) ∧ Below w.heap.size w w'

set_option maxHeartbeats 2000000 in
theorem index_any (base g n c b : Nat) (l : List (Int × Int)) (t : Int × Int) (w : World) (h : TRow w base g n c l) (hn : n ≤ 1000000) (hg : w.heap[b]? = some (.cells #[.int .i64 t.1, .int .i64 t.2] 156 (0, 0))) (hm : t ∈ l) :
    Calls Tryz.prog 185 #[.slice (some ⟨g, 0, none⟩) n c, .func (.func 186) #[] #[.pointer (some ⟨b, 0, none⟩)]] w (IndexOf w n l t) := by
  obtain ⟨hnc, hcm⟩ := h.cap
  unfold maxLen at hcm
  have H := hide h
  have HM := hide hm
  have HG := hide hg
  clear h hm hg
  go_enter Tryz.func185, Tryz.ntmps185
  go_wp2
  go_loopw [8] (fun v wr => ∃ k : Nat, v = .int .i64 (k : Int) ∧ k ≤ n ∧ (∀ m, m < k → l.getD m (0, 0) ≠ t) ∧ Below w.heap.size w wr) (fun v _ => n - (intOf v).toNat)
  case atStart => exact ⟨0, rfl, by omega, fun m h => by omega, Below.refl _ _⟩
  case round =>
    obtain ⟨k, rfl, hk, hno, hb⟩ := hrel
    have hkn : k < n := by
      rcases Nat.lt_or_ge k n with h | h
      · exact h
      · obtain ⟨i, hi, e⟩ := List.getElem_of_mem HM.out
        have hl := H.out.len
        exact absurd (by rw [List.getD_eq_getElem?_getD, List.getElem?_eq_getElem hi]; exact e) (hno i (by omega))
    have HN := hide hno
    have HB := hide hb
    have HR : Hid (TRow wr base g n c l) := H.out.later hb
    have C := hide (closure_any (l.getD k (0, 0)) t b wr ((hb.block b (lt_of_block HG.out)).trans HG.out))
    clear hno hb
    by_cases he : l.getD k (0, 0) = t
    · have HE := hide he
      rw [decide_eq_true he] at C
      clear he
      go_wp2_with (refine wpList_load_mid (by rfl) 156 _ (by rfl) g (k * 2) (by rfl) _ _ (HR.out.range hkn) Tryz.underlying156 (by rfl) (by kernel_rfl) ?_)
      refine C.out.mono ?_
      rintro e w1 ⟨rfl, hb1⟩
      have HB1 := hide (HB.out.trans (hb1.mono HB.out.size))
      clear hb1 C
      go_wp2
      go_ret
      exact ⟨k, hkn, HE.out, rfl, HB1.out⟩
    · have HE : Hid (∀ m, m < k + 1 → l.getD m (0, 0) ≠ t) := fun m hm => by
        by_cases e : m = k
        · subst e; exact he
        · exact HN.out m (by omega)
      rw [decide_eq_false he] at C
      clear he
      go_wp2_with (refine wpList_load_mid (by rfl) 156 _ (by rfl) g (k * 2) (by rfl) _ _ (HR.out.range hkn) Tryz.underlying156 (by rfl) (by kernel_rfl) ?_)
      refine C.out.mono ?_
      rintro e w1 ⟨rfl, hb1⟩
      have HB1 := hide (HB.out.trans (hb1.mono HB.out.size))
      clear hb1 C
      go_wp2
      go_roundw
      case rel => exact ⟨k + 1, by go_num, by omega, HE.out, HB1.out⟩
      case measure => simp [intOf]; omega
end Go.Proofs.YtaiegmhlgjogmaaGreat.Ck
/- Worlds of which all but some blocks are as they were. -/
namespace Go.Proofs.YtaiegmhlgjogmaaGreat
open Go.RowKit

/-- From w to w' no block has turned of which S does not hold. -/
structure Turned (S : Nat → Prop) (w w' : World) : Prop where
  os : w'.os = w.os
  tape : w'.tape = w.tape
  output : w'.output = w.output
  size : w.heap.size ≤ w'.heap.size
  block : ∀ i, i < w.heap.size → ¬ S i → w'.heap[i]? = w.heap[i]?
section
variable {S : Nat → Prop} {a b c : World}
theorem Turned.refl (S : Nat → Prop) (w : World) : Turned S w w := ⟨rfl, rfl, rfl, Nat.le_refl _, fun _ _ _ => rfl⟩
theorem Turned.trans (h : Turned S a b) (k : Turned S b c) : Turned S a c :=
  ⟨k.os.trans h.os, k.tape.trans h.tape, k.output.trans h.output, Nat.le_trans h.size k.size, fun i hi hs => (k.block i (Nat.lt_of_lt_of_le hi h.size) hs).trans (h.block i hi hs)⟩
theorem Turned.of_below (h : Below a.heap.size a b) (S : Nat → Prop) : Turned S a b := ⟨h.os, h.tape, h.output, h.size, fun i hi _ => h.block i hi⟩
theorem Turned.of_grown {r : Option Nat} (h : a.grownBy b r) (hr : ∀ g, r = some g → S g) : Turned S a b :=
  ⟨h.os, h.tape, h.output, h.size, fun i hi hs => h.block i hi (fun e => hs (hr i e.symm))⟩
/-- What lies in new blocks may turn. -/
theorem Turned.onto {T : Nat → Prop} (h : Turned S a b) (k : Turned T b c) (ht : ∀ i, T i → S i ∨ a.heap.size ≤ i) : Turned S a c :=
  ⟨k.os.trans h.os, k.tape.trans h.tape, k.output.trans h.output, Nat.le_trans h.size k.size, fun i hi hs => (k.block i (Nat.lt_of_lt_of_le hi h.size) (fun e => (ht i e).elim hs (by omega))).trans (h.block i hi hs)⟩
theorem Turned.kept (h : Turned S a b) {F : Nat → Prop} (hf : ∀ i, F i → ¬ S i) : Kept F a b := ⟨h.size, fun i hi hF => h.block i hi (hf i hF)⟩
theorem Turned.mono {T : Nat → Prop} (h : Turned S a b) (ht : ∀ i, S i → T i) : Turned T a b := ⟨h.os, h.tape, h.output, h.size, fun i hi hs => h.block i hi (fun e => hs (ht i e))⟩
theorem Turned.below {B : Nat} (h : Turned S a b) (hs : ∀ i, S i → B ≤ i) (hB : B ≤ a.heap.size) : Below B a b :=
  ⟨h.os, h.tape, h.output, h.size, fun i hi => h.block i (Nat.lt_of_lt_of_le hi hB) (fun e => by have := hs i e; omega)⟩
theorem Turned.drewN (S : Nat → Prop) (w : World) (n : Nat) : Turned S w (w.drewN n) := ⟨rfl, rfl, rfl, Nat.le_refl _, fun _ _ _ => rfl⟩
theorem Turned.of_drew (h : Turned S a.drew b) : Turned S a b := ⟨h.os, h.tape, h.output, h.size, h.block⟩
end
end Go.Proofs.YtaiegmhlgjogmaaGreat
/- A slice of one struct, made by a literal. -/
namespace Go.Proofs.YtaiegmhlgjogmaaGreat
open Go.RowKit

theorem fold_put : ∀ (vs : List Value) (n : Nat) (Z : Array Value), (vs.zipIdx n).foldl (fun cs (x : Value × Nat) => cs.setIfInBounds x.2 x.1) Z = putAt Z n vs
  | [], _, _ => rfl
  | v :: r, n, Z => by rw [List.zipIdx_cons, List.foldl_cons, fold_put r (n + 1), putAt]
theorem put_whole (cells Z : Array Value) (h : Z.size = cells.size) : putAt Z 0 cells.toList = cells := by
  apply Array.ext'
  rw [putAt_toList _ _ _ (by simp; omega)]
  simp [h]

section
variable {P : Program} {w : World}
theorem run_buildSlice_one (t e : TypeId) (i : TypeInfo) (z : Value) (k : Nat) (ht : P.underlying t = some (.slice e)) (hi : P.info? e = some i) (hz : i.zero = some z) (hs : i.size = k) (hk : 0 < k) (hk2 : k ≤ 16777216)
    (cells : Array Value) (hc : cells.size = k) :
    (Instr.buildSlice t 1 #[(0, .agg cells)]).run P w = .ok (.slice (some ⟨w.heap.size, 0, none⟩) 1 1) (w.alloc (.cells cells e (0, 0))) := by
  subst hs
  have hne : ¬ (i.size = 0) := by omega
  have hbig : ¬ (16777216 < i.size) := by omega
  have hfold : ∀ Z : Array Value, Z.size = i.size → Array.foldl (fun cs (x : Value × Nat) => cs.setIfInBounds x.2 x.1) Z cells.zipIdx 0 i.size = cells := fun Z hZ => by
    have h1 := fold_put cells.toList 0 Z
    rw [put_whole cells Z (by omega)] at h1
    rw [show i.size = cells.zipIdx.size from by simp [hc], ← Array.foldl_toList]
    simpa using h1
  simp [Instr.buildSlice, run_underlying ht, sizeOf, typeInfo, hi, hne, hbig, zeroValue, hz, Instr.fill, Value.cells, hc, newRow]
  rw [hfold _ (by simp)]

theorem wpList_buildSlice_one {ops : Array Oper} {rest : List Oper} {op : Oper} {a : Act} {Q : Exit → Act → World → Prop} (hgd : op.guard = none) (t e : TypeId) (x : Operand) (ho : op.op = .buildSlice t 1 #[(0, x)]) (i : TypeInfo) (z : Value) (k : Nat) (ht : P.underlying t = some (.slice e)) (hi : P.info? e = some i) (hz : i.zero = some z) (hs : i.size = k) (hk : 0 < k) (hk2 : k ≤ 16777216)
    (cells : Array Value) (hx : a.eval x = .agg cells) (hc : cells.size = k)
    (h : wpList P ops Q rest (a.put op.dst (.slice (some ⟨w.heap.size, 0, none⟩) 1 1)) (w.alloc (.cells cells e (0, 0)))) : wpList P ops Q (op :: rest) a w := by
  refine wpList_plain hgd fun K hK => ?_
  have hr := run_buildSlice_one (P := P) (w := w) t e i z k ht hi hz hs hk hk2 cells hc
  unfold Oper.wp
  simp [execOp, ho, hx, hr, Result.andThen]
  exact hK _ _ h
end
end Go.Proofs.YtaiegmhlgjogmaaGreat
/- A literal slice of one struct, and append of such a slice to a row, at an operation of a region that draws its order. -/
namespace Go.Proofs.YtaiegmhlgjogmaaGreat
open Go.RowKit

section
variable {P : Program} {w : World} {op : Oper} {a : Act} {K : Act → World → Prop} {Q : Exit → Act → World → Prop}
theorem wp_buildSlice_one (t e : TypeId) (x : Operand) (ho : op.op = .buildSlice t 1 #[(0, x)]) (i : TypeInfo) (z : Value) (k : Nat) (ht : P.underlying t = some (.slice e)) (hi : P.info? e = some i) (hz : i.zero = some z) (hs : i.size = k) (hk : 0 < k) (hk2 : k ≤ 16777216)
    (cells : Array Value) (hx : a.eval x = .agg cells) (hc : cells.size = k)
    (h : K (a.put op.dst (.slice (some ⟨w.heap.size, 0, none⟩) 1 1)) (w.alloc (.cells cells e (0, 0)))) : op.wp P a w K Q := by
  have hr := run_buildSlice_one (P := P) (w := w) t e i z k ht hi hz hs hk hk2 cells hc
  unfold Oper.wp
  simp [execOp, ho, hx, hr, Result.andThen]
  exact h
/-- A literal slice of one struct is a slice of it, in a new block. -/
theorem flat_one (w : World) (e k : Nat) (cells : Array Value) (hc : cells.size = k) (h1 : ∀ u ∈ cells.toList, u.oneCell' = true) (F : Nat → Prop) (hF : F w.heap.size) :
    FlatAt F (w.alloc (.cells cells e (0, 0))) k (.slice (some ⟨w.heap.size, 0, none⟩) 1 1) 1 cells.toList := by
  have hb : (w.alloc (.cells cells e (0, 0))).heap[w.heap.size]? = some (.cells cells e (0, 0)) := heap_alloc_new _ _
  refine ⟨by simp [hc], h1, some ⟨w.heap.size, 0, none⟩, 1, rfl, Nat.le_refl _, by unfold maxLen; omega, (fun h => by cases h), fun _ => ⟨w.heap.size, 0, rfl, hF, lt_of_block hb, fun j u hj => ?_⟩⟩
  rw [cell_of_row _ _ _ _ _ _ hb, Nat.zero_add]
  simpa using hj
theorem wp_append_flat (s x : Operand) (t : TypeId)
    (ho : op.op = .call { callee := .builtin .append, args := #[s, x], argTypes := #[t, t] })
    (base : Nat) (e : TypeId) (i : TypeInfo) (z : Value) (k bytes : Nat) (ht : P.underlying t = some (.slice e)) (hi : P.info? e = some i) (hz : i.zero = some z)
    (hsize : i.size = k) (hby : i.bytes = bytes) (hzs : z.cells.size = k) (hk : 0 < k)
    (v : Value) (n : Nat) (xs : List Value) (hs : a.eval s = v) (hown : w.ownsRow base e k v n xs)
    (g c m : Nat) (ys : List Value) (hx : a.eval x = .slice (some ⟨g, 0, none⟩) m c) (F : Nat → Prop) (hl : FlatAt F w k (.slice (some ⟨g, 0, none⟩) m c) m ys) (hm : 0 < m) (hroom : n + m ≤ maxLen) (hbytes : (n + m) * bytes ≤ 140737488355328) (hbase : base ≤ w.heap.size)
    (h : ∀ v' w', w'.ownsRow base e k v' (n + m) (xs ++ ys) → w.grownBy w' v.ownBlock → (v'.ownBlock = v.ownBlock ∨ v'.ownBlock = some w.heap.size) → K (a.put op.dst v') w') : op.wp P a w K Q := by
  obtain ⟨hlen, h1, A', c', hv, h3, h4, h5, h6⟩ := hl
  obtain ⟨rfl, rfl⟩ : some ⟨g, 0, none⟩ = A' ∧ c = c' := by injection hv with e1 _ e3; exact ⟨e1, e3⟩
  obtain ⟨v', w', hr, h2, h3, _, h5⟩ := run_append_own_at (P := P) w base t op.type e i z k bytes ht hi hz hsize hby hzs hk v n xs hown ⟨g, 0, none⟩ m c ys hlen
      (fun j u hu => by
        obtain ⟨b, off, h, _, _, hr⟩ := h6 hm
        injection h with h
        injection h with e1 e2
        subst e1 e2
        rw [Addr.add_lit]
        exact hr j u hu) h1 hroom hbytes hbase
  unfold Oper.wp execOp
  simp only [ho, resolve, invoke, builtin, Sem.run_bind, Sem.run_pure, Result.andThen_ok, List.map_toArray, List.map_cons, List.map_nil, hs, hx, hr]
  exact h v' w' h2 h3 h5
end
end Go.Proofs.YtaiegmhlgjogmaaGreat
/- push and remove of package clock. -/
namespace Go.Proofs.YtaiegmhlgjogmaaGreat.Ck
open Go.RowKit

theorem Tryz.infoT : (Tryz.prog.info? 156).map (fun i => (i.zero, i.size, i.bytes)) = some (some (.agg #[.int .i64 0, .int .i64 0]), 2, 16) := by kernel_rfl

/-- The block k of a clock's parts: its ticks, its map, and its heap hs, in a row of its own. -/
structure HeapAt (w : World) (base k : Nat) (now mp hv : Value) (hs : List (Int × Int)) : Prop where
  cell : w.heap[k]? = some (.cells #[now, mp, hv] 154 (0, 0))
  kb : k < base
  bw : base ≤ w.heap.size
  own : w.ownsRow base 156 2 hv hs.length (tcells hs)
  heap : Heap (kf hs) hs.length
  t64 : ∀ x ∈ hs, T64 x
  len : hs.length ≤ 1000
/-- The blocks that may turn. -/
def Foot (k : Nat) (hv : Value) (i : Nat) : Prop := i = k ∨ hv.ownBlock = some i

section
variable {w w' : World} {base k : Nat} {now mp hv : Value} {hs : List (Int × Int)}
theorem HeapAt.kept (h : HeapAt w base k now mp hv hs) (hk : Kept (Foot k hv) w w') : HeapAt w' base k now mp hv hs := by
  refine ⟨(hk.2 k (lt_of_block h.cell) (.inl rfl)).trans h.cell, h.kb, Nat.le_trans h.bw hk.1, ?_, h.heap, h.t64, h.len⟩
  refine ⟨h.own.1, ?_⟩
  rcases h.own.2 with h0 | ⟨g, cap, cur, hv', h1, h2, h3⟩
  · exact .inl h0
  · exact .inr ⟨g, cap, cur, hv', h1, (hk.2 g (lt_of_block h2) (.inr (by rw [hv']; rfl))).trans h2, h3⟩
theorem HeapAt.later (h : HeapAt w base k now mp hv hs) (hb : Below w.heap.size w w') : HeapAt w' base k now mp hv hs := h.kept (Kept.of_below hb _)
end

theorem own_later {w w1 : World} {base e size n : Nat} {v : Value} {xs : List Value} (ho : w.ownsRow base e size v n xs) (hb : Below w.heap.size w w1) : w1.ownsRow base e size v n xs :=
  ho.kept (Went.of_below hb none).1 (by cases h : v.ownBlock <;> simp)
theorem own_place {w : World} {base e size n : Nat} {v : Value} {xs : List Value} (h : w.ownsRow base e size v n xs) (hn : 0 < n) : ∃ g c, v = .slice (some ⟨g, 0, none⟩) n c ∧ base ≤ g ∧ g < w.heap.size ∧ n ≤ c ∧ c ≤ maxLen := by
  rcases h.2 with ⟨_, h0⟩ | ⟨g, cap, cur, hv, hb, hg, hnc, hm, _⟩
  · omega
  · exact ⟨g, cap, hv, hb, lt_of_block hg, hnc, hm⟩
/-- What push leaves. -/
def Pushed (w : World) (base k : Nat) (now mp hv : Value) (hs : List (Int × Int)) (t : Int × Int) (w' : World) : Prop :=
  ∃ hv' hs', HeapAt w' base k now mp hv' hs' ∧ hs'.Perm (hs ++ [t]) ∧ Turned (Foot k hv) w w' ∧ (hv'.ownBlock = hv.ownBlock ∨ ∃ q, hv'.ownBlock = some q ∧ w.heap.size ≤ q)

theorem get_append_lt (l : List (Int × Int)) (t : Int × Int) (k : Nat) (hk : k < l.length) : kf (l ++ [t]) k = kf l k := by
  unfold kf
  rw [List.getD_eq_getElem?_getD, List.getD_eq_getElem?_getD, List.getElem?_append_left hk]

set_option maxHeartbeats 2000000 in
set_option maxRecDepth 100000 in
theorem push_any (base k : Nat) (now mp hv : Value) (hs : List (Int × Int)) (t : Int × Int) (w : World) (h : HeapAt w base k now mp hv hs) (ht : T64 t) (hlen : hs.length < 1000) :
    Calls Tryz.prog 189 #[.pointer (some ⟨k, 2, none⟩), tagg t] w fun e w' => e = .returned (.tuple #[]) ∧ Pushed w base k now mp hv hs t w' := by
  obtain ⟨i0, hi, hz0, hz1, hz2⟩ := info_parts Tryz.infoT
  have hkw : k < w.heap.size := lt_of_block h.cell
  have hkb := h.kb
  have hbw := h.bw
  obtain ⟨t1, t2⟩ := t
  have hvs : ∃ A c, hv = .slice A hs.length c ∧ hs.length ≤ c ∧ c ≤ maxLen := by
    rcases h.own.2 with ⟨e, e0⟩ | ⟨g, cap, cur, e, _, _, h1, h2, _⟩
    · exact ⟨none, 0, by rw [e, e0], by omega, by unfold maxLen; omega⟩
    · exact ⟨_, cap, e, h1, h2⟩
  obtain ⟨A, c, rfl, hnc, hcm⟩ := hvs
  unfold maxLen at hcm
  obtain ⟨n, hn⟩ : ∃ n, n = hs.length := ⟨_, rfl⟩
  obtain ⟨m, hm⟩ : ∃ m, m = n + 1 := ⟨_, rfl⟩
  have H := hide h
  have HT := hide ht
  have HI := hide hi
  have HZ0 := hide hz0
  have HZ1 := hide hz1
  have HZ2 := hide hz2
  rw [← hn] at hnc ⊢
  have hn1 : n < 1000 := by omega
  have HN := hide hn
  have HM := hide hm
  have hm1 : (m : Int) - 1 = (n : Int) := by omega
  have HM1 := hide hm1
  have hmn : n < m := by omega
  clear h ht hi hz0 hz1 hz2 hlen hn hm hm1
  unfold tagg
  simp only
  go_enter Tryz.func189, Tryz.ntmps189
  go_wp2
  obtain ⟨w1, hw1⟩ : ∃ w1, w1 = w.alloc (.cells #[.int .i64 t1, .int .i64 t2] 156 (0, 0)) := ⟨_, rfl⟩
  have L1 : Hid (Below w.heap.size w w1) := by
    rw [hw1]
    exact (Below.refl _ _).alloc (Nat.le_refl _) _
  have X1 : Hid (w1.heap[w.heap.size]? = some (.cells #[.int .i64 t1, .int .i64 t2] 156 (0, 0))) := by
    rw [hw1]
    exact heap_alloc_new _ _
  have K1 : Hid (w1.heap[k]? = some (.cells #[now, mp, .slice A n c] 154 (0, 0))) := by
    rw [HN.out]
    exact (L1.out.block k hkw).trans H.out.cell
  have O1 : Hid (w1.ownsRow base 156 2 (.slice A n c) n (tcells hs)) := by
    rw [HN.out]
    exact (H.out.later L1.out).own
  rw [← hw1]
  clear hw1
  refine wp_region_S (fun j => j == 6 || j == 8) (by kernel_rfl) ?_
  refine wpAnyS_pure (i := 0) (d := some 4) (v := ?vaa0) rfl rfl (by kernel_rfl) (by kernel_rfl) (by kernel_rfl) (by kernel_rfl) (fun _ _ _ h => h) (by rfl) ?yaa0 ?_
  case yaa0 => (intro w'; go_simp; try (with_reducible rfl))
  simp only [Act.put]; try simp only [List.setIfInBounds_toArray]; try simp only [List.set_cons_zero, List.set_cons_succ]
  refine wpAnyS_take (i := 1) (d := some 5) (v := ?vaa1) rfl rfl (by kernel_rfl) (by kernel_rfl) (by kernel_rfl) (by kernel_rfl) (by kernel_rfl) (fun _ _ _ h => h) (by rfl) ?yaa1 ?_
  case yaa1 => (intro w' hw'; go_simp; try (with_reducible rfl))
  simp only [Act.put]; try simp only [List.setIfInBounds_toArray]; try simp only [List.set_cons_zero, List.set_cons_succ]
  refine wpAnyS_take (i := 2) (d := some 6) (v := ?vaa2) rfl rfl (by kernel_rfl) (by kernel_rfl) (by kernel_rfl) (by kernel_rfl) (by kernel_rfl) (fun _ _ _ h => h) (by rfl) ?yaa2 ?_
  case yaa2 => (intro w' hw'; go_simp; try (with_reducible rfl))
  simp only [Act.put]; try simp only [List.setIfInBounds_toArray]; try simp only [List.set_cons_zero, List.set_cons_succ]
  refine wpAnyS_take (i := 3) (d := some 7) (v := ?vaa3) rfl rfl (by kernel_rfl) (by kernel_rfl) (by kernel_rfl) (by kernel_rfl) (by kernel_rfl) (fun _ _ _ h => h) (by rfl) ?yaa3 ?_
  case yaa3 => (intro w' hw'; have hc : w'.heap[k]? = _ := (Below.block hw' k (by have := L1.out.size; show k < w1.heap.size; omega)).trans K1.out; have hc2 := cell_of_row w' k 2 _ _ _ hc; simp only [List.getElem?_toArray, List.getElem?_cons_zero, List.getElem?_cons_succ] at hc2; clear hc; go_simp; try (with_reducible rfl))
  simp only [Act.put]; try simp only [List.setIfInBounds_toArray]; try simp only [List.set_cons_zero, List.set_cons_succ]
  refine wpAnyS_take (i := 4) (d := some 8) (v := .agg #[.int .i64 t1, .int .i64 t2]) rfl rfl (by kernel_rfl) (by kernel_rfl) (by kernel_rfl) (by kernel_rfl) (by kernel_rfl) (fun _ _ _ h => h) (by rfl) ?yaa4 ?_
  case yaa4 => (intro w' hw'; exact exec_load_box 156 _ (by rfl) w.heap.size 0 (by rfl) 156 _ ((Below.block hw' w.heap.size (lt_of_block X1.out)).trans X1.out) 2 _ Tryz.underlying156 (by rfl) (by kernel_rfl) (tcell (t1, t2)) (by rfl) (by rfl))
  simp only [Act.put]; try simp only [List.setIfInBounds_toArray]; try simp only [List.set_cons_zero, List.set_cons_succ]
  refine wpAnyS_only (i := 5) rfl (by kernel_rfl) (by rfl) fun K hK => ?_
  refine wp_buildSlice_one 152 156 _ (by rfl) i0 _ 2 Tryz.underlying152 HI.out HZ0.out HZ1.out (by omega) (by omega) #[.int .i64 t1, .int .i64 t2] (by rfl) (by rfl) ?_
  obtain ⟨w2, hw2⟩ : ∃ w2, w2 = w1.drew.alloc (.cells #[.int .i64 t1, .int .i64 t2] 156 (0, 0)) := ⟨_, rfl⟩
  have L2 : Hid (Below w1.heap.size w1 w2) := by rw [hw2]; exact (Below.refl w1.heap.size w1).drew.alloc (Nat.le_refl _) _
  have F2 : Hid (FlatAt (fun _ => True) w2 2 (.slice (some ⟨w1.heap.size, 0, none⟩) 1 1) 1 (tcell (t1, t2))) := by rw [hw2]; exact flat_one w1.drew 156 2 #[.int .i64 t1, .int .i64 t2] (by rfl) (by simp [Value.oneCell']) _ trivial
  have hw2' : Later w1.drew w2 := by rw [hw2]; exact (Below.refl _ _).alloc (Nat.le_refl _) _
  rw [← hw2]
  refine hK.out _ _ hw2' ?_
  clear hw2 hw2'
  clear hK K
  try (simp only [Act.put]; try simp only [List.setIfInBounds_toArray]; try simp only [List.set_cons_zero, List.set_cons_succ])
  refine wpAnyS_write (i := 6) rfl rfl (by kernel_rfl) (by rfl) fun K hK => ?_
  refine wp_append_flat _ _ 152 (by rfl) base 156 i0 _ 2 16 Tryz.underlying152 HI.out HZ0.out HZ1.out HZ2.out (by rfl) (by omega) (.slice A n c) n (tcells hs) (by rfl) (own_later O1.out L2.out) w1.heap.size 1 1 (tcell (t1, t2)) (by rfl) _ F2.out (by omega) (by unfold maxLen; omega) (by omega) (by have := L1.out.size; have := L2.out.size; omega) ?_
  intro v3 w3 ho3 hg3 ha3
  rw [← HM.out] at ho3
  obtain ⟨g3, c3, rfl, hb3, hs3, hc3, hm3⟩ := own_place ho3 (by omega)
  have HA3 : Hid (some g3 = Value.ownBlock (.slice A n c) ∨ ∃ q, some g3 = some q ∧ w.heap.size ≤ q) := by
    rcases ha3 with e | e
    · exact .inl e
    · exact .inr ⟨_, e, by have := L1.out.size; have := L2.out.size; omega⟩
  have HG3 := hide hg3
  have R3 : Hid (TRow w3 base g3 m c3 (hs ++ [(t1, t2)])) := by
    show World.ownsRow _ _ _ _ _ _ _
    rw [tcells_append, tcells_single]
    exact ho3
  have K3 : Hid (w3.heap[k]? = some (.cells #[now, mp, .slice A n c] 154 (0, 0))) := by
    show _ = _
    rw [hg3.block k (by have := L1.out.size; have := L2.out.size; omega) ?_, L2.out.block k (by have := L1.out.size; omega)]
    · exact K1.out
    · intro e; have := (own_later O1.out L2.out).lt k e.symm; omega
  unfold maxLen at hm3
  clear ho3 hg3 ha3
  refine hK.out _ _ ?_
  clear hK K
  try (simp only [Act.put]; try simp only [List.setIfInBounds_toArray]; try simp only [List.set_cons_zero, List.set_cons_succ])
  refine wpAnyS_pure (i := 7) (d := some 11) (v := ?vaa7) rfl rfl (by kernel_rfl) (by kernel_rfl) (by kernel_rfl) (by kernel_rfl) (fun _ _ _ h => h) (by rfl) ?yaa7 ?_
  case yaa7 => (intro w'; go_simp; try (with_reducible rfl))
  simp only [Act.put]; try simp only [List.setIfInBounds_toArray]; try simp only [List.set_cons_zero, List.set_cons_succ]
  refine wpAnyS_write (i := 8) rfl rfl (by kernel_rfl) (by rfl) fun K hK => ?_
  have hc2 := cell_of_row w3 k 2 _ _ _ K3.out
  have hf2 := frozen_of_row w3 k 2 _ _ K3.out
  simp only [List.getElem?_toArray, List.getElem?_cons_zero, List.getElem?_cons_succ] at hc2
  go_simp
  refine hK.out _ _ ?_
  clear hc2 hf2
  clear hK K
  try simp only [Act.put]
  refine wpAnyS_done (by kernel_rfl) ?_ _
  obtain ⟨w4, hw4⟩ : ∃ w4, w4 = w3.setCell ⟨k, 2, none⟩ (.slice (some ⟨g3, 0, none⟩) m c3) := ⟨_, rfl⟩
  have T4 : Hid (Turned (Foot k (.slice A n c)) w w4) := by
    rw [hw4]
    have a1 : Turned (Foot k (.slice A n c)) w w3 := (Turned.of_below L1.out _).trans ((Turned.of_below L2.out _).trans (Turned.of_grown HG3.out fun g e => .inr e))
    exact a1.trans (Turned.of_grown (grown_set w3 k 2 _) fun g e => .inl (Option.some.inj e).symm)
  have K4 : Hid (w4.heap[k]? = some (.cells #[now, mp, .slice (some ⟨g3, 0, none⟩) m c3] 154 (0, 0))) := by
    rw [hw4]
    exact heap_setCell_same w3 k 2 _ _ _ K3.out
  have R4 : Hid (TRow w4 base g3 m c3 (hs ++ [(t1, t2)])) := by
    rw [hw4]
    exact R3.out.kept (heap_setCell_other _ _ _ _ (by show g3 ≠ k; have := R3.out.lt; omega))
  rw [← hw4]
  clear hw4
  have hup : Up (kf (hs ++ [(t1, t2)])) m n n := by
    rw [HM.out]
    refine Heap.push (Heap.congr (f := kf hs) (by rw [HN.out]; exact H.out.heap) fun j hj => get_append_lt hs _ j (by have := HN.out; omega))
  have CR := hide (fun w' (hr : TRow w' base g3 m c3 (hs ++ [(t1, t2)])) => rise_any base g3 m c3 n (hs ++ [(t1, t2)]) w' hr hmn (by have := HM.out; omega) (fun x hx => by
    rcases List.mem_append.1 hx with hx | hx
    · exact H.out.t64 x hx
    · rw [List.mem_singleton.1 hx]; exact HT.out) hup)
  clear hup
  have hm1 := HM1.out
  have hwr : IntKind.i64.wrap (n : Int) = (n : Int) := IntWalk.i64_in _ (by omega)
  go_wp2
  refine wp_region_S (fun j => j == 8) (by kernel_rfl) ?_
  refine wpAnyS_take (i := 0) (d := some 12) (v := ?vab0) rfl rfl (by kernel_rfl) (by kernel_rfl) (by kernel_rfl) (by kernel_rfl) (by kernel_rfl) (fun _ _ _ h => h) (by rfl) ?yab0 ?_
  case yab0 => (intro w' hw'; go_simp; try (with_reducible rfl))
  simp only [Act.put]; try simp only [List.setIfInBounds_toArray]; try simp only [List.set_cons_zero, List.set_cons_succ]
  refine wpAnyS_take (i := 1) (d := some 13) (v := ?vab1) rfl rfl (by kernel_rfl) (by kernel_rfl) (by kernel_rfl) (by kernel_rfl) (by kernel_rfl) (fun _ _ _ h => h) (by rfl) ?yab1 ?_
  case yab1 => (intro w' hw'; go_simp; try (with_reducible rfl))
  simp only [Act.put]; try simp only [List.setIfInBounds_toArray]; try simp only [List.set_cons_zero, List.set_cons_succ]
  refine wpAnyS_take (i := 2) (d := some 14) (v := ?vab2) rfl rfl (by kernel_rfl) (by kernel_rfl) (by kernel_rfl) (by kernel_rfl) (by kernel_rfl) (fun _ _ _ h => h) (by rfl) ?yab2 ?_
  case yab2 => (intro w' hw'; have hc : w'.heap[k]? = _ := (Below.block hw' k (lt_of_block K4.out)).trans K4.out; have hc2 := cell_of_row w' k 2 _ _ _ hc; simp only [List.getElem?_toArray, List.getElem?_cons_zero, List.getElem?_cons_succ] at hc2; clear hc; go_simp; try (with_reducible rfl))
  simp only [Act.put]; try simp only [List.setIfInBounds_toArray]; try simp only [List.set_cons_zero, List.set_cons_succ]
  refine wpAnyS_take (i := 3) (d := some 15) (v := ?vab3) rfl rfl (by kernel_rfl) (by kernel_rfl) (by kernel_rfl) (by kernel_rfl) (by kernel_rfl) (fun _ _ _ h => h) (by rfl) ?yab3 ?_
  case yab3 => (intro w' hw'; go_simp; try (with_reducible rfl))
  simp only [Act.put]; try simp only [List.setIfInBounds_toArray]; try simp only [List.set_cons_zero, List.set_cons_succ]
  refine wpAnyS_take (i := 4) (d := some 16) (v := ?vab4) rfl rfl (by kernel_rfl) (by kernel_rfl) (by kernel_rfl) (by kernel_rfl) (by kernel_rfl) (fun _ _ _ h => h) (by rfl) ?yab4 ?_
  case yab4 => (intro w' hw'; go_simp; try (with_reducible rfl))
  simp only [Act.put]; try simp only [List.setIfInBounds_toArray]; try simp only [List.set_cons_zero, List.set_cons_succ]
  refine wpAnyS_take (i := 5) (d := some 17) (v := ?vab5) rfl rfl (by kernel_rfl) (by kernel_rfl) (by kernel_rfl) (by kernel_rfl) (by kernel_rfl) (fun _ _ _ h => h) (by rfl) ?yab5 ?_
  case yab5 => (intro w' hw'; have hc : w'.heap[k]? = _ := (Below.block hw' k (lt_of_block K4.out)).trans K4.out; have hc2 := cell_of_row w' k 2 _ _ _ hc; simp only [List.getElem?_toArray, List.getElem?_cons_zero, List.getElem?_cons_succ] at hc2; clear hc; go_simp; try (with_reducible rfl))
  simp only [Act.put]; try simp only [List.setIfInBounds_toArray]; try simp only [List.set_cons_zero, List.set_cons_succ]
  refine wpAnyS_take (i := 6) (d := some 18) (v := ?vab6) rfl rfl (by kernel_rfl) (by kernel_rfl) (by kernel_rfl) (by kernel_rfl) (by kernel_rfl) (fun _ _ _ h => h) (by rfl) ?yab6 ?_
  case yab6 => (intro w' hw'; go_simp; try (with_reducible rfl))
  simp only [Act.put]; try simp only [List.setIfInBounds_toArray]; try simp only [List.set_cons_zero, List.set_cons_succ]
  refine wpAnyS_take (i := 7) (d := some 19) (v := .int .i64 (n : Int)) rfl rfl (by kernel_rfl) (by kernel_rfl) (by kernel_rfl) (by kernel_rfl) (by kernel_rfl) (fun _ _ _ h => h) (by rfl) ?yab7 ?_
  case yab7 => (intro w' hw'; go_simp; try (with_reducible rfl))
  simp only [Act.put]; try simp only [List.setIfInBounds_toArray]; try simp only [List.set_cons_zero, List.set_cons_succ]
  refine wpAnyS_write (i := 8) rfl rfl (by kernel_rfl) (by rfl) fun K hK => ?_
  go_simp
  refine (CR.out _ R4.out.drew).mono ?_
  rintro e w5 ⟨rfl, hr5⟩
  have HR5 := hide hr5
  clear hr5
  refine hK.out _ _ ?_
  clear hK K
  try (simp only [Act.put]; try simp only [List.setIfInBounds_toArray]; try simp only [List.set_cons_zero, List.set_cons_succ])
  refine wpAnyS_done (by kernel_rfl) ?_ _
  go_wp2
  go_end0
  obtain ⟨l', hl', hd⟩ := HR5.out
  have hlen : l'.length = m := hl'.row.len
  refine ⟨rfl, .slice (some ⟨g3, 0, none⟩) m c3, l', ⟨(hl'.grown.block k (lt_of_block K4.out) (by have := R4.out.lt; intro e; have := Option.some.inj e; omega)).trans K4.out, hkb, Nat.le_trans hbw (Nat.le_trans T4.out.size hl'.grown.size), ?_, ?_, fun x hx => ?_, by have := HM.out; omega⟩, hl'.perm, ?_, ?_⟩
  · rw [hlen]
    exact hl'.row
  · rw [hlen, HM.out]
    rw [HM.out] at hd
    exact hd.last
  · rcases List.mem_append.1 (hl'.perm.mem_iff.1 hx) with hx | hx
    · exact H.out.t64 x hx
    · rw [List.mem_singleton.1 hx]; exact HT.out
  · exact T4.out.onto (T := fun i => i = g3) (Turned.of_grown (grown_of_drew hl'.grown) fun g e => (Option.some.inj e).symm) (fun i hi => by
      subst hi
      rcases HA3.out with e | ⟨q, e, hq⟩
      · exact .inl (.inr e.symm)
      · injection e with e
        subst e
        exact .inr hq)
  · exact HA3.out.imp id fun ⟨q, e, hq⟩ => ⟨q, e, hq⟩
end Go.Proofs.YtaiegmhlgjogmaaGreat.Ck
/- remove of package clock. -/
namespace Go.Proofs.YtaiegmhlgjogmaaGreat.Ck
open Go.RowKit

/-- What remove leaves. -/
def Removed (w : World) (base k : Nat) (now mp hv : Value) (hs : List (Int × Int)) (t : Int × Int) (w' : World) : Prop :=
  ∃ hv' hs', HeapAt w' base k now mp hv' hs' ∧ (t :: hs').Perm hs ∧ Turned (Foot k hv) w w' ∧ hv'.ownBlock = hv.ownBlock

set_option maxHeartbeats 4000000 in
set_option maxRecDepth 100000 in
theorem remove_any (base k : Nat) (now mp hv : Value) (hs : List (Int × Int)) (t : Int × Int) (w : World) (h : HeapAt w base k now mp hv hs) (hm : t ∈ hs) :
    Calls Tryz.prog 165 #[.pointer (some ⟨k, 2, none⟩), tagg t] w fun e w' => e = .returned (.tuple #[]) ∧ Removed w base k now mp hv hs t w' := by
  have hkw : k < w.heap.size := lt_of_block h.cell
  have hkb := h.kb
  have hbw := h.bw
  have hpos : 0 < hs.length := List.length_pos_of_mem hm
  have hlen := h.len
  obtain ⟨g, c, rfl, hb, hg, hnc, hcm⟩ := own_place h.own hpos
  unfold maxLen at hcm
  obtain ⟨n, hn⟩ : ∃ n, n = hs.length := ⟨_, rfl⟩
  obtain ⟨m, hmn⟩ : ∃ m, m = n - 1 := ⟨_, rfl⟩
  have hrow : TRow w base g n c hs := by
    rw [hn]
    exact h.own
  rw [← hn] at hpos hlen hnc ⊢
  have hcell := h.cell
  rw [← hn] at hcell
  have hn1 : (n : Int) - 1 = (m : Int) := by omega
  have hmn2 : m < n := by omega
  have hwr : IntKind.i64.wrap ((n : Int) - 1) = (m : Int) := by rw [hn1]; exact IntWalk.i64_in _ (by omega)
  obtain ⟨t1, t2⟩ := t
  have H := hide h
  have HM := hide hm
  have HN := hide hn
  have HMN := hide hmn
  have HROW := hide hrow
  have HCELL := hide hcell
  have HN1 := hide hn1
  have HWR := hide hwr
  clear h hm hn hmn hrow hcell hn1 hwr
  unfold tagg
  simp only
  go_enter Tryz.func165, Tryz.ntmps165
  have kc2 := cell_of_row w k 2 _ _ _ HCELL.out
  simp only [List.getElem?_toArray, List.getElem?_cons_zero, List.getElem?_cons_succ] at kc2
  go_wp2_with (fail)
  have L1 : Hid (Below w.heap.size w (w.alloc (.cells #[.int .i64 t1, .int .i64 t2] 156 (0, 0)))) := (Below.refl _ _).alloc (Nat.le_refl _) _
  refine (index_any base g n c w.heap.size hs (t1, t2) _ (HROW.out.later L1.out) (by omega) (heap_alloc_new _ _) HM.out).mono ?_
  rintro e w2 ⟨i, hi, hit, rfl, hb2⟩
  have HIT := hide hit
  have L2 : Hid (Below w.heap.size w w2) := L1.out.trans (hb2.mono L1.out.size)
  have K2 : Hid (w2.heap[k]? = some (.cells #[now, mp, .slice (some ⟨g, 0, none⟩) n c] 154 (0, 0))) := (L2.out.block k hkw).trans HCELL.out
  have R2 : Hid (TRow w2 base g n c hs) := HROW.out.later L2.out
  clear hit hb2 kc2
  have hk2 := cell_of_row w2 k 2 _ _ _ K2.out
  have hf2 := frozen_of_row w2 k 2 _ _ K2.out
  simp only [List.getElem?_toArray, List.getElem?_cons_zero, List.getElem?_cons_succ] at hk2
  have hn1 := HN1.out
  have hi0 : (0 : Int) ≤ (i : Int) := by omega
  go_wp2
  refine wp_region_S (fun j => j == 11) (by kernel_rfl) ?_
  refine wpAnyS_take (i := 0) (d := some 18) (v := ?vaa0) rfl rfl (by kernel_rfl) (by kernel_rfl) (by kernel_rfl) (by kernel_rfl) (by kernel_rfl) (fun _ _ _ h => h) (by rfl) ?yaa0 ?_
  case yaa0 => (intro w' hw'; go_simp; try (with_reducible rfl))
  simp only [Act.put]; try simp only [List.setIfInBounds_toArray]; try simp only [List.set_cons_zero, List.set_cons_succ]
  refine wpAnyS_take (i := 1) (d := some 19) (v := ?vaa1) rfl rfl (by kernel_rfl) (by kernel_rfl) (by kernel_rfl) (by kernel_rfl) (by kernel_rfl) (fun _ _ _ h => h) (by rfl) ?yaa1 ?_
  case yaa1 => (intro w' hw'; go_simp; try (with_reducible rfl))
  simp only [Act.put]; try simp only [List.setIfInBounds_toArray]; try simp only [List.set_cons_zero, List.set_cons_succ]
  refine wpAnyS_take (i := 2) (d := some 20) (v := ?vaa2) rfl rfl (by kernel_rfl) (by kernel_rfl) (by kernel_rfl) (by kernel_rfl) (by kernel_rfl) (fun _ _ _ h => h) (by rfl) ?yaa2 ?_
  case yaa2 => (intro w' hw'; have hc : w'.heap[k]? = _ := (Below.block hw' k (lt_of_block K2.out)).trans K2.out; have hc2 := cell_of_row w' k 2 _ _ _ hc; simp only [List.getElem?_toArray, List.getElem?_cons_zero, List.getElem?_cons_succ] at hc2; clear hc; go_simp; try (with_reducible rfl))
  simp only [Act.put]; try simp only [List.setIfInBounds_toArray]; try simp only [List.set_cons_zero, List.set_cons_succ]
  refine wpAnyS_take (i := 3) (d := some 21) (v := ?vaa3) rfl rfl (by kernel_rfl) (by kernel_rfl) (by kernel_rfl) (by kernel_rfl) (by kernel_rfl) (fun _ _ _ h => h) (by rfl) ?yaa3 ?_
  case yaa3 => (intro w' hw'; go_simp; try (with_reducible rfl))
  simp only [Act.put]; try simp only [List.setIfInBounds_toArray]; try simp only [List.set_cons_zero, List.set_cons_succ]
  refine wpAnyS_take (i := 4) (d := some 22) (v := ?vaa4) rfl rfl (by kernel_rfl) (by kernel_rfl) (by kernel_rfl) (by kernel_rfl) (by kernel_rfl) (fun _ _ _ h => h) (by rfl) ?yaa4 ?_
  case yaa4 => (intro w' hw'; go_simp; try (with_reducible rfl))
  simp only [Act.put]; try simp only [List.setIfInBounds_toArray]; try simp only [List.set_cons_zero, List.set_cons_succ]
  refine wpAnyS_take (i := 5) (d := some 23) (v := ?vaa5) rfl rfl (by kernel_rfl) (by kernel_rfl) (by kernel_rfl) (by kernel_rfl) (by kernel_rfl) (fun _ _ _ h => h) (by rfl) ?yaa5 ?_
  case yaa5 => (intro w' hw'; go_simp; try (with_reducible rfl))
  simp only [Act.put]; try simp only [List.setIfInBounds_toArray]; try simp only [List.set_cons_zero, List.set_cons_succ]
  refine wpAnyS_take (i := 6) (d := some 24) (v := ?vaa6) rfl rfl (by kernel_rfl) (by kernel_rfl) (by kernel_rfl) (by kernel_rfl) (by kernel_rfl) (fun _ _ _ h => h) (by rfl) ?yaa6 ?_
  case yaa6 => (intro w' hw'; have hc : w'.heap[k]? = _ := (Below.block hw' k (lt_of_block K2.out)).trans K2.out; have hc2 := cell_of_row w' k 2 _ _ _ hc; simp only [List.getElem?_toArray, List.getElem?_cons_zero, List.getElem?_cons_succ] at hc2; clear hc; go_simp; try (with_reducible rfl))
  simp only [Act.put]; try simp only [List.setIfInBounds_toArray]; try simp only [List.set_cons_zero, List.set_cons_succ]
  refine wpAnyS_take (i := 7) (d := some 25) (v := ?vaa7) rfl rfl (by kernel_rfl) (by kernel_rfl) (by kernel_rfl) (by kernel_rfl) (by kernel_rfl) (fun _ _ _ h => h) (by rfl) ?yaa7 ?_
  case yaa7 => (intro w' hw'; go_simp; try (with_reducible rfl))
  simp only [Act.put]; try simp only [List.setIfInBounds_toArray]; try simp only [List.set_cons_zero, List.set_cons_succ]
  refine wpAnyS_take (i := 8) (d := some 26) (v := .pointer (some ⟨g, m * 2, none⟩)) rfl rfl (by kernel_rfl) (by kernel_rfl) (by kernel_rfl) (by kernel_rfl) (by kernel_rfl) (fun _ _ _ h => h) (by rfl) ?yaa8 ?_
  case yaa8 => (intro w' hw'; go_simp; try (with_reducible rfl))
  simp only [Act.put]; try simp only [List.setIfInBounds_toArray]; try simp only [List.set_cons_zero, List.set_cons_succ]
  refine wpAnyS_take (i := 9) (d := some 27) (v := tagg (hs.getD m (0, 0))) rfl rfl (by kernel_rfl) (by kernel_rfl) (by kernel_rfl) (by kernel_rfl) (by kernel_rfl) (fun _ _ _ h => h) (by rfl) ?yaa9 ?_
  case yaa9 => (intro w' hw'; have hb : Below w2.heap.size w2.drew w' := hw'; exact exec_load_timer _ (by rfl) (R2.out.laterD hb) hmn2 (by rfl))
  simp only [Act.put]; try simp only [List.setIfInBounds_toArray]; try simp only [List.set_cons_zero, List.set_cons_succ]
  refine wpAnyS_take (i := 10) (d := some 28) (v := .pointer (some ⟨g, i * 2, none⟩)) rfl rfl (by kernel_rfl) (by kernel_rfl) (by kernel_rfl) (by kernel_rfl) (by kernel_rfl) (fun _ _ _ h => h) (by rfl) ?yaa10 ?_
  case yaa10 => (intro w' hw'; go_simp; try (with_reducible rfl))
  simp only [Act.put]; try simp only [List.setIfInBounds_toArray]; try simp only [List.set_cons_zero, List.set_cons_succ]
  refine wpAnyS_write (i := 11) rfl rfl (by kernel_rfl) (by rfl) fun K hK => ?_
  refine wp_store_timer _ _ (by rfl) R2.out.drew (i := i) hi (hs.getD m (0, 0)) (by rfl) (by rfl) ?_
  intro w3 h3 hg3
  refine hK.out _ _ ?_
  clear hK K
  try simp only [Act.put]
  refine wpAnyS_done (by kernel_rfl) ?_ _
  have T3 : Hid (Turned (Foot k (.slice (some ⟨g, 0, none⟩) n c)) w w3) := (Turned.of_below L2.out _).trans (Turned.of_grown (grown_of_drew hg3) fun q e => .inr e)
  have K3 : Hid (w3.heap[k]? = some (.cells #[now, mp, .slice (some ⟨g, 0, none⟩) n c] 154 (0, 0))) := (hg3.block k (lt_of_block K2.out) (by intro e; have := Option.some.inj e; have := R2.out.lt; omega)).trans K2.out
  have R3 := hide h3
  clear h3 hg3 hk2 hf2
  have hk3 := cell_of_row w3 k 2 _ _ _ K3.out
  have hf3 := frozen_of_row w3 k 2 _ _ K3.out
  simp only [List.getElem?_toArray, List.getElem?_cons_zero, List.getElem?_cons_succ] at hk3
  have hmc : m ≤ c := by omega
  by_cases him : i < m
  · have himi : (i : Int) < (m : Int) := by omega
    go_wp2_with (fail)
    obtain ⟨w4, hw4⟩ : ∃ w4, w4 = w3.setCell ⟨k, 2, none⟩ (.slice (some ⟨g, 0, none⟩) m c) := ⟨_, rfl⟩
    have T4 : Hid (Turned (Foot k (.slice (some ⟨g, 0, none⟩) n c)) w w4) := by
      rw [hw4]
      exact T3.out.trans (Turned.of_grown (grown_set w3 k 2 _) fun q e => .inl (Option.some.inj e).symm)
    have K4 : Hid (w4.heap[k]? = some (.cells #[now, mp, .slice (some ⟨g, 0, none⟩) m c] 154 (0, 0))) := by
      rw [hw4]
      exact heap_setCell_same w3 k 2 _ _ _ K3.out
    have R4 : Hid (TRow w4 base g m c (lcut hs i)) := by
      have h1 : TRow w4 base g n c (hs.set i (hs.getD m (0, 0))) := by
        rw [hw4]
        exact R3.out.kept (heap_setCell_other _ _ _ _ (by show g ≠ k; have := R3.out.lt; omega))
      have h2 := h1.cut (k := m) (by omega)
      unfold lcut
      rw [← HN.out, ← HMN.out]
      exact h2
    rw [← hw4]
    clear hw4 hk3 hf3
    have hlm : (lcut hs i).length = m := R4.out.len
    have hup : Up (kf (lcut hs i)) m i i := by
      have := Heap.cutAt (l := hs) (i := i) H.out.heap (by have := HN.out; have := HMN.out; omega)
      rw [← HN.out, ← HMN.out] at this
      exact this
    have ht4 : ∀ x ∈ lcut hs i, T64 x := fun x hx => H.out.t64 x ((lcut_perm (l := hs) (i := i) (by have := HN.out; omega)).mem_iff.1 (List.mem_cons_of_mem _ hx))
    have HT4 := hide ht4
    refine (rise_any base g m c i (lcut hs i) w4 R4.out him (by omega) ht4 hup).mono ?_
    clear ht4 hup
    rintro e w5 ⟨rfl, l5, h5, hd5⟩
    have K5 : Hid (w5.heap[k]? = some (.cells #[now, mp, .slice (some ⟨g, 0, none⟩) m c] 154 (0, 0))) := (h5.grown.block k (lt_of_block K4.out) (by intro e; have := Option.some.inj e; have := R4.out.lt; omega)).trans K4.out
    have H5 := hide h5
    have HD5 := hide hd5
    clear h5 hd5
    have hk5 := cell_of_row w5 k 2 _ _ _ K5.out
    simp only [List.getElem?_toArray, List.getElem?_cons_zero, List.getElem?_cons_succ] at hk5
    go_wp2_with (fail)
    refine (sink_any base g m c i l5 w5 H5.out.row him (by omega) (fun x hx => HT4.out x (H5.out.perm.mem_iff.1 hx)) HD5.out).mono ?_
    rintro e w6 ⟨rfl, l6, h6, hd6⟩
    have K6 : Hid (w6.heap[k]? = some (.cells #[now, mp, .slice (some ⟨g, 0, none⟩) m c] 154 (0, 0))) := (h6.grown.block k (lt_of_block K5.out) (by intro e; have := Option.some.inj e; have := R4.out.lt; omega)).trans K5.out
    have H6 := hide h6
    have HD6 := hide hd6
    clear h6 hd6 hk5
    go_wp2
    go_end0
    have hl6 : l6.length = m := H6.out.row.len
    have hp6 : l6.Perm (lcut hs i) := H6.out.perm.trans H5.out.perm
    have hgk : ∀ q, some g = some q → Foot k (.slice (some ⟨g, 0, none⟩) n c) q := fun q e => .inr e
    refine ⟨rfl, .slice (some ⟨g, 0, none⟩) m c, l6, ⟨K6.out, hkb, ?_, ?_, ?_, fun x hx => HT4.out x (hp6.mem_iff.1 hx), by omega⟩, ?_, ?_, rfl⟩
    · have a1 := T4.out.size
      have a2 := H5.out.grown.size
      have a3 := H6.out.grown.size
      omega
    · rw [hl6]
      exact H6.out.row
    · rw [hl6]
      exact HD6.out
    · have h1 := lcut_perm (l := hs) (i := i) (by have := HN.out; omega)
      rw [HIT.out] at h1
      exact (List.Perm.cons _ hp6).trans h1
    · exact (T4.out.trans (Turned.of_grown H5.out.grown hgk)).trans (Turned.of_grown H6.out.grown hgk)
  · have himi : (m : Int) ≤ (i : Int) := by omega
    have hie : i = m := by omega
    have HIE := hide hie
    clear hie
    go_wp2_with (fail)
    obtain ⟨w4, hw4⟩ : ∃ w4, w4 = w3.setCell ⟨k, 2, none⟩ (.slice (some ⟨g, 0, none⟩) m c) := ⟨_, rfl⟩
    have T4 : Hid (Turned (Foot k (.slice (some ⟨g, 0, none⟩) n c)) w w4) := by
      rw [hw4]
      exact T3.out.trans (Turned.of_grown (grown_set w3 k 2 _) fun q e => .inl (Option.some.inj e).symm)
    have K4 : Hid (w4.heap[k]? = some (.cells #[now, mp, .slice (some ⟨g, 0, none⟩) m c] 154 (0, 0))) := by
      rw [hw4]
      exact heap_setCell_same w3 k 2 _ _ _ K3.out
    have R4 : Hid (TRow w4 base g m c (lcut hs i)) := by
      have h1 : TRow w4 base g n c (hs.set i (hs.getD m (0, 0))) := by
        rw [hw4]
        exact R3.out.kept (heap_setCell_other _ _ _ _ (by show g ≠ k; have := R3.out.lt; omega))
      have h2 := h1.cut (k := m) (by omega)
      unfold lcut
      rw [← HN.out, ← HMN.out]
      exact h2
    rw [← hw4]
    clear hw4 hk3 hf3
    go_end0
    have hlm : (lcut hs i).length = m := R4.out.len
    refine ⟨rfl, .slice (some ⟨g, 0, none⟩) m c, lcut hs i, ⟨K4.out, hkb, by have := T4.out.size; omega, ?_, ?_, fun x hx => ?_, by omega⟩, ?_, T4.out, rfl⟩
    · rw [hlm]
      exact R4.out
    · have := Heap.cutLast (l := hs) (i := i) H.out.heap (by have := HN.out; have := HMN.out; have := HIE.out; omega) (by have := HN.out; omega)
      rw [hlm]
      rw [← HN.out, ← HMN.out] at this
      exact this
    · exact H.out.t64 x ((lcut_perm (l := hs) (i := i) (by have := HN.out; omega)).mem_iff.1 (List.mem_cons_of_mem _ hx))
    · have h1 := lcut_perm (l := hs) (i := i) (by have := HN.out; omega)
      rw [HIT.out] at h1
      exact h1
end Go.Proofs.YtaiegmhlgjogmaaGreat.Ck
