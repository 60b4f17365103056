/- Texts merged: Math, Mem, Bits, Put, Cut, Get, NtRec, NtReadMath, NtLight, NtFirst, NtPlain, NtRead, NtGood, NtRecord, NtZig, Text, Flat, Msgs, NtNoteMath, NtNoteRead, Order, NtApartKit, Grown, Turned, Box, NtParts, Chain, ImA, ImD, ImE, CutRow. -/
import Derived.WalkKit
import Derived.WalkSpells
import Derived.Deep.AppendLies
import Derived.Maps.AppendAt
import Derived.Deep.Draws
import Derived.Laws.BitsAllLaws
import Derived.Laws.BitsLemmas
import Derived.Test.YtdkiopajilakcaaGreatDoorProg
import Derived.WalkLawsBesides
import Derived.Lib.SliceRun
import Derived.Handy
import Derived.Laws.BytesArg
import Derived.Lib.SlBytesConst
import Derived.Deep.MidRow
import Derived.OrdersHeld
import Derived.Deep.RegionHeld3
import Derived.OneCell
import Derived.Shelf.Abstract
import Derived.Laws.Slices
/- Plain facts on numbers in groups of seven bits, on lists of naturals alone: the bytes of a number, and the number that bytes begin with. -/
namespace Go.Proofs.YtdkiopajilakcaaGreatDoor
theorem sA_ {α : Type} {l : List α} {i : Nat} {a : α} : l.toArray.setIfInBounds i a = (l.set i a).toArray := by simp
theorem sZ_ {α : Type} {x a : α} {l : List α} : (x :: l).set 0 a = a :: l := rfl
theorem sS_ {α : Type} {x a : α} {l : List α} {i : Nat} : (x :: l).set (i + 1) a = x :: l.set i a := rfl

def encF : Nat → Nat → List Nat
  | 0, v => [v % 128]
  | f + 1, v => if v / 128 = 0 then [v % 128] else (v % 128 + 128) :: encF f (v / 128)

def enc (v : Nat) : List Nat := encF 9 v

def num : List Nat → Nat → Nat → Nat × Nat × Nat
  | [], _, _ => (0, 0, 3)
  | c :: r, i, a =>
    if (i = 9 ∧ 1 < c) ∨ (0 < i ∧ c = 0) then (0, 0, 4)
    else if c < 128 then (a + c % 128 * 2 ^ (7 * i), i + 1, 0)
    else num r (i + 1) (a + c % 128 * 2 ^ (7 * i))

theorem encF_len : ∀ f v, 1 ≤ (encF f v).length ∧ (encF f v).length ≤ f + 1
  | 0, v => by simp [encF]
  | f + 1, v => by
    have := encF_len f (v / 128)
    unfold encF
    split <;> simp <;> omega

theorem enc_len (v : Nat) : 1 ≤ (enc v).length ∧ (enc v).length ≤ 10 := encF_len 9 v

theorem encF_small : ∀ f v, ∀ x ∈ encF f v, x < 256
  | 0, v => by simp [encF]; omega
  | f + 1, v => by
    have := encF_small f (v / 128)
    unfold encF
    split
    · simp; omega
    · intro x hx
      rcases List.mem_cons.1 hx with rfl | h
      · omega
      · exact this x h

theorem enc_small (v : Nat) : ∀ x ∈ enc v, x < 256 := encF_small 9 v

theorem pow_step (i : Nat) : 2 ^ (7 * (i + 1)) = 128 * 2 ^ (7 * i) := by
  rw [show 7 * (i + 1) = 7 + 7 * i from by omega, Nat.pow_add]

theorem acc_step (v a p : Nat) : a + (v % 128) * p + (v / 128) * (128 * p) = a + v * p := by
  have h : v = v % 128 + 128 * (v / 128) := by omega
  have h2 : v * p = (v % 128) * p + (v / 128) * (128 * p) := by
    conv => lhs; rw [h]
    rw [Nat.add_mul, Nat.mul_comm 128 (v / 128), Nat.mul_assoc]
  omega

theorem num_encF (rest : List Nat) : ∀ f v i a, i + f = 9 → v < 2 * 128 ^ f → (0 < i → 0 < v) →
    num (encF f v ++ rest) i a = (a + v * 2 ^ (7 * i), i + (encF f v).length, 0)
  | 0, v, i, a, hi, hv, hp => by
    have hv2 : v < 2 := by simpa using hv
    have h1 : v % 128 = v := by omega
    unfold encF
    simp only [List.cons_append, List.nil_append, num, h1]
    rw [if_neg (by omega), if_pos (by omega)]
    simp
  | f + 1, v, i, a, hi, hv, hp => by
    unfold encF
    by_cases h : v / 128 = 0
    · have h1 : v % 128 = v := by omega
      simp only [h, if_true, List.cons_append, List.nil_append, num, h1]
      rw [if_neg (by omega), if_pos (by omega)]
      simp
    · have ih := num_encF rest f (v / 128) (i + 1) (a + v % 128 * 2 ^ (7 * i)) (by omega) (by rw [Nat.pow_succ] at hv; omega) (by omega)
      have h1 : (v % 128 + 128) % 128 = v % 128 := by omega
      rw [if_neg h]
      simp only [List.cons_append, num, h1]
      rw [if_neg (by omega), if_neg (by omega), ih, pow_step, acc_step]
      simp
      omega

theorem u64_groups {v : Nat} (h : v < 18446744073709551616) : v < 2 * 128 ^ 9 := by
  have : (2 * 128 ^ 9 : Nat) = 18446744073709551616 := by decide
  omega

theorem num_enc (rest : List Nat) (v : Nat) (h : v < 18446744073709551616) : num (enc v ++ rest) 0 0 = (v, (enc v).length, 0) := by
  have := num_encF rest 9 v 0 0 rfl (u64_groups h) (by omega)
  simpa [enc] using this

theorem num_bound : ∀ (l : List Nat) (i a : Nat), (num l i a).2.1 ≤ i + l.length ∧ ((num l i a).2.2 ≠ 0 → (num l i a).1 = 0 ∧ (num l i a).2.1 = 0)
  | [], i, a => by simp [num]
  | c :: r, i, a => by
    have := num_bound r (i + 1) (a + c % 128 * 2 ^ (7 * i))
    unfold num
    split
    · simp
    · split
      · simp
      · simp only [List.length_cons]
        omega

end Go.Proofs.YtdkiopajilakcaaGreatDoor
/- What is said of memory: a slice of bytes that holds a list of naturals, nil and empty ones among them; a row of bytes that the call itself made. -/
namespace Go.Proofs.YtdkiopajilakcaaGreatDoor
open Go.RowKit

theorem hide {p : Prop} (h : p) : Hid p := h

theorem ret_int {k : IntKind} {a b : Int} (h : a = b) : Ending.returned (.int k a) = .returned (.int k b) := by rw [h]

theorem ret_bool {a b : Bool} (h : a = b) : Ending.returned (.bool a) = .returned (.bool b) := by rw [h]

def bv (x : Nat) : Value := .int .u8 (x : Int)
def bvs (l : List Nat) : List Value := l.map bv

theorem bvs_len (l : List Nat) : (bvs l).length = l.length := by simp [bvs]
theorem bvs_append (a b : List Nat) : bvs (a ++ b) = bvs a ++ bvs b := by simp [bvs]
theorem bvs_cell (l : List Nat) : ∀ u ∈ bvs l, u.oneCell' = true := by
  intro u hu
  obtain ⟨_, _, rfl⟩ := List.mem_map.1 hu
  rfl
theorem bvs_get {l : List Nat} {i : Nat} (h : i < l.length) : (bvs l)[i]? = some (.int .u8 (l.getD i 0 : Nat)) := by
  simp [bvs, bv, h]

def Holds (w : World) (B : Nat) (A : Option Addr) (n : Nat) (l : List Nat) : Prop :=
  l.length = n ∧ (∀ x ∈ l, x < 256) ∧ (0 < n → ∃ b off, A = some ⟨b, off, none⟩ ∧ b < B ∧ ∀ i, i < n → w.cell? ⟨b, off + i, none⟩ = some (.int .u8 ((l.getD i 0 : Nat) : Int)))

section
variable {w w' : World} {B B' : Nat} {A : Option Addr} {n : Nat} {l : List Nat}

theorem Holds.nil_ (w : World) (B : Nat) : Holds w B none 0 [] := ⟨rfl, by simp, fun h => by omega⟩

theorem Holds.byte (h : Holds w B A n l) {i : Nat} (hi : i < n) : l.getD i 0 < 256 := by
  have hl : i < l.length := by have := h.1; omega
  rw [List.getD_eq_getElem?_getD, List.getElem?_eq_getElem hl]
  exact h.2.1 _ (List.getElem_mem hl)

theorem Holds.keep (h : Holds w B A n l) (hk : ∀ p : Addr, p.block < B → w'.cell? p = w.cell? p) : Holds w' B A n l :=
  ⟨h.1, h.2.1, fun hn => by
    obtain ⟨b, off, e, hb, hc⟩ := h.2.2 hn
    exact ⟨b, off, e, hb, fun i hi => (hk ⟨b, off + i, none⟩ hb).trans (hc i hi)⟩⟩
theorem Holds.below (h : Holds w B A n l) (hb : Below B w w') : Holds w' B A n l := h.keep fun _ hp => hb.cell hp
theorem Holds.more (h : Holds w B A n l) (hB : B ≤ B') : Holds w B' A n l :=
  ⟨h.1, h.2.1, fun hn => by
    obtain ⟨b, off, e, hb, hc⟩ := h.2.2 hn
    exact ⟨b, off, e, by omega, hc⟩⟩
theorem Holds.drew (h : Holds w B A n l) : Holds w.drew B A n l := h
theorem Holds.drewN (h : Holds w B A n l) (k : Nat) : Holds (w.drewN k) B A n l := h

theorem Holds.take (h : Holds w B A n l) {k : Nat} (hk : k ≤ n) : Holds w B A k (l.take k) :=
  ⟨by simp [h.1]; omega, fun x hx => h.2.1 x (List.mem_of_mem_take hx), fun hk0 => by
    obtain ⟨b, off, e, hb, hc⟩ := h.2.2 (by omega)
    refine ⟨b, off, e, hb, fun i hi => ?_⟩
    rw [hc i (by omega)]
    simp [hi]⟩

theorem Holds.drop (h : Holds w B A n l) {k cap : Nat} (hk : k ≤ n) (hc : n ≤ cap) (A' : Option Addr) (hA' : ¬ cap = k → A' = A.map (·.add k)) : Holds w B A' (n - k) (l.drop k) :=
  ⟨by simp [h.1], fun x hx => h.2.1 x (List.mem_of_mem_drop hx), fun hk0 => by
    obtain ⟨b, off, rfl, hb, hcell⟩ := h.2.2 (by omega)
    refine ⟨b, off + k, ?_, hb, fun i hi => ?_⟩
    · rw [hA' (by omega)]
      simp [Addr.add]
    · rw [show off + k + i = off + (k + i) from by omega, hcell (k + i) (by omega)]
      simp⟩

theorem Holds.of_own {base e : Nat} {v : Value} (h : w.ownsRow base e 1 v n (bvs l)) (hs : ∀ x ∈ l, x < 256) : ∃ A c, v = .slice A n c ∧ n ≤ c ∧ (A = none → c = 0) ∧ Holds w w.heap.size A n l := by
  have hl : l.length = n := by have := h.1; rw [bvs_len] at this; omega
  rcases h.2 with ⟨rfl, rfl⟩ | ⟨g, cap, cur, rfl, _, hg, hnc, _, _, _⟩
  · exact ⟨none, 0, rfl, Nat.le_refl _, fun _ => rfl, hl, hs, fun h => by omega⟩
  · refine ⟨some ⟨g, 0, none⟩, cap, rfl, hnc, (fun h => by cases h), hl, hs, fun hn => ⟨g, 0, rfl, ?_, fun i hi => ?_⟩⟩
    · exact (Array.getElem?_eq_some_iff.1 hg).1
    · have := h.cellAt i (by omega)
      rw [Nat.zero_add, this, bvs_get (by omega)]

end

theorem below_of_grown {w w' : World} {base e n : Nat} {v : Value} {xs : List Value} (ho : w.ownsRow base e 1 v n xs) (hb : base ≤ w.heap.size) (hg : w.grownBy w' v.ownBlock) : Below base w w' :=
  (Below.refl _ _).grown hg hb fun k hk => (ho.lt k hk).1

def Went (w : World) (r : Option Nat) (w' : World) (r' : Option Nat) : Prop := w.grownBy w' r ∧ (r' = r ∨ ∃ g, r' = some g ∧ w.heap.size ≤ g)

section
variable {w w1 w2 : World} {r r1 r2 : Option Nat}
theorem Went.refl (w : World) (r : Option Nat) : Went w r w r := ⟨World.grownBy.refl w r, .inl rfl⟩
theorem Went.size (h : Went w r w1 r1) : w.heap.size ≤ w1.heap.size := h.1.size
theorem Went.trans (h : Went w r w1 r1) (k : Went w1 r1 w2 r2) : Went w r w2 r2 := by
  refine ⟨⟨k.1.os.trans h.1.os, k.1.tape.trans h.1.tape, k.1.output.trans h.1.output, Nat.le_trans h.1.size k.1.size, fun i hi hne => ?_⟩, ?_⟩
  · refine (k.1.block i (Nat.lt_of_lt_of_le hi h.1.size) ?_).trans (h.1.block i hi hne)
    rcases h.2 with e | ⟨g, e, hg⟩
    · rw [e]; exact hne
    · rw [e]
      intro e2
      have := Option.some.inj e2
      omega
  · rcases k.2 with e | ⟨g, e, hg⟩
    · rw [e]; exact h.2
    · exact .inr ⟨g, e, Nat.le_trans h.1.size hg⟩
theorem Went.alloc (h : Went w r w1 r1) (o : Obj) : Went w r (w1.alloc o) r1 := h.trans ⟨World.grownBy_alloc w1 o r1, .inl rfl⟩
theorem Went.drew (h : Went w r w1 r1) : Went w r w1.drew r1 := h.trans ⟨⟨rfl, rfl, rfl, Nat.le_refl _, fun _ _ _ => rfl⟩, .inl rfl⟩
theorem Went.of_below (h : Below w.heap.size w w1) (r : Option Nat) : Went w r w1 r := ⟨⟨h.os, h.tape, h.output, h.size, fun k hk _ => h.block k hk⟩, .inl rfl⟩
theorem Went.of_at (hg : w.grownBy w1 r) (ha : r1 = r ∨ r1 = some w.heap.size) : Went w r w1 r1 := ⟨hg, ha.imp id fun e => ⟨_, e, Nat.le_refl _⟩⟩
theorem Went.other {base e t n : Nat} {v : Value} {xs : List Value} {cs : Array Value} {g : Nat} (h : Went w v.ownBlock w1 r1) (ho : w.ownsRow base e 1 v n xs) (hb : w.heap[g]? = some (.cells cs t (0, 0))) (hne : e ≠ t) :
    w1.heap[g]? = some (.cells cs t (0, 0)) := by
  rw [h.1.block g (Array.getElem?_eq_some_iff.1 hb).1]
  · exact hb
  · rcases ho.2 with ⟨rfl, _⟩ | ⟨g', cap, cur, rfl, _, hh, _⟩
    · simp [Value.ownBlock]
    · intro e2
      have e3 : g = g' := by simpa [Value.ownBlock] using e2
      rw [← e3, hb] at hh
      injection hh with hh
      injection hh with _ ht
      exact hne ht.symm
theorem Went.below {base e n : Nat} {v : Value} {xs : List Value} (h : Went w v.ownBlock w1 r1) (ho : w.ownsRow base e 1 v n xs) (hb : base ≤ w.heap.size) : Below base w w1 := below_of_grown ho hb h.1
end

theorem own_below {w w1 : World} {base e n : Nat} {v : Value} {xs : List Value} (ho : w.ownsRow base e 1 v n xs) (hb : Below w.heap.size w w1) : w1.ownsRow base e 1 v n xs :=
  ho.kept (Went.of_below hb none).1 (by cases h : v.ownBlock <;> simp)

def NewBytes (w : World) (l : List Nat) (e : Ending) (w' : World) : Prop :=
  ∃ A n c, e = .returned (.slice A n c) ∧ w'.ownsRow w.heap.size 5 1 (.slice A n c) n (bvs l) ∧ Holds w' w'.heap.size A n l ∧ n ≤ c ∧ Below w.heap.size w w'

theorem newBytes_of {w w' : World} {n : Nat} {v : Value} {l : List Nat} (ho : w'.ownsRow w.heap.size 5 1 v n (bvs l)) (hs : ∀ x ∈ l, x < 256) (hb : Below w.heap.size w w') : NewBytes w l (.returned v) w' := by
  obtain ⟨A, c, rfl, h1, _, h2⟩ := Holds.of_own ho hs
  exact ⟨A, n, c, rfl, ho, h2, h1, hb⟩

section
variable {P : Program} (w : World)

theorem run_append_bytes (base : Nat) (t ty e : TypeId) (i : TypeInfo) (z : Value) (ht : P.underlying t = some (.slice e)) (hi : P.info? e = some i) (hz : i.zero = some z)
    (hsize : i.size = 1) (hby : i.bytes = 1) (hzs : z.cells.size = 1)
    (v : Value) (n : Nat) (xs : List Value) (hown : w.ownsRow base e 1 v n xs)
    (B : Nat) (A : Option Addr) (m c : Nat) (l : List Nat) (hl : Holds w B A m l) (hroom : n + m ≤ 70368744177664) (hbase : base ≤ w.heap.size) :
    ∃ v' w', (Builtin.append_ #[t, t] ty #[v, .slice A m c]).run P w = .ok v' w' ∧ w'.ownsRow base e 1 v' (n + m) (xs ++ bvs l) ∧ Went w v.ownBlock w' v'.ownBlock := by
  have hlen := hl.1
  rcases A with _ | ad
  · have hm : m = 0 := by
      rcases Nat.eq_zero_or_pos m with h | h
      · exact h
      · obtain ⟨_, _, h, _⟩ := hl.2.2 h
        cases h
    subst hm
    have : l = [] := List.eq_nil_of_length_eq_zero hlen
    subst this
    refine ⟨v, w, ?_, by simpa [bvs] using hown, Went.refl w _⟩
    rcases hown.2 with ⟨rfl, rfl⟩ | ⟨g, cap, cur, rfl, _, _, hnc, _⟩
    · simp [Builtin.append_, run_underlying ht, sizeOf, typeInfo, hi, Builtin.lenOf, Builtin.firstCells]
    · simp [Builtin.append_, run_underlying ht, sizeOf, typeInfo, hi, Builtin.lenOf, Builtin.firstCells, hnc, storeCells]
  · obtain ⟨v', w', h1, h2, h3, _, h5⟩ := run_append_own_at (P := P) w base t ty e i z 1 1 ht hi hz hsize hby hzs (by omega) v n xs hown ad m c (bvs l) (by rw [bvs_len, hlen, Nat.mul_one])
      (fun j u hu => by
        have hj : j < l.length := by
          have := (List.getElem?_eq_some_iff.1 hu).1
          rwa [bvs_len] at this
        obtain ⟨b, off, h, _, hc⟩ := hl.2.2 (by omega)
        obtain rfl := Option.some.inj h
        rw [bvs_get hj] at hu
        rw [Addr.add_lit, hc j (by omega)]
        exact hu) (bvs_cell _) (by simp only [maxLen]; omega) (by omega) hbase
    exact ⟨v', w', h1, h2, .of_at h3 h5⟩

theorem wpList_append_bytes {ops : Array Oper} {rest : List Oper} {o : Oper} {a : Act} {Q : Exit → Act → World → Prop} (hgd : o.guard = none) (s x : Operand) (t : TypeId)
    (ho : o.op = .call { callee := .builtin .append, args := #[s, x], argTypes := #[t, t] })
    (base : Nat) (e : TypeId) (i : TypeInfo) (z : Value) (ht : P.underlying t = some (.slice e)) (hi : P.info? e = some i) (hz : i.zero = some z)
    (hsize : i.size = 1) (hby : i.bytes = 1) (hzs : z.cells.size = 1)
    (v : Value) (n : Nat) (xs : List Value) (hs : a.eval s = v) (hown : w.ownsRow base e 1 v n xs)
    (B : Nat) (A : Option Addr) (m c : Nat) (l : List Nat) (hx : a.eval x = .slice A m c) (hl : Holds w B A m l) (hroom : n + m ≤ 70368744177664) (hbase : base ≤ w.heap.size)
    (h : ∀ v' w', w'.ownsRow base e 1 v' (n + m) (xs ++ bvs l) → Went w v.ownBlock w' v'.ownBlock → wpList P ops Q rest (a.put o.dst v') w') : wpList P ops Q (o :: rest) a w := by
  refine wpList_plain hgd fun K hK => ?_
  obtain ⟨v', w', hr, h2, h3⟩ := run_append_bytes (P := P) w base t o.type e i z ht hi hz hsize hby hzs v n xs hown B A m c l hl hroom hbase
  unfold Oper.wp execOp
  simp only [ho, resolve, invoke, builtin, Sem.run_bind, Sem.run_pure, Result.andThen_ok, List.map_toArray, List.map_cons, List.map_nil, hs, hx, hr]
  exact hK _ _ (h v' w' h2 h3)
end

end Go.Proofs.YtdkiopajilakcaaGreatDoor
/- The bits' operations that the code takes, as sums and remainders. -/
namespace Go.Proofs.YtdkiopajilakcaaGreatDoor

theorem u64_low7 (v : Nat) (h : v < 18446744073709551616) : bits .and .u64 (v : Int) 127 = ((v % 128 : Nat) : Int) := by
  have := u64_and_nat v 127 h (by omega)
  rw [nat_mask7] at this
  exact this
theorem u8_low7 (c : Nat) (h : c < 256) : bits .and .u8 (c : Int) 127 = ((c % 128 : Nat) : Int) := by
  have := u8_and_nat c 127 h (by omega)
  rw [nat_mask7] at this
  exact this
theorem u8_more (c : Nat) (h : c < 128) : bits .or .u8 (c : Int) 128 = ((c + 128 : Nat) : Int) := by
  have h1 := u8_or_nat c 128 (by omega) (by omega)
  have h2 := nat_join 7 128 c (by decide) (by simpa using h)
  rw [Nat.or_comm, h2] at h1
  rw [show c + 128 = 128 + c from by omega]
  exact h1
theorem u64_low1 (v : Nat) (h : v < 18446744073709551616) : bits .and .u64 (v : Int) 1 = ((v % 2 : Nat) : Int) := by
  have := u64_and_nat v 1 h (by omega)
  rw [nat_mask1] at this
  exact this
theorem u64_odd (v : Nat) (h : v < 9223372036854775808) : bits .or .u64 ((2 * v : Nat) : Int) 1 = ((2 * v + 1 : Nat) : Int) := by
  have h1 := u64_or_nat (2 * v) 1 (by omega) (by omega)
  rw [nat_join 1 (2 * v) 1 (by omega) (by omega)] at h1
  exact h1

theorem u64_lay (a c i : Nat) (ha : a < 2 ^ (7 * i)) (hb : c * 2 ^ (7 * i) < 18446744073709551616) (ha2 : a < 18446744073709551616) :
    bits .or .u64 (a : Int) ((c * 2 ^ (7 * i) : Nat) : Int) = ((a + c * 2 ^ (7 * i) : Nat) : Int) := by
  have h1 := u64_or_nat a (c * 2 ^ (7 * i)) ha2 hb
  rw [Nat.or_comm, nat_join (7 * i) (c * 2 ^ (7 * i)) a (by simp) ha, Nat.add_comm] at h1
  exact h1

theorem i64_turned (n : Int) (h1 : -9223372036854775808 ≤ n) (h2 : n < 9223372036854775808) : bits .xor .i64 (-1) n = -n - 1 := by
  show IntKind.i64.wrap ((BitVec.ofInt 64 (-1) ^^^ BitVec.ofInt 64 n).toNat : Int) = _
  have e1 : BitVec.ofInt 64 (-1) = BitVec.allOnes 64 := by decide
  rw [e1, BitVec.allOnes_xor, BitVec.toNat_not, BitVec.toNat_ofInt, IntKind.wrap_i64]
  omega

theorem zig_low (n : Int) (h1 : -9223372036854775808 ≤ n) (h2 : n < 0) :
    bits .or .u64 (IntKind.u64.wrap (IntKind.u64.wrap (bits .xor .i64 (-1) n) * 2)) 1 = ((2 * (-n - 1).toNat + 1 : Nat) : Int) := by
  rw [i64_turned n h1 (by omega)]
  have e : IntKind.u64.wrap (IntKind.u64.wrap (-n - 1) * 2) = ((2 * (-n - 1).toNat : Nat) : Int) := by
    rw [IntKind.wrap_u64, IntKind.wrap_u64]
    omega
  rw [e, u64_odd _ (by omega)]
theorem zig_high (n : Int) (h1 : 0 ≤ n) (h2 : n < 9223372036854775808) : IntKind.u64.wrap (IntKind.u64.wrap n * 2) = ((2 * n.toNat : Nat) : Int) := by
  rw [IntKind.wrap_u64, IntKind.wrap_u64]
  omega
theorem half (v : Nat) (h : v < 18446744073709551616) : RowKit.wrap64 ((v : Int) / 2) = ((v / 2 : Nat) : Int) := by
  unfold RowKit.wrap64
  omega

theorem u64_odd_int (n : Int) (h0 : 0 ≤ n) (h : n < 9223372036854775808) : bits .or .u64 (n * 2) 1 = n * 2 + 1 := by
  have e := u64_odd n.toNat (by omega)
  rw [show ((2 * n.toNat : Nat) : Int) = n * 2 from by omega, show ((2 * n.toNat + 1 : Nat) : Int) = n * 2 + 1 from by omega] at e
  exact e

end Go.Proofs.YtdkiopajilakcaaGreatDoor
/- The walk over field.put: behind a row of the call's own stand the groups of the number. -/
namespace Go.Proofs.YtdkiopajilakcaaGreatDoor
open Go.RowKit

theorem Tryz.infoU8 : (Tryz.prog.info? 5).map (fun i => (i.zero, i.size, i.bytes)) = some (some (.int .u8 0), 1, 1) := by kernel_rfl

def PutAt (V f v m n : Nat) (k : List Nat) : Prop := v < 18446744073709551616 ∧ v < 2 * 128 ^ f ∧ enc V = k ++ encF f v ∧ f ≤ 9 ∧ m = n + k.length

theorem putAt_start {V : Nat} (h : V < 18446744073709551616) (n : Nat) : PutAt V 9 V n n [] := ⟨h, u64_groups h, rfl, Nat.le_refl _, rfl⟩
section
variable {V f v m n : Nat} {k : List Nat}
theorem PutAt.room (h : PutAt V f v m n k) (hn : n ≤ 1099511627776) : m ≤ 1099511627787 := by
  have h1 := enc_len V
  rw [h.2.2.1, List.length_append] at h1
  have := h.2.2.2.2
  omega
theorem PutAt.mask (h : PutAt V f v m n k) : bits .and .u64 (v : Int) 127 = ((v % 128 : Nat) : Int) := u64_low7 v h.1
theorem PutAt.last (h : PutAt V f v m n k) (hz : v / 128 = 0) : enc V = k ++ [v % 128] := by
  rw [h.2.2.1]
  cases f with
  | zero => simp [encF]
  | succ f => simp [encF, hz]
theorem PutAt.next (h : PutAt V f v m n k) (hz : ¬ v / 128 = 0) : ∃ f', PutAt V f' (v / 128) (m + 1) n (k ++ [v % 128 + 128]) := by
  obtain ⟨h1, h2, h3, h4, h5⟩ := h
  cases f with
  | zero => simp at h2; omega
  | succ f =>
    refine ⟨f, by omega, by rw [Nat.pow_succ] at h2; omega, ?_, by omega, by simp; omega⟩
    rw [h3]
    simp [encF, hz]
end

set_option maxHeartbeats 400000 in
theorem put_any (base n V : Nat) (bv0 : Value) (l : List Nat) (w : World) (hV0 : V < 18446744073709551616) (hn : n ≤ 1099511627776) (hbase : base ≤ w.heap.size)
    (ho : w.ownsRow base 5 1 bv0 n (bvs l)) :
    Calls Tryz.prog 105 #[bv0, .int .u64 V] w fun e w' => ∃ v', e = .returned v' ∧ w'.ownsRow base 5 1 v' (n + (enc V).length) (bvs (l ++ enc V)) ∧ Went w bv0.ownBlock w' v'.ownBlock := by
  have HV := hide hV0
  clear hV0
  obtain ⟨i0, hi, hz0, hz1, hz2⟩ := info_parts Tryz.infoU8
  go_enter Tryz.func105, Tryz.ntmps105
  go_wp2
  go_step3
  go_wp2
  go_step3
  go_wp2
  go_loopw [0, 1] (fun b vv wr => ∃ (f v m : Nat) (k : List Nat), PutAt V f v m n k ∧ vv = .int .u64 v ∧ wr.ownsRow base 5 1 b m (bvs (l ++ k)) ∧ Went w bv0.ownBlock wr b.ownBlock) (fun _ vv _ => (Go.RowKit.intOf vv).toNat)
  case atStart => exact ⟨9, V, n, [], putAt_start HV.out n, rfl, by simpa using ho, Went.refl _ _⟩
  case round =>
    obtain ⟨f, v, m, k, hput, rfl, hown, hbel⟩ := hrel
    have hmm := hput.room hn
    obtain ⟨g, hg⟩ : ∃ g, g = v % 128 := ⟨_, rfl⟩
    obtain ⟨c, hc⟩ : ∃ c, c = g + 128 := ⟨_, rfl⟩
    have hand : bits .and .u64 (v : Int) 127 = (g : Int) := by rw [hg]; exact hput.mask
    have hor : bits .or .u8 (g : Int) 128 = (c : Int) := by rw [hc]; exact u8_more g (by omega)
    have hgs : g < 128 := by omega
    have hcs : c < 256 := by omega
    have hsz := hbel.size
    have Hg := hide hg
    have Hc := hide hc
    clear hg hc
    by_cases h : v / 128 = 0
    · have ht : ((v : Int) / 128 == 0) = true := by simp; omega
      have Hz := hide h
      clear h
      go_wp2_with (at_builtin; refine wpList_append_own_at _ rfl (.tmp 19) (.tmp 21) 28 rfl base 5 i0 _ 1 1 Tryz.underlying28 hi hz0 hz1 hz2 rfl (by omega) _ m (bvs (l ++ k)) rfl (hown.alloc _) ⟨wr.heap.size, 0, none⟩ 1 1 (bvs [g]) rfl rfl (cell_one_new _ _ _) (bvs_cell _) (by simp only [maxLen]; omega) (by omega) (by simp; omega) ?_; intro v1 w1 hown1 hg1 _ hat1)
      rw [Exit.noGoto_ret]
      go_ret
      refine ⟨v1, rfl, ?_, (hbel.alloc _).trans (.of_at hg1 hat1)⟩
      rw [hput.last Hz.out, ← Hg.out, ← List.append_assoc, bvs_append, List.length_append, ← Nat.add_assoc, ← hput.2.2.2.2]
      exact hown1
    · have ht : ((v : Int) / 128 == 0) = false := by simp; omega
      have Hz := hide h
      clear h
      go_wp2_with (at_builtin; refine wpList_append_own_at _ rfl (.tmp 12) (.tmp 15) 28 rfl base 5 i0 _ 1 1 Tryz.underlying28 hi hz0 hz1 hz2 rfl (by omega) _ m (bvs (l ++ k)) rfl (hown.alloc _) ⟨wr.heap.size, 0, none⟩ 1 1 (bvs [c]) rfl rfl (cell_one_new _ _ _) (bvs_cell _) (by simp only [maxLen]; omega) (by omega) (by simp; omega) ?_; intro v1 w1 hown1 hg1 _ hat1)
      obtain ⟨f', hnext⟩ := hput.next Hz.out
      rw [← Hg.out, ← Hc.out] at hnext
      go_roundw
      case rel =>
        refine ⟨f', v / 128, m + 1, k ++ [c], hnext, by go_num, ?_, (hbel.alloc _).trans (.of_at hg1 hat1)⟩
        rw [← List.append_assoc, bvs_append]
        exact hown1
      case measure =>
        have := Hz.out
        simp [Go.RowKit.intOf]
        omega
theorem put_int (base n : Nat) (V : Int) (bv0 : Value) (l : List Nat) (w : World) (h0 : 0 ≤ V) (hV : V < 18446744073709551616) (hn : n ≤ 1099511627776) (hbase : base ≤ w.heap.size)
    (ho : w.ownsRow base 5 1 bv0 n (bvs l)) :
    Calls Tryz.prog 105 #[bv0, .int .u64 V] w fun e w' => ∃ v', e = .returned v' ∧ w'.ownsRow base 5 1 v' (n + (enc V.toNat).length) (bvs (l ++ enc V.toNat)) ∧ Went w bv0.ownBlock w' v'.ownBlock := by
  obtain ⟨k, rfl⟩ := Int.eq_ofNat_of_zero_le h0
  exact put_any base n k bv0 l w (by omega) hn hbase ho
end Go.Proofs.YtdkiopajilakcaaGreatDoor
/- Slices of slices of bytes; the walk over bytes.Clone. -/
namespace Go.Proofs.YtdkiopajilakcaaGreatDoor
open Go.RowKit

theorem sizeU8 (w : World) : (sizeOf 5).run Tryz.prog w = .ok 1 w := by kernel_rfl
theorem elemU8 : Tryz.prog.elem 28 = 5 := by kernel_rfl
theorem sliceU8 : Tryz.prog.underlying 28 = some (.slice (Tryz.prog.elem 28)) := by kernel_rfl

theorem cut_from (A : Option Addr) (n c k : Nat) (hk : k ≤ n) : ∃ A' : Option Addr, (¬ c = k → A' = A.map (·.add k)) ∧
    ∀ w, (Instr.slice 28 (.slice A n c) (some (.int .i64 (k : Int))) none none).run Tryz.prog w = .ok (.slice A' (n - k) (c - k)) w := by
  refine ⟨if c = k then A else A.map (·.add k), fun h => by rw [if_neg h], fun w => ?_⟩
  rw [run_slice_l w _ _ _ _ sliceU8 .i64 _ (by omega) (by omega), elemU8, sizeU8]
  cases A with
  | none => simp [Result.andThen, sliced]
  | some a =>
    by_cases h : c = k
    · subst h
      simp [Result.andThen, sliced]
    · simp [Result.andThen, sliced, h]
theorem cut_mid (A : Option Addr) (n c k h : Nat) (hk : k ≤ h) (hc : h ≤ c) : ∃ A' : Option Addr, (¬ c = k → A' = A.map (·.add k)) ∧
    ∀ w, (Instr.slice 28 (.slice A n c) (some (.int .i64 (k : Int))) (some (.int .i64 (h : Int))) none).run Tryz.prog w = .ok (.slice A' (h - k) (c - k)) w := by
  refine ⟨if c = k then A else A.map (·.add k), fun h => by rw [if_neg h], fun w => ?_⟩
  rw [run_slice_lh w _ _ _ _ sliceU8 .i64 .i64 _ _ (by omega) (by omega) (by omega), elemU8, sizeU8]
  cases A with
  | none => simp [Result.andThen, sliced]
  | some a =>
    by_cases h : c = k
    · subst h
      simp [Result.andThen, sliced]
    · simp [Result.andThen, sliced, h]

theorem Holds.mid {w : World} {B n cap k h : Nat} {A A' : Option Addr} {l : List Nat} (H : Holds w B A n l) (hk : k ≤ h) (hh : h ≤ n) (hc : n ≤ cap) (hA' : ¬ cap = k → A' = A.map (·.add k)) :
    Holds w B A' (h - k) ((l.drop k).take (h - k)) :=
  ((H.drop (by omega) hc A' hA').take (by omega))

set_option maxHeartbeats 400000 in
theorem clone_any (A : Option Addr) (n c B : Nat) (l : List Nat) (w : World) (hl : Holds w B A n l) (hB : B ≤ w.heap.size) (hn : n ≤ 1099511627000) :
    Calls Tryz.prog 78 #[.slice A n c] w (NewBytes w l) := by
  obtain ⟨i0, hi, hz0, hz1, hz2⟩ := info_parts Tryz.infoU8
  have Hl := hide hl
  clear hl
  have hnil := fun (w : World) (a : Option Addr) (n c n' c' : Nat) => Lib.run_eql_slice_nil (P := Tryz.prog) w 28 5 a n c n' c' Tryz.underlying28
  cases A with
  | none =>
    have H0 : Hid (n = 0 ∧ l = []) := by
      have h0 : n = 0 := by
        rcases Nat.eq_zero_or_pos n with h | h
        · exact h
        · obtain ⟨_, _, h, _⟩ := Hl.out.2.2 h
          cases h
      exact ⟨h0, List.eq_nil_of_length_eq_zero (by rw [Hl.out.1, h0])⟩
    go_enter Tryz.func78, Tryz.ntmps78
    go_wp2
    go_ret
    rw [H0.out.2]
    exact newBytes_of (n := 0) (World.ownsRow_nil _ _ _ _) (by simp) (Below.refl _ _)
  | some a =>
    go_enter Tryz.func78, Tryz.ntmps78
    go_wp2_with (at_builtin; refine wpList_append_bytes _ rfl (.tmp 5) (.tmp 6) 28 rfl w.heap.size 5 i0 (.int .u8 0) Tryz.underlying28 hi hz0 hz1 hz2 rfl _ 0 [] rfl (World.ownsRow_lit w #[] 0 (Nat.le_refl _) (by simp [maxLen]) rfl) B (some a) n c l rfl (Hl.out.below ((Below.refl _ _).alloc hB _)) (by omega) (by simp) ?_; intro v2 w2 o2 g2)
    have l2 : Hid (Below w.heap.size w w2) := ((Below.refl _ _).alloc (Nat.le_refl _) _).trans (g2.below (World.ownsRow_lit w #[] 0 (Nat.le_refl _) (by simp [maxLen]) rfl) (by simp))
    have o2' := hide o2
    clear o2 g2
    go_ret
    exact newBytes_of (n := 0 + n) (by simpa using o2'.out) Hl.out.2.1 l2.out
end Go.Proofs.YtdkiopajilakcaaGreatDoor
/- The walks over field.get and field.GetUint: the number that bytes begin with. -/
namespace Go.Proofs.YtdkiopajilakcaaGreatDoor
open Go.RowKit

def GetAt (l : List Nat) (n k a : Nat) : Prop := k ≤ n ∧ k ≤ 9 ∧ a < 2 ^ (7 * k) ∧ l.length = n ∧ num l 0 0 = num (l.drop k) k a ∧ (∀ x ∈ l, x < 256)

section
variable {l : List Nat} {n k a : Nat}
theorem getAt_start (h : l.length = n) (hs : ∀ x ∈ l, x < 256) : GetAt l n 0 0 := ⟨by omega, by omega, by simp, h, by simp, hs⟩
theorem GetAt.le (h : GetAt l n k a) : k ≤ n ∧ k ≤ 9 := ⟨h.1, h.2.1⟩
theorem GetAt.cons (h : GetAt l n k a) (hk : k < n) : l.drop k = l.getD k 0 :: l.drop (k + 1) := by
  have hl : k < l.length := by rw [h.2.2.2.1]; exact hk
  rw [List.drop_eq_getElem_cons hl]
  simp [hl]
theorem GetAt.byte (h : GetAt l n k a) (hk : k < n) : l.getD k 0 < 256 := by
  have hl : k < l.length := by rw [h.2.2.2.1]; exact hk
  rw [List.getD_eq_getElem?_getD, List.getElem?_eq_getElem hl]
  exact h.2.2.2.2.2 _ (List.getElem_mem hl)
theorem GetAt.short (h : GetAt l n k a) (hk : ¬ k < n) : num l 0 0 = (0, 0, 3) := by
  have : l.drop k = [] := List.drop_eq_nil_of_le (by rw [h.2.2.2.1]; omega)
  rw [h.2.2.2.2.1, this]
  rfl
theorem GetAt.bad (h : GetAt l n k a) (hk : k < n) (hb : (k = 9 ∧ 1 < l.getD k 0) ∨ (0 < k ∧ l.getD k 0 = 0)) : num l 0 0 = (0, 0, 4) := by
  rw [h.2.2.2.2.1, h.cons hk, num, if_pos hb]
theorem GetAt.last (h : GetAt l n k a) (hk : k < n) (hb : ¬ ((k = 9 ∧ 1 < l.getD k 0) ∨ (0 < k ∧ l.getD k 0 = 0))) (hc : l.getD k 0 < 128) :
    num l 0 0 = (a + l.getD k 0 % 128 * 2 ^ (7 * k), k + 1, 0) := by
  rw [h.2.2.2.2.1, h.cons hk, num, if_neg hb, if_pos hc]
theorem GetAt.fits (h : GetAt l n k a) (hb : ¬ (k = 9 ∧ 1 < l.getD k 0)) : l.getD k 0 % 128 * 2 ^ (7 * k) < 18446744073709551616 ∧ a < 18446744073709551616 := by
  have h9 := h.2.1
  have ha := h.2.2.1
  have hp : 2 ^ (7 * k) ≤ 2 ^ 63 := Nat.pow_le_pow_right (by decide) (by omega)
  have e63 : (2 : Nat) ^ 63 = 9223372036854775808 := by decide
  have e56 : (2 : Nat) ^ 56 = 72057594037927936 := by decide
  refine ⟨?_, by omega⟩
  by_cases hk : k = 9
  · subst hk
    have : l.getD 9 0 % 128 ≤ 1 := by omega
    have := Nat.mul_le_mul_right (2 ^ (7 * 9)) this
    omega
  · have hp2 : 2 ^ (7 * k) ≤ 2 ^ 56 := Nat.pow_le_pow_right (by decide) (by omega)
    have h1 : l.getD k 0 % 128 ≤ 127 := by omega
    have := Nat.mul_le_mul h1 hp2
    omega
theorem GetAt.next (h : GetAt l n k a) (hk : k < n) (hb : ¬ ((k = 9 ∧ 1 < l.getD k 0) ∨ (0 < k ∧ l.getD k 0 = 0))) (hc : ¬ l.getD k 0 < 128) :
    GetAt l n (k + 1) (a + l.getD k 0 % 128 * 2 ^ (7 * k)) := by
  have h9 := h.2.1
  have ha := h.2.2.1
  refine ⟨hk, by omega, ?_, h.2.2.2.1, ?_, h.2.2.2.2.2⟩
  · rw [pow_step]
    have h1 : l.getD k 0 % 128 ≤ 127 := by omega
    have := Nat.mul_le_mul_right (2 ^ (7 * k)) h1
    omega
  · rw [h.2.2.2.2.1, h.cons hk, num, if_neg hb, if_neg hc]
theorem GetAt.lay (h : GetAt l n k a) (hb : ¬ (k = 9 ∧ 1 < l.getD k 0)) {y : Nat} (hy : y = l.getD k 0 % 128) :
    bits .or .u64 (a : Int) (IntKind.u64.wrap ((y : Int) * 2 ^ (7 * k))) = ((a + l.getD k 0 % 128 * 2 ^ (7 * k) : Nat) : Int) := by
  subst hy
  obtain ⟨h1, h2⟩ := h.fits hb
  have e : IntKind.u64.wrap (((l.getD k 0 % 128 : Nat) : Int) * 2 ^ (7 * k)) = ((l.getD k 0 % 128 * 2 ^ (7 * k) : Nat) : Int) := by
    rw [show ((l.getD k 0 % 128 : Nat) : Int) * 2 ^ (7 * k) = ((l.getD k 0 % 128 * 2 ^ (7 * k) : Nat) : Int) from by rw [Int.natCast_mul, Int.natCast_pow]; rfl]
    rw [IntKind.wrap_u64]
    omega
  rw [e]
  exact u64_lay a _ k h.2.2.1 h1 h2
end

theorem ret3 {k1 k2 k3 : IntKind} {a b c a' b' c' : Int} (h1 : a = a') (h2 : b = b') (h3 : c = c') :
    Ending.returned (.tuple #[.int k1 a, .int k2 b, .int k3 c]) = .returned (.tuple #[.int k1 a', .int k2 b', .int k3 c']) := by rw [h1, h2, h3]
theorem ret2 {k1 k2 : IntKind} {a b a' b' : Int} (h1 : a = a') (h2 : b = b') :
    Ending.returned (.tuple #[.int k1 a, .int k2 b]) = .returned (.tuple #[.int k1 a', .int k2 b']) := by rw [h1, h2]

set_option maxHeartbeats 1000000 in
set_option maxRecDepth 100000 in
theorem get_any (A : Option Addr) (n c B : Nat) (l : List Nat) (w : World) (hl : Holds w B A n l) (hn : n ≤ 1099511627000) :
    Calls Tryz.prog 110 #[.slice A n c] w fun e w' => e = .returned (.tuple #[.int .u64 (num l 0 0).1, .int .i64 (num l 0 0).2.1, .int .i64 (num l 0 0).2.2]) ∧ w = w' := by
  have G0 := getAt_start hl.1 hl.2.1
  go_enter Tryz.func110, Tryz.ntmps110
  go_wp2
  go_step3
  go_wp2
  go_step3
  go_wp2
  go_loop [5, 6, 11] (fun v nn i => ∃ k a : Nat, GetAt l n k a ∧ v = .int .u64 a ∧ nn = .int .i64 0 ∧ i = .int .i64 k) (fun _ _ i => n - (Go.RowKit.intOf i).toNat)
  case atStart => exact ⟨0, 0, G0, rfl, rfl, rfl⟩
  case round =>
    obtain ⟨k, a, G, rfl, rfl, rfl⟩ := hrel
    have hk9 := G.le.2
    have hkn := G.le.1
    by_cases hlt : k < n
    · obtain ⟨b, off, rfl, _, hcell⟩ := hl.2.2 (by omega)
      obtain ⟨x, hx⟩ : ∃ x, x = l.getD k 0 := ⟨_, rfl⟩
      obtain ⟨y, hy⟩ : ∃ y, y = x % 128 := ⟨_, rfl⟩
      have hck : w.cell? ⟨b, off + k, none⟩ = some (.int .u8 (x : Int)) := by rw [hx]; exact hcell k hlt
      have hxs : x < 256 := by rw [hx]; exact G.byte hlt
      have hys : y < 128 := by omega
      have hand : bits .and .u8 (x : Int) 127 = (y : Int) := by rw [hy]; exact u8_low7 x hxs
      have Hx := hide hx
      have Hy := hide hy
      clear hx hy hcell
      go_wp2
      · have hv := G.bad hlt (by rw [← Hx.out]; omega)
        go_ret3
        exact ⟨ret3 (by rw [hv]; rfl) (by rw [hv]; rfl) (by rw [hv]; rfl), rfl⟩
      · have h0 := WalkArith.int_eq (show ((x : Int) == 0) = true by assumption)
        have hv := G.bad hlt (by rw [← Hx.out]; omega)
        go_ret3
        exact ⟨ret3 (by rw [hv]; rfl) (by rw [hv]; rfl) (by rw [hv]; rfl), rfl⟩
      · have h0 := WalkArith.int_ne (show ((x : Int) == 0) = false by assumption)
        have hb : ¬ ((k = 9 ∧ 1 < l.getD k 0) ∨ (0 < k ∧ l.getD k 0 = 0)) := by rw [← Hx.out]; omega
        have hv := G.last hlt hb (by rw [← Hx.out]; omega)
        go_ret3
        exact ⟨ret3 (by rw [hv]; exact G.lay (fun h => hb (.inl h)) (by rw [← Hx.out, Hy.out])) (by rw [hv]; show (_ : Int) = ((k + 1 : Nat) : Int); omega) (by rw [hv]; rfl), rfl⟩
      · have h0 := WalkArith.int_eq (show ((x : Int) == 0) = true by assumption)
        have hv := G.bad hlt (by rw [← Hx.out]; omega)
        go_ret3
        exact ⟨ret3 (by rw [hv]; rfl) (by rw [hv]; rfl) (by rw [hv]; rfl), rfl⟩
      · have h0 := WalkArith.int_ne (show ((x : Int) == 0) = false by assumption)
        have hb : ¬ ((k = 9 ∧ 1 < l.getD k 0) ∨ (0 < k ∧ l.getD k 0 = 0)) := by rw [← Hx.out]; omega
        have hv := G.last hlt hb (by rw [← Hx.out]; omega)
        go_ret3
        exact ⟨ret3 (by rw [hv]; exact G.lay (fun h => hb (.inl h)) (by rw [← Hx.out, Hy.out])) (by rw [hv]; rfl) (by rw [hv]; rfl), rfl⟩
      · have h0 := WalkArith.int_ne (show ((x : Int) == 0) = false by assumption)
        have hb : ¬ ((k = 9 ∧ 1 < l.getD k 0) ∨ (0 < k ∧ l.getD k 0 = 0)) := by rw [← Hx.out]; omega
        have hG := G.next hlt hb (by rw [← Hx.out]; omega)
        have hL := G.lay (fun h => hb (.inl h)) (show y = l.getD k 0 % 128 by rw [← Hx.out, Hy.out])
        go_round
        case rel => exact ⟨k + 1, _, hG, by rw [hL], rfl, by go_num⟩
        case measure => simp [Go.RowKit.intOf]; omega
      · have hb : ¬ ((k = 9 ∧ 1 < l.getD k 0) ∨ (0 < k ∧ l.getD k 0 = 0)) := by rw [← Hx.out]; omega
        have hv := G.last hlt hb (by rw [← Hx.out]; omega)
        go_ret3
        exact ⟨ret3 (by rw [hv]; exact G.lay (fun h => hb (.inl h)) (by rw [← Hx.out, Hy.out])) (by rw [hv]; rfl) (by rw [hv]; rfl), rfl⟩
      · have hb : ¬ ((k = 9 ∧ 1 < l.getD k 0) ∨ (0 < k ∧ l.getD k 0 = 0)) := by rw [← Hx.out]; omega
        have hG := G.next hlt hb (by rw [← Hx.out]; omega)
        have hL := G.lay (fun h => hb (.inl h)) (show y = l.getD k 0 % 128 by rw [← Hx.out, Hy.out])
        go_round
        case rel => exact ⟨k + 1, _, hG, by rw [hL], rfl, by go_num⟩
        case measure => simp [Go.RowKit.intOf]; omega
    · go_wp2
      have hv := G.short hlt
      go_ret3
      exact ⟨ret3 (by rw [hv]; rfl) (by rw [hv]; rfl) (by rw [hv]; rfl), rfl⟩

theorem getuint_any (A : Option Addr) (n c B : Nat) (l : List Nat) (w : World) (hl : Holds w B A n l) (hn : n ≤ 1099511627000) :
    Calls Tryz.prog 130 #[.slice A n c] w fun e w' => e = .returned (.tuple #[.int .u64 (num l 0 0).1, .int .i64 (num l 0 0).2.1]) ∧ w = w' := by
  go_enter Tryz.func130, Tryz.ntmps130
  go_wp2_with (go_at_call 110; refine (get_any A n c B l _ hl hn).mono ?_; rintro e w1 ⟨rfl, rfl⟩)
  go_ret2
  exact ⟨rfl, rfl⟩
end Go.Proofs.YtdkiopajilakcaaGreatDoor
/- Records: what is said of a slice of fields in memory, what is a good field, and the bytes of a record. -/
namespace Go.Proofs.YtdkiopajilakcaaGreatDoor
open Go.RowKit

structure Fd where
  num : Int
  text : Bool
  v : Nat
  a : Option Addr
  n : Nat
  c : Nat
  b : List Nat

namespace Fd
def cells (f : Fd) : Array Value := #[.int .i64 f.num, .bool f.text, .int .u64 f.v, .slice f.a f.n f.c]
def val (f : Fd) : Value := .agg f.cells
def good (f : Fd) : Bool := decide (1 ≤ f.num) && decide (f.num ≤ 1000) && (if f.text then f.v == 0 else f.n == 0)
theorem good_not {f : Fd} (h : f.num < 1 ∨ 1000 < f.num) : false = f.good := by
  unfold good
  rcases h with h | h <;> simp <;> omega
theorem good_text {f : Fd} (h1 : 1 ≤ f.num) (h2 : f.num ≤ 1000) (ht : f.text = true) : ((f.v : Int) == 0) = f.good := by
  unfold good
  rw [Bool.eq_iff_iff]
  simp [h1, h2, ht]
theorem good_num {f : Fd} (h1 : 1 ≤ f.num) (h2 : f.num ≤ 1000) (ht : f.text = false) : ((f.n : Int) == 0) = f.good := by
  unfold good
  rw [Bool.eq_iff_iff]
  simp [h1, h2, ht]
theorem good_range {f : Fd} (h : f.good = true) : 1 ≤ f.num ∧ f.num ≤ 1000 := by
  unfold good at h
  simp at h
  exact h.1
def bytes (f : Fd) : List Nat :=
  if f.good then (if f.text then enc (2 * f.num.toNat + 1) ++ enc f.n ++ f.b else enc (2 * f.num.toNat) ++ enc f.v) else []
def ok (w : World) (B : Nat) (f : Fd) : Prop :=
  (-9223372036854775808 ≤ f.num ∧ f.num < 9223372036854775808) ∧ f.v < 18446744073709551616 ∧ f.n ≤ f.c ∧ Holds w B f.a f.n f.b
end Fd

theorem bytes_not {f : Fd} (h : f.good = false) : f.bytes = [] := by
  unfold Fd.bytes
  simp [h]
theorem bytes_text {f : Fd} (h : f.good = true) (ht : f.text = true) : f.bytes = enc (2 * f.num.toNat + 1) ++ enc f.n ++ f.b := by
  unfold Fd.bytes
  simp [h, ht]
theorem bytes_num {f : Fd} (h : f.good = true) (ht : f.text = false) : f.bytes = enc (2 * f.num.toNat) ++ enc f.v := by
  unfold Fd.bytes
  simp [h, ht]

def recOf (fs : List Fd) : List Nat := (fs.map Fd.bytes).flatten
def room (fs : List Fd) : Nat := (fs.map fun f => 20 + f.n).sum

theorem recOf_snoc (fs : List Fd) (f : Fd) : recOf (fs ++ [f]) = recOf fs ++ f.bytes := by simp [recOf]
theorem room_snoc (fs : List Fd) (f : Fd) : room (fs ++ [f]) = room fs + (20 + f.n) := by simp [room]

theorem bytes_len (f : Fd) (h : f.b.length = f.n) : f.bytes.length ≤ 20 + f.n := by
  have h1 := enc_len (2 * f.num.toNat + 1)
  have h2 := enc_len f.n
  have h3 := enc_len (2 * f.num.toNat)
  have h4 := enc_len f.v
  unfold Fd.bytes
  split
  · split <;> simp <;> omega
  · simp
theorem recOf_len : ∀ (fs : List Fd), (∀ f ∈ fs, f.b.length = f.n) → (recOf fs).length ≤ room fs
  | [], _ => by simp [recOf, room]
  | f :: r, h => by
    have h1 := bytes_len f (h f (by simp))
    have h2 := recOf_len r fun g hg => h g (by simp [hg])
    simp only [recOf, room, List.map_cons, List.flatten_cons, List.length_append, List.sum_cons] at *
    omega
theorem room_take : ∀ (fs : List Fd) (k : Nat), room (fs.take k) ≤ room fs
  | [], k => by simp [room]
  | f :: r, 0 => by simp [room]
  | f :: r, k + 1 => by
    have := room_take r k
    simp only [room, List.take_succ_cons, List.map_cons, List.sum_cons] at *
    omega

theorem bytes_small {w : World} {B : Nat} {f : Fd} (h : f.ok w B) : ∀ x ∈ f.bytes, x < 256 := by
  intro x hx
  unfold Fd.bytes at hx
  split at hx
  · split at hx
    · rcases List.mem_append.1 hx with hx | hx
      · rcases List.mem_append.1 hx with hx | hx
        · exact enc_small _ x hx
        · exact enc_small _ x hx
      · exact h.2.2.2.2.1 x hx
    · rcases List.mem_append.1 hx with hx | hx
      · exact enc_small _ x hx
      · exact enc_small _ x hx
  · cases hx
theorem recOf_small {w : World} {B : Nat} {fs : List Fd} (h : ∀ f ∈ fs, f.ok w B) : ∀ x ∈ recOf fs, x < 256 := by
  intro x hx
  obtain ⟨y, hy, hxy⟩ := List.mem_flatten.1 hx
  obtain ⟨f, hf, rfl⟩ := List.mem_map.1 hy
  exact bytes_small (h f hf) x hxy

def FHolds (w : World) (B : Nat) (A : Option Addr) (n : Nat) (fs : List Fd) : Prop :=
  fs.length = n ∧ (∀ f ∈ fs, f.ok w B) ∧
  (0 < n → ∃ b off, A = some ⟨b, off, none⟩ ∧ b < B ∧ ∀ i f, fs[i]? = some f → ∀ j u, f.cells[j]? = some u → w.cell? ⟨b, off + i * 4 + j, none⟩ = some u)

section
variable {w w' : World} {B B' : Nat} {A : Option Addr} {n : Nat} {fs : List Fd} {f : Fd}

theorem Fd.ok.keep (h : f.ok w B) (hk : ∀ p : Addr, p.block < B → w'.cell? p = w.cell? p) : f.ok w' B := ⟨h.1, h.2.1, h.2.2.1, h.2.2.2.keep hk⟩
theorem FHolds.keep (h : FHolds w B A n fs) (hk : ∀ p : Addr, p.block < B → w'.cell? p = w.cell? p) : FHolds w' B A n fs :=
  ⟨h.1, fun f hf => (h.2.1 f hf).keep hk, fun hn => by
    obtain ⟨b, off, e, hb, hc⟩ := h.2.2 hn
    exact ⟨b, off, e, hb, fun i f hi j u hu => (hk ⟨b, _, none⟩ hb).trans (hc i f hi j u hu)⟩⟩
theorem FHolds.below (h : FHolds w B A n fs) (hb : Below B w w') : FHolds w' B A n fs := h.keep fun _ hp => hb.cell hp
theorem FHolds.more (h : FHolds w B A n fs) (hB : B ≤ B') : FHolds w B' A n fs :=
  ⟨h.1, fun f hf => ⟨(h.2.1 f hf).1, (h.2.1 f hf).2.1, (h.2.1 f hf).2.2.1, (h.2.1 f hf).2.2.2.more hB⟩, fun hn => by
    obtain ⟨b, off, e, hb, hc⟩ := h.2.2 hn
    exact ⟨b, off, e, by omega, hc⟩⟩
theorem FHolds.lens (h : FHolds w B A n fs) : ∀ f ∈ fs, f.b.length = f.n := fun f hf => (h.2.1 f hf).2.2.2.1
theorem FHolds.small (h : FHolds w B A n fs) : ∀ x ∈ recOf fs, x < 256 := recOf_small h.2.1

theorem FHolds.at_ (h : FHolds w B A n fs) {k : Nat} (hk : k < n) : ∃ f b off, fs[k]? = some f ∧ f.ok w B ∧ A = some ⟨b, off, none⟩ ∧ b < B ∧
    w.cell? ⟨b, off + k * 4, none⟩ = some (.int .i64 f.num) ∧ w.cell? ⟨b, off + k * 4 + 1, none⟩ = some (.bool f.text) ∧ w.cell? ⟨b, off + k * 4 + 2, none⟩ = some (.int .u64 f.v) ∧
    w.cell? ⟨b, off + k * 4 + 3, none⟩ = some (.slice f.a f.n f.c) ∧ fs.take (k + 1) = fs.take k ++ [f] := by
  have hl : k < fs.length := by rw [h.1]; exact hk
  obtain ⟨b, off, e, hb, hc⟩ := h.2.2 (by omega)
  have hf : fs[k]? = some fs[k] := List.getElem?_eq_getElem hl
  refine ⟨fs[k], b, off, hf, h.2.1 _ (List.getElem_mem hl), e, hb, hc k _ hf 0 _ rfl, hc k _ hf 1 _ rfl, hc k _ hf 2 _ rfl, hc k _ hf 3 _ rfl, ?_⟩
  rw [List.take_succ_eq_append_getElem hl]
end

def Box (w : World) (g : Nat) (t : TypeId) (c0 c1 c2 c3 : Value) : Prop := w.heap[g]? = some (.cells #[c0, c1, c2, c3] t (0, 0))
section
variable {w w1 : World} {g : Nat} {t : TypeId} {c0 c1 c2 c3 : Value}
theorem Box.new (w : World) (t : TypeId) (c0 c1 c2 c3 : Value) : Box (w.alloc (.cells #[c0, c1, c2, c3] t)) w.heap.size t c0 c1 c2 c3 := heap_alloc_new w _
theorem Box.lt (h : Box w g t c0 c1 c2 c3) : g < w.heap.size := (Array.getElem?_eq_some_iff.1 h).1
theorem Box.below (h : Box w g t c0 c1 c2 c3) {B : Nat} (hb : Below B w w1) (hg : g < B) : Box w1 g t c0 c1 c2 c3 := (hb.block g hg).trans h
theorem Box.went (h : Box w g t c0 c1 c2 c3) {base e n : Nat} {v : Value} {xs : List Value} {r1 : Option Nat} (hw : Went w v.ownBlock w1 r1) (ho : w.ownsRow base e 1 v n xs) (hne : e ≠ t) : Box w1 g t c0 c1 c2 c3 :=
  hw.other ho h hne
theorem Box.cell (h : Box w g t c0 c1 c2 c3) : w.cell? ⟨g, 0, none⟩ = some c0 ∧ w.cell? ⟨g, 1, none⟩ = some c1 ∧ w.cell? ⟨g, 2, none⟩ = some c2 ∧ w.cell? ⟨g, 3, none⟩ = some c3 :=
  ⟨cell_of_row w g 0 _ t (0, 0) h, cell_of_row w g 1 _ t (0, 0) h, cell_of_row w g 2 _ t (0, 0) h, cell_of_row w g 3 _ t (0, 0) h⟩
end

end Go.Proofs.YtdkiopajilakcaaGreatDoor
/- Plain facts on records, on lists alone: the fields that bytes begin with, the fields of all bytes, and that both come back. -/
namespace Go.Proofs.YtdkiopajilakcaaGreatDoor

abbrev PF : Type := Int × Bool × Nat × List Nat
def pz : PF := (0, false, 0, [])

def pgood (p : PF) : Bool := decide (1 ≤ p.1) && decide (p.1 ≤ 1000) && (if p.2.1 then p.2.2.1 == 0 else p.2.2.2.isEmpty)
def pbytes (p : PF) : List Nat :=
  if pgood p then (if p.2.1 then enc (2 * p.1.toNat + 1) ++ enc p.2.2.2.length ++ p.2.2.2 else enc (2 * p.1.toNat) ++ enc p.2.2.1) else []
def prec (ps : List PF) : List Nat := (ps.map pbytes).flatten
def pfits (p : PF) : Prop := p.2.2.1 < 18446744073709551616 ∧ p.2.2.2.length < 18446744073709551616

def pfirst (l : List Nat) : Nat × PF × Nat :=
  if (num l 0 0).2.2 ≠ 0 then ((num l 0 0).2.2, pz, 0)
  else if (num l 0 0).1 / 2 < 1 ∨ 1000 < (num l 0 0).1 / 2 then (4, pz, 0)
  else if (num (l.drop (num l 0 0).2.1) 0 0).2.2 ≠ 0 then ((num (l.drop (num l 0 0).2.1) 0 0).2.2, pz, 0)
  else if (num l 0 0).1 % 2 = 0 then (0, (((num l 0 0).1 / 2 : Nat), false, (num (l.drop (num l 0 0).2.1) 0 0).1, []), (num l 0 0).2.1 + (num (l.drop (num l 0 0).2.1) 0 0).2.1)
  else if l.length - ((num l 0 0).2.1 + (num (l.drop (num l 0 0).2.1) 0 0).2.1) < (num (l.drop (num l 0 0).2.1) 0 0).1 then (3, pz, 0)
  else (0, (((num l 0 0).1 / 2 : Nat), true, 0, (l.drop ((num l 0 0).2.1 + (num (l.drop (num l 0 0).2.1) 0 0).2.1)).take (num (l.drop (num l 0 0).2.1) 0 0).1), (num l 0 0).2.1 + (num (l.drop (num l 0 0).2.1) 0 0).2.1 + (num (l.drop (num l 0 0).2.1) 0 0).1)

def preadF : Nat → List Nat → Nat × List PF
  | 0, l => if l = [] then (0, []) else (9, [])
  | k + 1, l =>
    if l = [] then (0, [])
    else if (pfirst l).1 ≠ 0 then ((pfirst l).1, [])
    else if (preadF k (l.drop (pfirst l).2.2)).1 ≠ 0 then ((preadF k (l.drop (pfirst l).2.2)).1, [])
    else (0, (pfirst l).2.1 :: (preadF k (l.drop (pfirst l).2.2)).2)
def pread (l : List Nat) : Nat × List PF := preadF l.length l

theorem num_canon : ∀ (l : List Nat) (f i a V m : Nat), (∀ x ∈ l, x < 256) → i + f = 9 → num l i a = (V, m, 0) →
    ∃ v, V = a + v * 2 ^ (7 * i) ∧ m = i + (encF f v).length ∧ l.take (encF f v).length = encF f v ∧ v < 2 * 128 ^ f ∧ (0 < i → 0 < v)
  | [], f, i, a, V, m, _, _, h => by simp [num] at h
  | c :: r, f, i, a, V, m, hs, hi, h => by
    have hc : c < 256 := hs c (by simp)
    unfold num at h
    split at h
    · simp at h
    · rename_i hb
      split at h
      · rename_i hlt
        simp only [Prod.mk.injEq, and_true] at h
        obtain ⟨rfl, rfl⟩ := h
        have e1 : c % 128 = c := by omega
        rw [e1]
        refine ⟨c, rfl, ?_⟩
        cases f with
        | zero => simp [encF, e1]; omega
        | succ f =>
          have e2 : c / 128 = 0 := by omega
          have : 1 ≤ 128 ^ f := Nat.one_le_pow _ _ (by omega)
          simp [encF, e1, e2, Nat.pow_succ]
          omega
      · rename_i hge
        cases f with
        | zero => omega
        | succ f =>
          obtain ⟨v, hV, hm, ht, hv, hp⟩ := num_canon r f (i + 1) _ V m (fun x hx => hs x (by simp [hx])) (by omega) h
          have hv0 := hp (by omega)
          have e1 : (c % 128 + 128 * v) % 128 = c % 128 := by omega
          have e2 : (c % 128 + 128 * v) / 128 = v := by omega
          have e3 : c % 128 + 128 = c := by omega
          refine ⟨c % 128 + 128 * v, ?_, ?_, ?_, ?_, fun _ => by omega⟩
          · rw [hV, pow_step, Nat.add_mul]
            have : v * (128 * 2 ^ (7 * i)) = 128 * v * 2 ^ (7 * i) := by rw [← Nat.mul_assoc, Nat.mul_comm v 128]
            omega
          · rw [encF, e1, e2, if_neg (by omega)]
            simp
            omega
          · rw [encF, e1, e2, if_neg (by omega)]
            simp [ht, e3]
          · rw [Nat.pow_succ]
            omega

theorem num_ok {l : List Nat} {V m : Nat} (hs : ∀ x ∈ l, x < 256) (h : num l 0 0 = (V, m, 0)) : m = (enc V).length ∧ l.take m = enc V ∧ V < 18446744073709551616 := by
  obtain ⟨v, hV, hm, ht, hv, _⟩ := num_canon l 9 0 0 V m hs rfl h
  have e : v = V := by simpa using hV.symm
  subst e
  have e9 : (2 * 128 ^ 9 : Nat) = 18446744073709551616 := by decide
  have hm2 : m = (enc v).length := by simpa [enc] using hm
  refine ⟨hm2, ?_, by omega⟩
  rw [hm2]
  exact ht
theorem num_ok' {l : List Nat} (hs : ∀ x ∈ l, x < 256) (h : (num l 0 0).2.2 = 0) : (num l 0 0).2.1 = (enc (num l 0 0).1).length ∧ l.take (num l 0 0).2.1 = enc (num l 0 0).1 ∧ (num l 0 0).1 < 18446744073709551616 := by
  rcases hn : num l 0 0 with ⟨V, m, e⟩
  rw [hn] at h
  simp only at h
  subst h
  exact num_ok hs hn

theorem pgood_iff (p : PF) : pgood p = true ↔ 1 ≤ p.1 ∧ p.1 ≤ 1000 ∧ (if p.2.1 then p.2.2.1 = 0 else p.2.2.2 = []) := by
  unfold pgood
  cases p.2.1 <;> simp [and_assoc]

theorem pfirst_bytes (p : PF) (hg : pgood p = true) (hf : pfits p) (rest : List Nat) : pfirst (pbytes p ++ rest) = (0, p, (pbytes p).length) := by
  obtain ⟨n, t, v, b⟩ := p
  obtain ⟨h1, h2, h3⟩ := (pgood_iff _).1 hg
  obtain ⟨f1, f2⟩ := hf
  simp only at h1 h2 h3 f1 f2
  have hk : 2 * n.toNat + 1 < 18446744073709551616 := by omega
  cases t with
  | true =>
    simp only [if_true] at h3
    subst h3
    have e : pbytes (n, true, 0, b) = enc (2 * n.toNat + 1) ++ enc b.length ++ b := by simp [pbytes, hg]
    have a1 : num (enc (2 * n.toNat + 1) ++ enc b.length ++ b ++ rest) 0 0 = (2 * n.toNat + 1, (enc (2 * n.toNat + 1)).length, 0) := by
      rw [List.append_assoc, List.append_assoc]; exact num_enc _ _ hk
    have a2 : num ((enc (2 * n.toNat + 1) ++ enc b.length ++ b ++ rest).drop (enc (2 * n.toNat + 1)).length) 0 0 = (b.length, (enc b.length).length, 0) := by
      rw [List.append_assoc, List.append_assoc, List.drop_left]; exact num_enc _ _ f2
    have d2 : (2 * n.toNat + 1) / 2 = n.toNat := by omega
    have d3 : (2 * n.toNat + 1) % 2 = 1 := by omega
    have dd : (enc (2 * n.toNat + 1) ++ enc b.length ++ b ++ rest).drop ((enc (2 * n.toNat + 1)).length + (enc b.length).length) = b ++ rest := by
      rw [← List.length_append, List.append_assoc, List.append_assoc, ← List.append_assoc, List.drop_left]
    rw [e]
    unfold pfirst
    simp only [a1, a2, d2, d3, dd]
    rw [if_neg (by simp), if_neg (by omega), if_neg (by simp), if_neg (by omega), if_neg (by simp; omega)]
    simp
    omega
  | false =>
    simp at h3
    subst h3
    have e : pbytes (n, false, v, []) = enc (2 * n.toNat) ++ enc v := by simp [pbytes, hg]
    have a1 : num (enc (2 * n.toNat) ++ enc v ++ rest) 0 0 = (2 * n.toNat, (enc (2 * n.toNat)).length, 0) := by
      rw [List.append_assoc]; exact num_enc _ _ (by omega)
    have a2 : num ((enc (2 * n.toNat) ++ enc v ++ rest).drop (enc (2 * n.toNat)).length) 0 0 = (v, (enc v).length, 0) := by
      rw [List.append_assoc, List.drop_left]; exact num_enc _ _ f1
    have d2 : (2 * n.toNat) / 2 = n.toNat := by omega
    have d3 : (2 * n.toNat) % 2 = 0 := by omega
    rw [e]
    unfold pfirst
    simp only [a1, a2, d2, d3]
    rw [if_neg (by simp), if_neg (by omega), if_neg (by simp), if_pos trivial]
    simp
    omega

theorem pfirst_ok (l : List Nat) (hs : ∀ x ∈ l, x < 256) (h : (pfirst l).1 = 0) :
    pgood (pfirst l).2.1 = true ∧ pbytes (pfirst l).2.1 = l.take (pfirst l).2.2 ∧ 0 < (pfirst l).2.2 ∧ (pfirst l).2.2 ≤ l.length ∧ (∀ x ∈ (pfirst l).2.1.2.2.2, x < 256) ∧ pfits (pfirst l).2.1 := by
  unfold pfirst at h ⊢
  split at h
  · rename_i h0; exact absurd h h0
  · rename_i h0
    split at h
    · simp at h
    · rename_i h1
      split at h
      · rename_i h2; exact absurd h h2
      · rename_i h2
        rw [if_neg h0, if_neg h1, if_neg h2]
        obtain ⟨q1, q2, q3⟩ := num_ok' hs (by simpa using h0)
        have hs2 : ∀ x ∈ l.drop (num l 0 0).2.1, x < 256 := fun x hx => hs x (List.mem_of_mem_drop hx)
        obtain ⟨r1, r2, r3⟩ := num_ok' hs2 (by simpa using h2)
        have b1 := (num_bound l 0 0).1
        have b2 := (num_bound (l.drop (num l 0 0).2.1) 0 0).1
        have el := (enc_len (num l 0 0).1).1
        obtain ⟨K, hK⟩ : ∃ K, (num l 0 0).1 = K := ⟨_, rfl⟩
        obtain ⟨m, hm⟩ : ∃ m, (num l 0 0).2.1 = m := ⟨_, rfl⟩
        rw [hm] at r1 r2 r3 b2 hs2
        simp only [hK, hm] at *
        obtain ⟨V, hV⟩ : ∃ V, (num (l.drop m) 0 0).1 = V := ⟨_, rfl⟩
        obtain ⟨z, hz⟩ : ∃ z, (num (l.drop m) 0 0).2.1 = z := ⟨_, rfl⟩
        simp only [hV, hz] at *
        simp only [List.length_drop] at b2
        have et : l.take (m + z) = enc K ++ enc V := by
          rw [List.take_add, q2, r2]
        split at h
        · rename_i h3
          rw [if_pos h3]
          have hg : pgood (((K / 2 : Nat) : Int), false, V, []) = true := by
            rw [pgood_iff]; simp; omega
          refine ⟨hg, ?_, by simp only; omega, by simp only; omega, by simp, ⟨r3, by simp⟩⟩
          unfold pbytes
          rw [if_pos hg]
          have : 2 * ((K / 2 : Nat) : Int).toNat = K := by omega
          simp only [Bool.false_eq_true, if_false, this]
          exact et.symm
        · rename_i h3
          split at h
          · simp at h
          · rename_i h4
            rw [if_neg h3, if_neg h4]
            have hlen : ((l.drop (m + z)).take V).length = V := by simp; omega
            have hg : pgood (((K / 2 : Nat) : Int), true, 0, (l.drop (m + z)).take V) = true := by
              rw [pgood_iff]; simp; omega
            refine ⟨hg, ?_, by simp only; omega, by simp only; omega, fun x hx => hs x (List.mem_of_mem_drop (List.mem_of_mem_take hx)), ⟨by simp, by simp only; omega⟩⟩
            unfold pbytes
            rw [if_pos hg]
            have : 2 * ((K / 2 : Nat) : Int).toNat + 1 = K := by omega
            simp only [if_true, this, hlen]
            rw [← et, List.take_add (i := m + z)]

theorem preadF_more : ∀ (k j : Nat) (l : List Nat), (∀ x ∈ l, x < 256) → l.length ≤ k → l.length ≤ j → preadF k l = preadF j l
  | k, j, [], _, _, _ => by cases k <;> cases j <;> simp [preadF]
  | 0, j, c :: r, _, hk, _ => by simp at hk
  | k + 1, 0, c :: r, _, _, hj => by simp at hj
  | k + 1, j + 1, c :: r, hs, hk, hj => by
    simp only [preadF]
    have hne : c :: r ≠ [] := by simp
    rw [if_neg hne, if_neg hne]
    by_cases h : (pfirst (c :: r)).1 ≠ 0
    · rw [if_pos h, if_pos h]
    · rw [if_neg h, if_neg h]
      have h3 := (pfirst_ok (c :: r) hs (by simpa using h)).2.2.1
      rw [preadF_more k j ((c :: r).drop (pfirst (c :: r)).2.2) (fun x hx => hs x (List.mem_of_mem_drop hx)) (by rw [List.length_drop]; omega) (by rw [List.length_drop]; omega)]

theorem pread_step {l : List Nat} (hs : ∀ x ∈ l, x < 256) (hne : l ≠ []) :
    pread l = if (pfirst l).1 ≠ 0 then ((pfirst l).1, []) else if (pread (l.drop (pfirst l).2.2)).1 ≠ 0 then ((pread (l.drop (pfirst l).2.2)).1, []) else (0, (pfirst l).2.1 :: (pread (l.drop (pfirst l).2.2)).2) := by
  obtain ⟨c, r, rfl⟩ : ∃ c r, l = c :: r := by cases l with | nil => exact absurd rfl hne | cons c r => exact ⟨c, r, rfl⟩
  unfold pread
  rw [List.length_cons, preadF, if_neg hne]
  by_cases h : (pfirst (c :: r)).1 ≠ 0
  · rw [if_pos h, if_pos h]
  · rw [if_neg h, if_neg h]
    have h3 := (pfirst_ok (c :: r) hs (by simpa using h)).2.2.1
    rw [preadF_more r.length ((c :: r).drop (pfirst (c :: r)).2.2).length ((c :: r).drop (pfirst (c :: r)).2.2) (fun x hx => hs x (List.mem_of_mem_drop hx)) (by rw [List.length_drop, List.length_cons]; omega) (Nat.le_refl _)]
theorem pread_nil : pread [] = (0, []) := by simp [pread, preadF]

def readOn (done : List PF) (q : Nat × List PF) : Nat × List PF := if q.1 ≠ 0 then (q.1, []) else (0, done ++ q.2)
theorem readOn_start (l : List Nat) : pread l = readOn [] (pread l) := by
  unfold readOn
  split
  · rename_i h
    unfold pread at h ⊢
    cases hl : l.length with
    | zero => rw [hl] at h; simp only [preadF] at h ⊢; split <;> simp_all
    | succ k =>
      rw [hl] at h
      simp only [preadF] at h ⊢
      split
      · simp_all
      · split
        · rfl
        · split
          · rfl
          · simp_all
  · rename_i h
    have : (pread l).1 = 0 := by simpa using h
    simp [← this]
theorem readOn_err {l : List Nat} (hs : ∀ x ∈ l, x < 256) (done : List PF) (hne : l ≠ []) (h : (pfirst l).1 ≠ 0) : readOn done (pread l) = ((pfirst l).1, []) := by
  rw [pread_step hs hne, if_pos h]
  unfold readOn
  rw [if_pos h]
theorem readOn_next {l : List Nat} (hs : ∀ x ∈ l, x < 256) (done : List PF) (hne : l ≠ []) (h : (pfirst l).1 = 0) : readOn done (pread l) = readOn (done ++ [(pfirst l).2.1]) (pread (l.drop (pfirst l).2.2)) := by
  rw [pread_step hs hne, if_neg (by simpa using h)]
  unfold readOn
  by_cases h2 : (pread (l.drop (pfirst l).2.2)).1 ≠ 0
  · rw [if_pos h2, if_pos h2, if_pos h2]
  · rw [if_neg h2, if_neg h2, if_neg (by simp)]
    simp
theorem readOn_end (done : List PF) : readOn done (pread []) = (0, done) := by
  rw [pread_nil]
  simp [readOn]

theorem pread_prec (rest : List Nat) (hr : ∀ x ∈ rest, x < 256) : ∀ (ps : List PF), (∀ p ∈ ps, pfits p) → (∀ p ∈ ps, ∀ x ∈ p.2.2.2, x < 256) →
    pread (prec ps ++ rest) = readOn (ps.filter pgood) (pread rest)
  | [], _, _ => by simpa [prec] using readOn_start rest
  | p :: ps, hf, hs => by
    have ih := pread_prec rest hr ps (fun q hq => hf q (by simp [hq])) (fun q hq => hs q (by simp [hq]))
    by_cases hg : pgood p = true
    · have hsm : ∀ x ∈ prec (p :: ps) ++ rest, x < 256 := by
        intro x hx
        rcases List.mem_append.1 hx with hx | hx
        · obtain ⟨y, hy, hxy⟩ := List.mem_flatten.1 hx
          obtain ⟨q, hq, rfl⟩ := List.mem_map.1 hy
          unfold pbytes at hxy
          split at hxy
          · split at hxy
            · rcases List.mem_append.1 hxy with h | h
              · rcases List.mem_append.1 h with h | h
                · exact enc_small _ x h
                · exact enc_small _ x h
              · exact hs q hq x h
            · rcases List.mem_append.1 hxy with h | h
              · exact enc_small _ x h
              · exact enc_small _ x h
          · cases hxy
        · exact hr x hx
      have e : prec (p :: ps) ++ rest = pbytes p ++ (prec ps ++ rest) := by simp [prec]
      have hfst := pfirst_bytes p hg (hf p (by simp)) (prec ps ++ rest)
      have hne : prec (p :: ps) ++ rest ≠ [] := by
        have := (pfirst_ok _ hsm (by rw [e, hfst])).2.2.2.1
        have h0 := (pfirst_ok _ hsm (by rw [e, hfst])).2.2.1
        intro h; rw [h] at this h0; simp at this; omega
      rw [readOn_start, readOn_next hsm [] hne (by rw [e, hfst]), e, hfst]
      simp only [List.drop_left, List.nil_append]
      rw [ih, List.filter_cons, if_pos hg]
      unfold readOn
      split <;> simp_all
    · have e : prec (p :: ps) ++ rest = prec ps ++ rest := by
        have : pbytes p = [] := by simp [pbytes, hg]
        simp [prec, this]
      rw [e, ih, List.filter_cons, if_neg hg]

theorem pread_ok : ∀ (n : Nat) (l : List Nat), l.length ≤ n → (∀ x ∈ l, x < 256) → (pread l).1 = 0 →
    prec (pread l).2 = l ∧ (∀ p ∈ (pread l).2, pgood p = true ∧ (∀ x ∈ p.2.2.2, x < 256) ∧ pfits p)
  | 0, l, hn, hs, h => by
    have : l = [] := List.eq_nil_of_length_eq_zero (by omega)
    subst this
    simp [pread_nil, prec]
  | n + 1, l, hn, hs, h => by
    by_cases hne : l = []
    · subst hne
      simp [pread_nil, prec]
    · rw [pread_step hs hne] at h ⊢
      split at h
      · rename_i h1; exact absurd h h1
      · rename_i h1
        split at h
        · rename_i h2; exact absurd h h2
        · rename_i h2
          rw [if_neg h1, if_neg h2]
          obtain ⟨g1, g2, g3, g4, g5, g6⟩ := pfirst_ok l hs (by simpa using h1)
          obtain ⟨i1, i2⟩ := pread_ok n (l.drop (pfirst l).2.2) (by rw [List.length_drop]; omega) (fun x hx => hs x (List.mem_of_mem_drop hx)) (by simpa using h2)
          refine ⟨?_, ?_⟩
          · have : prec ((pfirst l).2.1 :: (pread (l.drop (pfirst l).2.2)).2) = pbytes (pfirst l).2.1 ++ prec (pread (l.drop (pfirst l).2.2)).2 := by simp [prec]
            rw [this, i1, g2, List.take_append_drop]
          · intro p hp
            rcases List.mem_cons.1 hp with rfl | hp
            · exact ⟨g1, g5, g6⟩
            · exact i2 p hp

end Go.Proofs.YtdkiopajilakcaaGreatDoor
/- Cells of fields, one behind the other; rows of fields. -/
namespace Go.Proofs.YtdkiopajilakcaaGreatDoor
open Go.RowKit

def fcells (fs : List Fd) : List Value := (fs.map fun f => f.cells.toList).flatten
theorem fcells_snoc (fs : List Fd) (f : Fd) : fcells (fs ++ [f]) = fcells fs ++ [.int .i64 f.num, .bool f.text, .int .u64 f.v, .slice f.a f.n f.c] := by simp [fcells, Fd.cells]
theorem fcells_len : ∀ (fs : List Fd), (fcells fs).length = fs.length * 4
  | [] => rfl
  | f :: r => by
    have := fcells_len r
    simp only [fcells, Fd.cells, List.map_cons, List.flatten_cons, List.length_append, List.length_cons, List.length_nil] at *
    omega
theorem fcells_get : ∀ (fs : List Fd) (i j : Nat) (f : Fd) (u : Value), fs[i]? = some f → f.cells[j]? = some u → (fcells fs)[i * 4 + j]? = some u
  | [], i, j, f, u, h, _ => by simp at h
  | g :: r, 0, j, f, u, h, hu => by
    simp at h
    subst h
    have hj : j < 4 := by
      have := (Array.getElem?_eq_some_iff.1 hu).1
      simpa [Fd.cells] using this
    have e : fcells (g :: r) = g.cells.toList ++ fcells r := by simp [fcells]
    rw [e, Nat.zero_mul, Nat.zero_add, List.getElem?_append_left (by simpa [Fd.cells] using hj)]
    simpa using hu
  | g :: r, i + 1, j, f, u, h, hu => by
    simp at h
    have ih := fcells_get r i j f u h hu
    have e : fcells (g :: r) = g.cells.toList ++ fcells r := by simp [fcells]
    have e4 : g.cells.toList.length = 4 := by simp [Fd.cells]
    rw [e, List.getElem?_append_right (by rw [e4]; omega), e4, show (i + 1) * 4 + j - 4 = i * 4 + j from by omega]
    exact ih

theorem FHolds.of_own {w : World} {base e n : Nat} {v : Value} {fs : List Fd} (h : w.ownsRow base e 4 v n (fcells fs)) (hok : ∀ f ∈ fs, f.ok w w.heap.size) :
    ∃ A c, v = .slice A n c ∧ n ≤ c ∧ FHolds w w.heap.size A n fs := by
  have hl : fs.length = n := by
    have := h.1
    rw [fcells_len] at this
    omega
  rcases h.2 with ⟨rfl, rfl⟩ | ⟨g, cap, cur, rfl, _, hg, hnc, _, hs, ht⟩
  · exact ⟨none, 0, rfl, Nat.le_refl _, hl, hok, fun h => by omega⟩
  · refine ⟨some ⟨g, 0, none⟩, cap, rfl, hnc, hl, hok, fun hn => ⟨g, 0, rfl, (Array.getElem?_eq_some_iff.1 hg).1, fun i f hi j u hu => ?_⟩⟩
    have h1 := fcells_get fs i j f u hi hu
    have := h.cells (g := g) rfl (i * 4 + j) u h1
    rw [Addr.add_lit] at this
    simpa using this
theorem fcells_cell (fs : List Fd) : ∀ u ∈ fcells fs, u.oneCell' = true := by
  intro u hu
  obtain ⟨y, hy, huy⟩ := List.mem_flatten.1 hu
  obtain ⟨f, _, rfl⟩ := List.mem_map.1 hy
  simp [Fd.cells] at huy
  rcases huy with rfl | rfl | rfl | rfl <;> rfl
end Go.Proofs.YtdkiopajilakcaaGreatDoor
/- The walk over field.first: the field that bytes begin with. -/
namespace Go.Proofs.YtdkiopajilakcaaGreatDoor
open Go.RowKit

theorem bcell {W w1 : World} (hb : Below W.heap.size W w1) : (∀ b o, b < W.heap.size → w1.cell? ⟨b, o, none⟩ = W.cell? ⟨b, o, none⟩) ∧ (∀ b o, b < W.heap.size → w1.frozen? ⟨b, o, none⟩ = W.frozen? ⟨b, o, none⟩) :=
  ⟨fun b o h => hb.cell (p := ⟨b, o, none⟩) h, fun b o h => hb.frozen (p := ⟨b, o, none⟩) h⟩

theorem own_same {w w' : World} {base e size n : Nat} {v : Value} {xs : List Value} (h : w.ownsRow base e size v n xs) (hk : ∀ g, base ≤ g → w'.heap[g]? = w.heap[g]?) : w'.ownsRow base e size v n xs := by
  refine ⟨h.1, ?_⟩
  rcases h.2 with hn | ⟨g, cap, cur, rfl, hb, hg, rest⟩
  · exact .inl hn
  · exact .inr ⟨g, cap, cur, rfl, hb, (hk g hb).trans hg, rest⟩
theorem own_holds {w : World} {base e n c : Nat} {A : Option Addr} {l : List Nat} (h : w.ownsRow base e 1 (.slice A n c) n (bvs l)) (hs : ∀ x ∈ l, x < 256) : n ≤ c ∧ Holds w w.heap.size A n l := by
  obtain ⟨A', c', h1, h2, _, h3⟩ := Holds.of_own h hs
  injection h1 with e1 e2 e3
  subst e1 e3
  exact ⟨h2, h3⟩

theorem own_base {w : World} {base base' e size n : Nat} {v : Value} {xs : List Value} (h : w.ownsRow base e size v n xs) (hb : base' ≤ base) : w.ownsRow base' e size v n xs := by
  refine ⟨h.1, ?_⟩
  rcases h.2 with hn | ⟨g, cap, cur, rfl, hg, rest⟩
  · exact .inl hn
  · exact .inr ⟨g, cap, cur, rfl, by omega, rest⟩
def FdOwn (w : World) (base : Nat) (f : Fd) : Prop :=
  (-9223372036854775808 ≤ f.num ∧ f.num < 9223372036854775808) ∧ f.v < 18446744073709551616 ∧ (∀ x ∈ f.b, x < 256) ∧ w.ownsRow base 5 1 (.slice f.a f.n f.c) f.n (bvs f.b)
theorem FdOwn.ok {w : World} {base : Nat} {f : Fd} (h : FdOwn w base f) : f.ok w w.heap.size := ⟨h.1, h.2.1, (own_holds h.2.2.2 h.2.2.1).1, (own_holds h.2.2.2 h.2.2.1).2⟩
theorem FdOwn.base {w : World} {base base' : Nat} {f : Fd} (h : FdOwn w base f) (hb : base' ≤ base) : FdOwn w base' f := ⟨h.1, h.2.1, h.2.2.1, own_base h.2.2.2 hb⟩
theorem FdOwn.below {w w' : World} {base : Nat} {f : Fd} (h : FdOwn w base f) (hb : Below w.heap.size w w') : FdOwn w' base f := ⟨h.1, h.2.1, h.2.2.1, own_below h.2.2.2 hb⟩
theorem FdOwn.kept {w w' : World} {base base' e size n : Nat} {v : Value} {xs : List Value} {f : Fd} (h : FdOwn w base f) (ho : w.ownsRow base' e size v n xs) (hg : w.grownBy w' v.ownBlock) (hne : e ≠ 5) : FdOwn w' base f := by
  refine ⟨h.1, h.2.1, h.2.2.1, h.2.2.2.kept hg ?_⟩
  rcases h.2.2.2.2 with ⟨h1, _⟩ | ⟨g, cap, cur, h1, _, hh, _⟩
  · left
    rw [h1]
    rfl
  · right
    rw [h1]
    rcases ho.2 with ⟨rfl, _⟩ | ⟨g', cap', cur', rfl, _, hh', _⟩
    · simp [Value.ownBlock]
    · simp only [Value.ownBlock]
      intro e2
      obtain rfl := Option.some.inj e2
      rw [hh] at hh'
      simp only [Option.some.injEq, Obj.cells.injEq] at hh'
      exact hne hh'.2.1.symm

theorem own_text {w w' : World} {base n c h : Nat} {A : Option Addr} {l : List Nat} (ho : w.ownsRow base 5 1 (.slice A n c) n (bvs l)) (hs : ∀ x ∈ l, x < 256) (hh : h < 9223372036854775808)
    (hk : ∀ g, base ≤ g → w'.heap[g]? = w.heap[g]?) : FdOwn w' base ⟨h, true, 0, A, n, c, l⟩ :=
  ⟨⟨by show (-9223372036854775808 : Int) ≤ (h : Int); omega, by show (h : Int) < 9223372036854775808; omega⟩, by show 0 < 18446744073709551616; omega, hs, own_same ho hk⟩
theorem own_plain {w : World} {base h V : Nat} (hh : h < 9223372036854775808) (hV : V < 18446744073709551616) : FdOwn w base ⟨h, false, V, none, 0, 0, []⟩ :=
  ⟨⟨by show (-9223372036854775808 : Int) ≤ (h : Int); omega, by show (h : Int) < 9223372036854775808; omega⟩, hV, by simp, World.ownsRow_nil _ _ _ _⟩

def Fd.pf (f : Fd) : PF := (f.num, f.text, f.v, f.b)
def fz : Fd := ⟨0, false, 0, none, 0, 0, []⟩
theorem fz_own (w : World) (B : Nat) : FdOwn w B fz := ⟨⟨by decide, by decide⟩, by decide, by simp [fz], World.ownsRow_nil _ _ _ _⟩

def FirstIs (w : World) (l : List Nat) (e : Ending) (w' : World) : Prop :=
  ∃ f : Fd, e = .returned (.tuple #[.agg #[.int .i64 f.num, .bool f.text, .int .u64 f.v, .slice f.a f.n f.c], .int .i64 ((pfirst l).2.2 : Nat), .int .i64 ((pfirst l).1 : Nat)]) ∧ f.pf = (pfirst l).2.1 ∧ FdOwn w' w.heap.size f ∧ Below w.heap.size w w'

theorem firstIs_err {w w' : World} {l : List Nat} {e : Nat} (h : pfirst l = (e, pz, 0)) (hb : Below w.heap.size w w') : FirstIs w l (.returned (.tuple #[.agg #[.int .i64 0, .bool false, .int .u64 0, .slice none 0 0], .int .i64 0, .int .i64 (e : Int)])) w' :=
  ⟨fz, by rw [h]; rfl, by rw [h]; rfl, fz_own _ _, hb⟩

theorem get_is (A : Option Addr) (n c B : Nat) (l : List Nat) (x k : Nat) (y : Nat) (w : World) (hl : Holds w B A n l) (hn : n ≤ 1099511627000) (h : num l 0 0 = (x, k, y)) :
    Calls Tryz.prog 110 #[.slice A n c] w fun e w' => e = .returned (.tuple #[.int .u64 x, .int .i64 k, .int .i64 y]) ∧ w = w' :=
  (get_any A n c B l w hl hn).mono fun e w' ⟨he, hw⟩ => ⟨by rw [he, h], hw⟩

section
variable {l : List Nat} {K m V z e : Nat}
theorem pfirst_1 (h : num l 0 0 = (K, m, e)) (he : e ≠ 0) : pfirst l = (e, pz, 0) := by
  unfold pfirst
  simp only [h]
  rw [if_pos he]
theorem pfirst_2 (h : num l 0 0 = (K, m, 0)) (hk : K / 2 < 1 ∨ 1000 < K / 2) : pfirst l = (4, pz, 0) := by
  unfold pfirst
  simp only [h]
  rw [if_neg (by simp), if_pos hk]
theorem pfirst_3 (h : num l 0 0 = (K, m, 0)) (hk : ¬ (K / 2 < 1 ∨ 1000 < K / 2)) (h2 : num (l.drop m) 0 0 = (V, z, e)) (he : e ≠ 0) : pfirst l = (e, pz, 0) := by
  unfold pfirst
  simp only [h, h2]
  rw [if_neg (by simp), if_neg hk, if_pos he]
theorem pfirst_4 (h : num l 0 0 = (K, m, 0)) (hk : ¬ (K / 2 < 1 ∨ 1000 < K / 2)) (h2 : num (l.drop m) 0 0 = (V, z, 0)) (hr : K % 2 = 0) : pfirst l = (0, (((K / 2 : Nat) : Int), false, V, []), m + z) := by
  unfold pfirst
  simp only [h, h2]
  rw [if_neg (by simp), if_neg hk, if_neg (by simp), if_pos hr]
theorem pfirst_5 (h : num l 0 0 = (K, m, 0)) (hk : ¬ (K / 2 < 1 ∨ 1000 < K / 2)) (h2 : num (l.drop m) 0 0 = (V, z, 0)) (hr : ¬ K % 2 = 0) (hv : l.length - (m + z) < V) : pfirst l = (3, pz, 0) := by
  unfold pfirst
  simp only [h, h2]
  rw [if_neg (by simp), if_neg hk, if_neg (by simp), if_neg hr, if_pos hv]
theorem pfirst_6 (h : num l 0 0 = (K, m, 0)) (hk : ¬ (K / 2 < 1 ∨ 1000 < K / 2)) (h2 : num (l.drop m) 0 0 = (V, z, 0)) (hr : ¬ K % 2 = 0) (hv : ¬ l.length - (m + z) < V) :
    pfirst l = (0, (((K / 2 : Nat) : Int), true, 0, (l.drop (m + z)).take V), m + z + V) := by
  unfold pfirst
  simp only [h, h2]
  rw [if_neg (by simp), if_neg hk, if_neg (by simp), if_neg hr, if_neg hv]
end

set_option maxHeartbeats 2000000 in
set_option maxRecDepth 100000 in
theorem first_any (A : Option Addr) (n c B : Nat) (l : List Nat) (w : World) (hl : Holds w B A n l) (hB : B ≤ w.heap.size) (hn : n ≤ 1099511627000) (hc : n ≤ c) :
    Calls Tryz.prog 81 #[.slice A n c] w (FirstIs w l) := by
  have HL := hide hl
  have HS := hide hl.2.1
  have hlen := hide hl.1
  clear hl
  obtain ⟨⟨K, m, e1⟩, hnum⟩ : ∃ q, num l 0 0 = q := ⟨_, rfl⟩
  have HN := hide hnum
  by_cases h1 : e1 = 0
  · subst h1
    obtain ⟨q1, q2, q3⟩ := num_ok HS.out hnum
    have hm : m ≤ n := by
      have := (num_bound l 0 0).1
      rw [hnum] at this
      have := hlen.out
      simp only at *
      omega
    have hm1 : 1 ≤ m := by rw [q1]; exact (enc_len K).1
    obtain ⟨h, hh⟩ : ∃ h, h = K / 2 := ⟨_, rfl⟩
    have hq : (K : Int) / 2 = (h : Int) := by omega
    have hh0 : h < 9223372036854775808 := by omega
    have HK := hide hh
    have Q3 := hide q3
    clear hnum hh q1 q2 q3
    by_cases h2 : h < 1 ∨ 1000 < h
    · have hr := hide (pfirst_2 HN.out (by rw [← HK.out]; exact h2))
      go_enter Tryz.func81, Tryz.ntmps81
      go_wp2_with (fail)
      refine (get_is A n c _ l K m 0 _ (HL.out.below ((Below.refl _ _).alloc hB _)) (by omega) HN.out).mono ?_
      rintro e w1 ⟨rfl, rfl⟩
      go_wp2
      all_goals exact bodyPost_ret (v := .tuple #[.agg #[.int .i64 0, .bool false, .int .u64 0, .slice none 0 0], .int .i64 0, .int .i64 4]) (by simp [results, Tryz.results81, go_sem]) rfl (firstIs_err (e := 4) hr.out (((Below.refl _ _).alloc (Nat.le_refl _) _)))
    · have H2 := hide h2
      obtain ⟨hh1, hh2⟩ : 1 ≤ h ∧ h ≤ 1000 := by omega
      clear h2
      obtain ⟨A', hA', hsl⟩ := cut_from A n c m hm
      have HL2 := hide (HL.out.drop hm hc A' hA')
      have Hsl := hide hsl
      have HS2 : Hid (∀ x ∈ l.drop m, x < 256) := fun x hx => HS.out x (List.mem_of_mem_drop hx)
      obtain ⟨⟨V, z, e2⟩, hnum2⟩ : ∃ q, num (l.drop m) 0 0 = q := ⟨_, rfl⟩
      have HN2 := hide hnum2
      clear hA' hsl
      by_cases h3 : e2 = 0
      · subst h3
        obtain ⟨q1, q2, q3⟩ := num_ok HS2.out hnum2
        have hz : m + z ≤ n := by
          have := (num_bound (l.drop m) 0 0).1
          rw [hnum2] at this
          have := hlen.out
          simp only [List.length_drop] at *
          omega
        have Q4 := hide q3
        clear hnum2 q1 q2 q3
        by_cases h4 : K % 2 = 0
        · have hr := hide (pfirst_4 HN.out (by rw [← HK.out]; exact H2.out) HN2.out h4)
          have hand : bits .and .u64 (K : Int) 1 = 0 := by rw [u64_low1 K Q3.out, h4]; rfl
          clear h4
          have hsl := Hsl.out
          go_enter Tryz.func81, Tryz.ntmps81
          go_wp2_with (fail)
          refine (get_is A n c _ l K m 0 _ (HL.out.below ((Below.refl _ _).alloc hB _)) (by omega) HN.out).mono ?_
          rintro e w1 ⟨rfl, rfl⟩
          go_wp2_with (fail)
          refine (get_is A' (n - m) (c - m) _ (l.drop m) V z 0 _ (HL2.out.below ((Below.refl _ _).alloc hB _)) (by omega) HN2.out).mono ?_
          rintro e w1 ⟨rfl, rfl⟩
          go_wp2
          exact bodyPost_ret (v := .tuple #[.agg #[.int .i64 h, .bool false, .int .u64 V, .slice none 0 0], .int .i64 ((m : Int) + z), .int .i64 0]) (by simp [results, Tryz.results81, go_sem]) rfl
            ⟨⟨h, false, V, none, 0, 0, []⟩, by rw [hr.out]; rfl, by rw [hr.out, ← HK.out]; rfl, own_plain hh0 Q4.out, by
              go_grown⟩
        · have H4 := hide h4
          have hand : bits .and .u64 (K : Int) 1 = 1 := by rw [u64_low1 K Q3.out, show K % 2 = 1 from by omega]; rfl
          clear h4
          by_cases h5 : n - (m + z) < V
          · have hr := hide (pfirst_5 HN.out (by rw [← HK.out]; exact H2.out) HN2.out H4.out (by rw [hlen.out]; exact h5))
            have hV : (n : Int) - ((m : Int) + z) < (V : Int) := by omega
            have hsl := Hsl.out
            clear h5
            go_enter Tryz.func81, Tryz.ntmps81
            go_wp2_with (fail)
            refine (get_is A n c _ l K m 0 _ (HL.out.below ((Below.refl _ _).alloc hB _)) (by omega) HN.out).mono ?_
            rintro e w1 ⟨rfl, rfl⟩
            go_wp2_with (fail)
            refine (get_is A' (n - m) (c - m) _ (l.drop m) V z 0 _ (HL2.out.below ((Below.refl _ _).alloc hB _)) (by omega) HN2.out).mono ?_
            rintro e w1 ⟨rfl, rfl⟩
            go_wp2
            exact bodyPost_ret (v := .tuple #[.agg #[.int .i64 0, .bool false, .int .u64 0, .slice none 0 0], .int .i64 0, .int .i64 3]) (by simp [results, Tryz.results81, go_sem]) rfl (firstIs_err (e := 3) hr.out (((Below.refl _ _).alloc (Nat.le_refl _) _).alloc (by simp) _))
          · have hr := hide (pfirst_6 HN.out (by rw [← HK.out]; exact H2.out) HN2.out H4.out (by rw [hlen.out]; exact h5))
            have hV : (V : Int) ≤ (n : Int) - ((m : Int) + z) := by omega
            have hsl := Hsl.out
            clear h5
            obtain ⟨E, hE⟩ : ∃ E : Nat, E = m + z + V := ⟨_, rfl⟩
            obtain ⟨S, hS⟩ : ∃ S : Nat, S = m + z := ⟨_, rfl⟩
            have e1 : (m : Int) + (z : Int) = (S : Int) := by omega
            have e2 : (S : Int) + (V : Int) = (E : Int) := by omega
            have eV : E - S = V := by omega
            have hSE : S ≤ E ∧ E ≤ n := by omega
            obtain ⟨A2, hA2, hsl2⟩ := cut_mid A n c S E hSE.1 (by omega)
            have HL3 := hide (HL.out.mid hSE.1 hSE.2 hc hA2)
            have HS' := hide hS
            have HE' := hide hE
            have EV := hide eV
            have hSle : S ≤ n := by omega
            have hVS : (V : Int) ≤ (n : Int) - (S : Int) := by omega
            clear hA2 hS hE hV eV
            go_enter Tryz.func81, Tryz.ntmps81
            go_wp2_with (fail)
            refine (get_is A n c _ l K m 0 _ (HL.out.below ((Below.refl _ _).alloc hB _)) (by omega) HN.out).mono ?_
            rintro e w1 ⟨rfl, rfl⟩
            go_wp2_with (fail)
            refine (get_is A' (n - m) (c - m) _ (l.drop m) V z 0 _ (HL2.out.below ((Below.refl _ _).alloc hB _)) (by omega) HN2.out).mono ?_
            rintro e w1 ⟨rfl, rfl⟩
            go_wp2_with (fail)
            refine (clone_any A2 (E - S) (c - S) B _ _ (HL3.out.below ((((Below.refl _ _).alloc hB _)).alloc (by simp; omega) _)) (by simp; omega) (by omega)).mono ?_
            rintro e w2 ⟨A3, n3, c3, rfl, o3, hh3, hc3, b3⟩
            have O3 := hide o3
            have B3 := hide b3
            obtain ⟨hc, hf⟩ := bcell b3
            have hz : w.heap.size + 1 < w2.heap.size := by have := b3.size; simp at this; omega
            have hz0 : w.heap.size < w2.heap.size := by omega
            have r0 : w2.cell? ⟨w.heap.size, 0, none⟩ = some (.int .i64 0) := by rw [hc _ _ (by simp; omega)]; go_simp
            have r1 : w2.cell? ⟨w.heap.size, 1, none⟩ = some (.bool false) := by rw [hc _ _ (by simp; omega)]; go_simp
            have r2 : w2.cell? ⟨w.heap.size, 2, none⟩ = some (.int .u64 0) := by rw [hc _ _ (by simp; omega)]; go_simp
            have r3 : w2.cell? ⟨w.heap.size, 3, none⟩ = some (.slice none 0 0) := by rw [hc _ _ (by simp; omega)]; go_simp
            clear o3 hh3 b3
            go_wp2
            exact bodyPost_ret (v := .tuple #[.agg #[.int .i64 h, .bool true, .int .u64 0, .slice A3 n3 c3], .int .i64 E, .int .i64 0]) (by simp [results, Tryz.results81, go_sem, r0, r1, r2, r3]) rfl
              ⟨⟨h, true, 0, A3, n3, c3, _⟩, by rw [hr.out, ← HE'.out]; rfl, by rw [hr.out, ← HK.out, ← HS'.out, ← EV.out]; rfl, (own_text O3.out (fun x hx => HS.out x (List.mem_of_mem_drop (List.mem_of_mem_take hx))) hh0 (fun g hg => by
                have hg' : w.heap.size + 2 ≤ g := by simpa using hg
                repeat rw [Below.heap_setCell _ _ _ _ (by simp; omega)])).base (by simp; omega), by
                have b2 : Below w.heap.size w w2 := (((Below.refl _ _).alloc (Nat.le_refl _) _).alloc (by simp) _).trans (B3.out.mono (by simp; omega))
                go_grown⟩
      · have hr := hide (pfirst_3 HN.out (by rw [← HK.out]; exact H2.out) HN2.out h3)
        have hne : ((e2 : Int) != 0) = true := by simp; omega
        have hsl := Hsl.out
        clear h3 hnum2
        go_enter Tryz.func81, Tryz.ntmps81
        go_wp2_with (fail)
        refine (get_is A n c _ l K m 0 _ (HL.out.below ((Below.refl _ _).alloc hB _)) (by omega) HN.out).mono ?_
        rintro e w1 ⟨rfl, rfl⟩
        go_wp2_with (fail)
        refine (get_is A' (n - m) (c - m) _ (l.drop m) V z e2 _ (HL2.out.below ((Below.refl _ _).alloc hB _)) (by omega) HN2.out).mono ?_
        rintro e w1 ⟨rfl, rfl⟩
        go_wp2
        exact bodyPost_ret (v := .tuple #[.agg #[.int .i64 0, .bool false, .int .u64 0, .slice none 0 0], .int .i64 0, .int .i64 e2]) (by simp [results, Tryz.results81, go_sem]) rfl (firstIs_err hr.out (((Below.refl _ _).alloc (Nat.le_refl _) _)))
  · have hr := hide (pfirst_1 HN.out h1)
    have hne : ((e1 : Int) != 0) = true := by simp; omega
    clear h1 hnum
    go_enter Tryz.func81, Tryz.ntmps81
    go_wp2_with (fail)
    refine (get_is A n c _ l K m e1 _ (HL.out.below ((Below.refl _ _).alloc hB _)) (by omega) HN.out).mono ?_
    rintro e w1 ⟨rfl, rfl⟩
    go_wp2
    exact bodyPost_ret (v := .tuple #[.agg #[.int .i64 0, .bool false, .int .u64 0, .slice none 0 0], .int .i64 0, .int .i64 e1]) (by simp [results, Tryz.results81, go_sem]) rfl (firstIs_err hr.out (((Below.refl _ _).alloc (Nat.le_refl _) _)))
end Go.Proofs.YtdkiopajilakcaaGreatDoor
/- A new block's cells. -/
namespace Go.Proofs.YtdkiopajilakcaaGreatDoor
open Go.RowKit

theorem cells_new (w : World) (cs : List Value) (t : TypeId) : ∀ j u, cs[j]? = some u → (w.alloc (.cells cs.toArray t)).cell? ((⟨w.heap.size, 0, none⟩ : Addr).add j) = some u := by
  intro j u hu
  rw [Addr.add_lit, cell_of_row _ _ _ cs.toArray t (0, 0) (by exact heap_alloc_new w _)]
  simpa using hu
end Go.Proofs.YtdkiopajilakcaaGreatDoor
/- The walk over field.Read: the fields of bytes. -/
namespace Go.Proofs.YtdkiopajilakcaaGreatDoor
open Go.RowKit

theorem first_is (A : Option Addr) (n c B : Nat) (l : List Nat) (er k : Nat) (p : PF) (w : World) (hl : Holds w B A n l) (hB : B ≤ w.heap.size) (hn : n ≤ 1099511627000) (hc : n ≤ c) (h : pfirst l = (er, p, k)) :
    Calls Tryz.prog 81 #[.slice A n c] w fun e w' =>
      ∃ f : Fd, e = .returned (.tuple #[.agg #[.int .i64 f.num, .bool f.text, .int .u64 f.v, .slice f.a f.n f.c], .int .i64 k, .int .i64 er]) ∧ f.pf = p ∧ FdOwn w' w.heap.size f ∧ Below w.heap.size w w' :=
  (first_any A n c B l w hl hB hn hc).mono fun e w' ⟨f, h1, h2, h3, h4⟩ => ⟨f, by rw [h1, h], by rw [h2, h], h3, h4⟩

def ReadIs (w : World) (q : Nat × List PF) (e : Ending) (w' : World) : Prop :=
  ∃ A n c fs, e = .returned (.tuple #[.slice A n c, .int .i64 (q.1 : Nat)]) ∧ fs.map Fd.pf = q.2 ∧ FHolds w' w'.heap.size A n fs ∧ n ≤ c ∧ Below w.heap.size w w' ∧
    w'.ownsRow w.heap.size 51 4 (.slice A n c) n (fcells fs) ∧ ∀ f ∈ fs, FdOwn w' w.heap.size f

theorem Tryz.infoFd : (Tryz.prog.info? 51).map (fun i => (i.zero, i.size, i.bytes)) = some (some (.agg #[.int .i64 0, .bool false, .int .u64 0, .slice none 0 0]), 4, 48) := by kernel_rfl

theorem own_below_any {w w1 : World} {base e size n : Nat} {v : Value} {xs : List Value} (ho : w.ownsRow base e size v n xs) (hb : Below w.heap.size w w1) : w1.ownsRow base e size v n xs :=
  ho.kept (Went.of_below hb none).1 (by cases h : v.ownBlock <;> simp)

theorem holds_nil {w : World} {B n : Nat} {A : Option Addr} {l : List Nat} (h : Holds w B A n l) (hn : ¬ 0 < n) : l = [] := List.eq_nil_of_length_eq_zero (by have := h.1; omega)

def lenV : Value → Nat
  | .slice _ n _ => n
  | _ => 0

def ReadAt (w : World) (n : Nat) (l : List Nat) (b v : Value) (wr : World) : Prop :=
  ∃ A' n' c' done rest, b = .slice A' n' c' ∧ n' ≤ c' ∧ Holds wr w.heap.size A' n' rest ∧ readOn (done.map Fd.pf) (pread rest) = pread l ∧
    wr.ownsRow w.heap.size 51 4 v done.length (fcells done) ∧ (∀ f ∈ done, FdOwn wr w.heap.size f) ∧ done.length + n' ≤ n ∧ Below w.heap.size w wr

set_option maxHeartbeats 1000000 in
set_option maxRecDepth 100000 in
theorem read_any (A : Option Addr) (n c : Nat) (l : List Nat) (w : World) (hl : Holds w w.heap.size A n l) (hn : n ≤ 1099511627000) (hc : n ≤ c) :
    Calls Tryz.prog 41 #[.slice A n c] w (ReadIs w (pread l)) := by
  obtain ⟨i0, hi, hz0, hz1, hz2⟩ := info_parts Tryz.infoFd
  have HS := hide hl.2.1
  have H0 : Hid (ReadAt w n l (.slice A n c) (.slice none 0 0) w) := ⟨A, n, c, [], l, rfl, hc, hl, (readOn_start l).symm, by simpa [fcells] using World.ownsRow_nil _ _ _ _, by simp, by simp, Below.refl _ _⟩
  clear hl
  go_enter Tryz.func41, Tryz.ntmps41
  go_wp2
  go_loopw [0, 4] (fun b v wr => ReadAt w n l b v wr) (fun b _ _ => lenV b)
  case atStart => exact H0.out
  case round =>
    obtain ⟨A1, n1, c1, done, rest, rfl, hc1, hh, hread, hown, hoks, hcnt, hbel⟩ := hrel
    have HH := hide hh
    have HR := hide hread
    have Hown := hide hown
    have Hoks := hide hoks
    have hsz := hbel.size
    clear hh hread hown hoks H0
    by_cases hlt : 0 < n1
    · have hne : rest ≠ [] := by
        intro h
        have := HH.out.1
        rw [h] at this
        simp at this
        omega
      have Hne := hide hne
      clear hne
      obtain ⟨⟨er, p, k⟩, hp⟩ : ∃ q, pfirst rest = q := ⟨_, rfl⟩
      have HP := hide hp
      by_cases her : er = 0
      · subst her
        have h3 := (pfirst_ok rest HH.out.2.1 (by rw [hp])).2.2
        rw [hp] at h3
        simp only at h3
        have hk0 : 0 < k := h3.1
        have hkn : k ≤ n1 := by have := HH.out.1; omega
        obtain ⟨A2, hA2, hsl⟩ := cut_from A1 n1 c1 k hkn
        have HH2 := hide (HH.out.drop hkn hc1 A2 hA2)
        clear hp h3 hA2
        go_wp2_with (fail)
        refine (first_is A1 n1 c1 _ rest 0 k p _ HH.out hsz (by omega) hc1 HP.out).mono ?_
        rintro e w1 ⟨⟨num, text, v, a, fn, fc, fb⟩, rfl, hpf, hfo, hb1⟩
        have Hpf := hide hpf
        have Hfo := hide hfo
        have Hb1 := hide hb1
        have O1 := hide (own_below_any Hown.out hb1)
        have s1 := hb1.size
        simp only
        clear hpf hfo hb1
        go_wp2_with (at_builtin; refine wpList_append_own_at _ rfl (.tmp 20) (.tmp 22) 71 rfl w.heap.size 51 i0 _ 4 48 Tryz.underlying71 hi hz0 hz1 hz2 rfl (by omega) _ done.length (fcells done) rfl ((O1.out.alloc _).alloc _) ⟨w1.heap.size + 1, 0, none⟩ 1 1 [.int .i64 num, .bool text, .int .u64 v, .slice a fn fc] rfl rfl (by have := cells_new (w1.alloc (.cells #[.int .i64 num, .bool text, .int .u64 v, .slice a fn fc] 51)) [.int .i64 num, .bool text, .int .u64 v, .slice a fn fc] 51; rw [World.size_alloc] at this; exact this) (by intro u hu; simp at hu; rcases hu with rfl | rfl | rfl | rfl <;> rfl) (by simp only [maxLen]; omega) (by omega) (by simp; omega) ?_; intro v2 w2 o2 g2 _ _)
        have O2 := hide o2
        have G2 := hide g2
        clear o2 g2
        go_roundw
        case rel =>
          have b1 : Below w1.heap.size w1 ((w1.alloc (.cells #[.int .i64 num, .bool text, .int .u64 v, .slice a fn fc] 51)).alloc (.cells #[.int .i64 num, .bool text, .int .u64 v, .slice a fn fc] 51)) := ((Below.refl _ _).alloc (Nat.le_refl _) _).alloc (by simp) _
          have b2 : Below w.heap.size wr w2 := ((Hb1.out.mono hsz).trans (b1.mono (by omega))).trans ((Below.refl _ _).grown G2.out (by simp; omega) fun g hg => (O1.out.lt g hg).1)
          refine ⟨A2, n1 - k, c1 - k, done ++ [⟨num, text, v, a, fn, fc, fb⟩], rest.drop k, rfl, by omega, HH2.out.below b2, ?_, ?_, ?_, ?_, hbel.trans b2⟩
          · rw [← HR.out, readOn_next HH.out.2.1 _ Hne.out (by rw [HP.out]), HP.out, List.map_append, ← Hpf.out]
            rfl
          · rw [fcells_snoc, List.length_append]
            exact O2.out
          · intro f hf
            rcases List.mem_append.1 hf with hf | hf
            · exact (((Hoks.out f hf).below Hb1.out).below b1).kept ((O1.out.alloc _).alloc _) G2.out (by decide)
            · simp at hf
              subst hf
              exact ((Hfo.out.base hsz).below b1).kept ((O1.out.alloc _).alloc _) G2.out (by decide)
          · simp
            omega
        case measure => simp [lenV]; omega
      · have hnz : ((er : Int) != 0) = true := by simp; omega
        have Her := hide her
        clear hp her
        go_wp2_with (fail)
        refine (first_is A1 n1 c1 _ rest er k p _ HH.out hsz (by omega) hc1 HP.out).mono ?_
        rintro e w1 ⟨⟨num, text, v, a, fn, fc, fb⟩, rfl, _, _, hb1⟩
        have Hb1 := hide hb1
        simp only
        clear hb1
        go_wp2
        go_ret2
        have hr : pread l = (er, []) := by
          rw [← HR.out, readOn_err HH.out.2.1 _ Hne.out (by rw [HP.out]; exact Her.out), HP.out]
        exact ⟨none, 0, 0, [], by rw [hr]; rfl, by rw [hr]; rfl, ⟨rfl, by simp, fun h => by omega⟩, Nat.le_refl _, hbel.trans (((Hb1.out.mono hsz)).trans ((Below.refl _ _).alloc (by have := Hb1.out.size; omega) _)), by simpa [fcells] using World.ownsRow_nil _ _ _ _, by simp⟩
    · have hnil := holds_nil HH.out hlt
      have hr : pread l = (0, done.map Fd.pf) := by rw [← HR.out, hnil, readOn_end]
      obtain ⟨A', c', hv, h1, h2⟩ := FHolds.of_own Hown.out fun f hf => (Hoks.out f hf).ok
      have HRR := hide hr
      have H2 := hide h2
      clear hr hnil h2
      subst hv
      go_wp2
      go_ret2
      exact ⟨A', done.length, c', done, by rw [HRR.out]; rfl, by rw [HRR.out], H2.out, h1, hbel, Hown.out, Hoks.out⟩
end Go.Proofs.YtdkiopajilakcaaGreatDoor
/- The walk over field.Good. -/
namespace Go.Proofs.YtdkiopajilakcaaGreatDoor
open Go.RowKit

set_option maxHeartbeats 400000 in
theorem nt_good_any (f : Fd) (w : World) :
    Calls Tryz.prog 126 #[.agg #[.int .i64 f.num, .bool f.text, .int .u64 f.v, .slice f.a f.n f.c]] w fun e w' => e = .returned (.bool f.good) ∧ Below w.heap.size w w' := by
  obtain ⟨num, text, v, a, n, c, b⟩ := f
  go_enter Tryz.func126, Tryz.ntmps126
  go_wp2
  · go_ret
    exact ⟨ret_bool (Fd.good_not (by simp only; omega)), (Below.refl _ _).alloc (Nat.le_refl _) _⟩
  · go_ret
    exact ⟨ret_bool (Fd.good_text (f := ⟨num, text, v, a, n, c, b⟩) (by simp only; omega) (by simp only; omega) (by assumption)), (Below.refl _ _).alloc (Nat.le_refl _) _⟩
  · go_ret
    exact ⟨ret_bool (Fd.good_num (f := ⟨num, text, v, a, n, c, b⟩) (by simp only; omega) (by simp only; omega) (by assumption)), (Below.refl _ _).alloc (Nat.le_refl _) _⟩
  · go_ret
    exact ⟨ret_bool (Fd.good_not (by simp only; omega)), (Below.refl _ _).alloc (Nat.le_refl _) _⟩
theorem good_is (f : Fd) (b : Bool) (h : f.good = b) (w : World) :
    Calls Tryz.prog 126 #[.agg #[.int .i64 f.num, .bool f.text, .int .u64 f.v, .slice f.a f.n f.c]] w fun e w' => e = .returned (.bool b) ∧ Below w.heap.size w w' :=
  (nt_good_any f w).mono fun _ _ ⟨he, hb⟩ => ⟨by rw [he, h], hb⟩
end Go.Proofs.YtdkiopajilakcaaGreatDoor
/- The walks over field.record and field.Write: the bytes of the good fields, one behind the other. -/
namespace Go.Proofs.YtdkiopajilakcaaGreatDoor
open Go.RowKit

set_option maxHeartbeats 1000000 in
set_option maxRecDepth 100000 in
theorem record_any (A : Option Addr) (n c : Nat) (fs : List Fd) (w : World) (hf : FHolds w w.heap.size A n fs) (hroom : room fs ≤ 1099511627000) (hn : n ≤ 1099511627000) :
    Calls Tryz.prog 99 #[.slice A n c] w fun e w' => ∃ v m, e = .returned v ∧ w'.ownsRow w.heap.size 5 1 v m (bvs (recOf fs)) ∧ Below w.heap.size w w' := by
  obtain ⟨i0, hi, hz0, hz1, hz2⟩ := info_parts Tryz.infoU8
  have HF := hide hf
  clear hf
  go_enter Tryz.func99, Tryz.ntmps99
  go_wp2
  go_loopw [3, 9] (fun s i wr => ∃ k m : Nat, k ≤ n ∧ i = .int .i64 k ∧ wr.ownsRow w.heap.size 5 1 s m (bvs (recOf (fs.take k))) ∧ Below w.heap.size w wr) (fun _ i _ => n - (Go.RowKit.intOf i).toNat)
  case atStart => exact ⟨0, 0, by omega, rfl, by simpa [recOf, bvs] using World.ownsRow_nil _ _ _ _, Below.refl _ _⟩
  case round =>
    obtain ⟨k, m, hk, rfl, hown, hbel⟩ := hrel
    by_cases hlt : k < n
    · obtain ⟨f, b, off, hfk, hok, rfl, hbB, c0, c1, c2, c3, htk⟩ := (HF.out.below hbel).at_ hlt
      obtain ⟨num, text, v, a, fn, fc, fb⟩ := f
      simp only at c0 c1 c2 c3
      have Htk := hide htk
      clear hfk htk
      have hsz := hbel.size
      have hrec := HF.out.lens
      have Hm : Hid (m ≤ 1099511627000) := by
        have h1 := recOf_len (fs.take k) fun g hg => hrec g (List.mem_of_mem_take hg)
        have h2 := room_take fs k
        have h3 := hown.1
        rw [bvs_len] at h3
        show m ≤ _
        omega
      have hfn : fn ≤ 1099511627000 ∧ m + 20 + fn ≤ 1099511627000 := by
        have h1 := recOf_len (fs.take k) fun g hg => hrec g (List.mem_of_mem_take hg)
        have h2 := room_take fs (k + 1)
        rw [Htk.out, room_snoc] at h2
        have h3 := hown.1
        rw [bvs_len] at h3
        simp only at h2
        omega
      have hf1 := hfn.1
      have hf2 := hfn.2
      have Hrs : Hid (recOf (fs.take (k + 1)) = recOf (fs.take k) ++ Fd.bytes ⟨num, text, v, a, fn, fc, fb⟩) := by
        show _ = _
        rw [Htk.out, recOf_snoc]
      clear hrec hfn
      by_cases hgood : Fd.good ⟨num, text, v, a, fn, fc, fb⟩ = true
      · obtain ⟨hn1, hn2⟩ := Fd.good_range hgood
        simp only at hn1 hn2
        have Hg := hide hgood
        have hv64 := hide hok.2.1
        have hB := hok.2.2.2
        have HB := hide (show Holds wr w.heap.size a fn fb from hB)
        clear hgood hok hB
        have hkey := u64_odd_int num (by omega) (by omega)
        have b1 := enc_len (num * 2 + 1).toNat
        have b2 := enc_len ((fn : Int)).toNat
        have b3 := enc_len (num * 2).toNat
        cases text with
        | true =>
          go_wp2_with (fail)
          refine (good_is ⟨num, true, v, a, fn, fc, fb⟩ true Hg.out _).mono ?_
          rintro e w1 ⟨rfl, hb1⟩
          have B1 := hide ((Box.new wr 51 (.int .i64 num) (.bool true) (.int .u64 v) (.slice a fn fc)).below hb1 (by simp))
          obtain ⟨d0, d1, d2, d3⟩ := B1.out.cell
          have o1 := own_below (hown.alloc _) hb1
          have s1 := hb1.size
          simp at s1
          go_wp2_with (fail)
          refine (put_int w.heap.size m (num * 2 + 1) _ (recOf (fs.take k)) _ (by omega) (by omega) (by omega) (by omega) o1).mono ?_
          rintro e w2 ⟨v2, rfl, o2, g2⟩
          have B2 := hide (B1.out.went g2 o1 (by decide))
          obtain ⟨e0, e1, e2, e3⟩ := B2.out.cell
          clear d0 d1 d2 d3
          have s2 := g2.size
          go_wp2_with (fail)
          refine (put_int w.heap.size (m + (enc (num * 2 + 1).toNat).length) (fn : Int) _ _ _ (by omega) (by omega) (by omega) (by omega) o2).mono ?_
          rintro e w3 ⟨v3, rfl, o3, g3⟩
          have B3 := hide (B2.out.went g3 o2 (by decide))
          obtain ⟨f0, f1, f2, f3⟩ := B3.out.cell
          clear e0 e1 e2 e3
          have s3 := g3.size
          have l3 : Below w.heap.size wr w3 := (((Below.refl _ _).alloc hsz _).trans (hb1.mono (by simp; omega))).trans ((g2.below o1 (by omega)).trans (g3.below o2 (by omega)))
          go_wp2_with (at_builtin; refine wpList_append_bytes _ rfl (.tmp 32) (.tmp 34) 28 rfl w.heap.size 5 i0 (.int .u8 0) Tryz.underlying28 hi hz0 hz1 hz2 rfl v3 (m + (enc (num * 2 + 1).toNat).length + (enc ((fn : Int)).toNat).length) _ rfl o3 w.heap.size a fn fc fb rfl (HB.out.below l3) (by omega) (by omega) ?_; intro v4 w4 o4 g4)
          go_roundw
          case rel =>
            refine ⟨k + 1, m + (enc (num * 2 + 1).toNat).length + (enc ((fn : Int)).toNat).length + fn, by omega, by go_num, ?_, (hbel.trans l3).trans (g4.below o3 (by omega))⟩
            rw [Hrs.out, bytes_text Hg.out rfl]
            rw [← bvs_append] at o4
            rw [show 2 * num.toNat + 1 = (num * 2 + 1).toNat from by omega]
            simpa using o4
          case measure => simp [Go.RowKit.intOf]; omega
        | false =>
          go_wp2_with (fail)
          refine (good_is ⟨num, false, v, a, fn, fc, fb⟩ true Hg.out _).mono ?_
          rintro e w1 ⟨rfl, hb1⟩
          have B1 := hide ((Box.new wr 51 (.int .i64 num) (.bool false) (.int .u64 v) (.slice a fn fc)).below hb1 (by simp))
          obtain ⟨d0, d1, d2, d3⟩ := B1.out.cell
          have o1 := own_below (hown.alloc _) hb1
          have s1 := hb1.size
          simp at s1
          go_wp2_with (fail)
          refine (put_int w.heap.size m (num * 2) _ (recOf (fs.take k)) _ (by omega) (by omega) (by omega) (by omega) o1).mono ?_
          rintro e w2 ⟨v2, rfl, o2, g2⟩
          have B2 := hide (B1.out.went g2 o1 (by decide))
          obtain ⟨e0, e1, e2, e3⟩ := B2.out.cell
          clear d0 d1 d2 d3
          have s2 := g2.size
          go_wp2_with (fail)
          refine (put_any w.heap.size (m + (enc (num * 2).toNat).length) v _ _ _ hv64.out (by omega) (by omega) o2).mono ?_
          rintro e w3 ⟨v3, rfl, o3, g3⟩
          have l3 : Below w.heap.size wr w3 := (((Below.refl _ _).alloc hsz _).trans (hb1.mono (by simp; omega))).trans ((g2.below o1 (by omega)).trans (g3.below o2 (by omega)))
          go_wp2
          go_roundw
          case rel =>
            refine ⟨k + 1, m + (enc (num * 2).toNat).length + (enc v).length, by omega, by go_num, ?_, hbel.trans l3⟩
            rw [Hrs.out, bytes_num Hg.out rfl]
            rw [show 2 * num.toNat = (num * 2).toNat from by omega]
            simpa using o3
          case measure => simp [Go.RowKit.intOf]; omega
      · have Hg := hide (show Fd.good ⟨num, text, v, a, fn, fc, fb⟩ = false by simpa using hgood)
        clear hgood
        go_wp2_with (fail)
        refine (good_is ⟨num, text, v, a, fn, fc, fb⟩ false Hg.out _).mono ?_
        rintro e w1 ⟨rfl, hb1⟩
        have o1 := own_below (hown.alloc _) hb1
        have l1 : Below w.heap.size wr w1 := ((Below.refl _ _).alloc hsz _).trans (hb1.mono (by simp; omega))
        go_wp2
        go_roundw
        case rel =>
          refine ⟨k + 1, m, by omega, by go_num, ?_, hbel.trans l1⟩
          rw [Hrs.out, bytes_not Hg.out]
          simpa using o1
        case measure => simp [Go.RowKit.intOf]; omega
    · have Hk : Hid (fs.take k = fs) := by
        show _ = _
        exact List.take_of_length_le (by have := HF.out.1; omega)
      go_wp2
      go_ret
      rw [Hk.out] at hown
      exact ⟨_, m, rfl, hown, hbel⟩

theorem write_any (A : Option Addr) (n c : Nat) (fs : List Fd) (w : World) (hf : FHolds w w.heap.size A n fs) (hroom : room fs ≤ 1099511627000) (hn : n ≤ 1099511627000) :
    Calls Tryz.prog 56 #[.slice A n c] w fun e w' => ∃ v m, e = .returned v ∧ w'.ownsRow w.heap.size 5 1 v m (bvs (recOf fs)) ∧ Below w.heap.size w w' := by
  have HF := hide hf
  clear hf
  go_enter Tryz.func56, Tryz.ntmps56
  go_wp2_with (go_at_call 99; refine (record_any A n c fs _ HF.out hroom hn).mono ?_; rintro e w1 ⟨v1, m, rfl, o1, b1⟩)
  go_ret
  exact ⟨v1, m, rfl, o1, b1⟩
theorem write_new (A : Option Addr) (n c : Nat) (fs : List Fd) (w : World) (hf : FHolds w w.heap.size A n fs) (hroom : room fs ≤ 1099511627000) (hn : n ≤ 1099511627000) :
    Calls Tryz.prog 56 #[.slice A n c] w (NewBytes w (recOf fs)) :=
  (write_any A n c fs w hf hroom hn).mono fun e w' ⟨v, m, he, ho, hb⟩ => by
    subst he
    exact newBytes_of ho hf.small hb
end Go.Proofs.YtdkiopajilakcaaGreatDoor
/- The walks over field.Zig and field.Zag: they only reckon, and undo each other. -/
namespace Go.Proofs.YtdkiopajilakcaaGreatDoor
open Go.RowKit

def zig (n : Int) : Nat := if n < 0 then 2 * (-n - 1).toNat + 1 else 2 * n.toNat
def zag (v : Nat) : Int := if v % 2 = 1 then -((v / 2 : Nat) : Int) - 1 else ((v / 2 : Nat) : Int)

theorem zag_zig (n : Int) : zag (zig n) = n := by
  unfold zag zig
  split <;> split <;> omega
theorem zig_lt (n : Int) (h1 : -9223372036854775808 ≤ n) (h2 : n < 9223372036854775808) : zig n < 18446744073709551616 := by
  unfold zig
  split <;> omega
theorem zag_lt (v : Nat) (h : v < 18446744073709551616) : -9223372036854775808 ≤ zag v ∧ zag v < 9223372036854775808 := by
  unfold zag
  split <;> omega

theorem zig_neg (n : Int) (h1 : -9223372036854775808 ≤ n) (h : n < 0) : bits .or .u64 (IntKind.u64.wrap (IntKind.u64.wrap (bits .xor .i64 (-1) n) * 2)) 1 = ((zig n : Nat) : Int) := by
  rw [zig_low n h1 h]
  unfold zig
  rw [if_pos h]
theorem zig_pos (n : Int) (h : 0 ≤ n) (h2 : n < 9223372036854775808) : IntKind.u64.wrap (IntKind.u64.wrap n * 2) = ((zig n : Nat) : Int) := by
  rw [zig_high n h h2]
  unfold zig
  rw [if_neg (by omega)]
theorem zag_odd (v : Nat) (h : v < 18446744073709551616) (hz : v % 2 = 1) : bits .xor .i64 (-1) (wrap64 ((v : Int) / 2)) = zag v := by
  rw [half v h, i64_turned _ (by omega) (by omega)]
  unfold zag
  rw [if_pos hz]
theorem zag_even (v : Nat) (h : v < 18446744073709551616) (hz : ¬ v % 2 = 1) : wrap64 ((v : Int) / 2) = zag v := by
  rw [half v h]
  unfold zag
  rw [if_neg hz]

set_option maxHeartbeats 400000 in
theorem zig_any (n : Int) (w : World) (h1 : -9223372036854775808 ≤ n) (h2 : n < 9223372036854775808) :
    Calls Tryz.prog 55 #[.int .i64 n] w fun e w' => e = .returned (.int .u64 (zig n)) ∧ w = w' := by
  have H1 := hide h1
  have H2 := hide h2
  by_cases hneg : n < 0
  · have H := hide hneg
    clear h1 h2
    go_enter Tryz.func55, Tryz.ntmps55
    go_wp2
    go_ret
    exact ⟨ret_int (zig_neg n H1.out H.out), rfl⟩
  · have H := hide hneg
    clear h1 h2
    go_enter Tryz.func55, Tryz.ntmps55
    go_wp2
    go_ret
    exact ⟨ret_int (zig_pos n (by have := H.out; omega) H2.out), rfl⟩

set_option maxHeartbeats 400000 in
theorem zag_any (v : Nat) (w : World) (h : v < 18446744073709551616) :
    Calls Tryz.prog 16 #[.int .u64 v] w fun e w' => e = .returned (.int .i64 (zag v)) ∧ w = w' := by
  have hand := u64_low1 v h
  obtain ⟨b, hb⟩ : ∃ b, b = v % 2 := ⟨_, rfl⟩
  rw [← hb] at hand
  have H := hide h
  have Hb := hide hb
  clear h hb
  by_cases hz : b = 1
  · have ht : ((b : Int) == 1) = true := by simp; omega
    have Hz := hide hz
    clear hz
    go_enter Tryz.func16, Tryz.ntmps16
    go_wp2
    go_ret
    exact ⟨ret_int (zag_odd v H.out (by rw [← Hb.out]; exact Hz.out)), rfl⟩
  · have ht : ((b : Int) == 1) = false := by simp; omega
    have Hz := hide hz
    clear hz
    go_enter Tryz.func16, Tryz.ntmps16
    go_wp2
    go_ret
    exact ⟨ret_int (zag_even v H.out (by rw [← Hb.out]; exact Hz.out)), rfl⟩
end Go.Proofs.YtdkiopajilakcaaGreatDoor
/- Strings of bytes: string(b), and when two are the same. -/
namespace Go.Proofs.YtdkiopajilakcaaGreatDoor
open Go.RowKit

def str (l : List Nat) : ByteArray := ⟨(l.map UInt8.ofNat).toArray⟩

theorem str_nums (l : List Nat) : strOfNums (l.map fun x : Nat => (x : Int)) = str l := by
  unfold strOfNums str
  simp

theorem run_str (w : World) (B : Nat) (A : Option Addr) (n c : Nat) (l : List Nat) (hl : Holds w B A n l) :
    (convert 28 9 (.slice A n c)).run Tryz.prog w = .ok (.string (str l)) w := by
  rcases Nat.eq_zero_or_pos n with h0 | h0
  · subst h0
    have hn : l = [] := List.eq_nil_of_length_eq_zero hl.1
    subst hn
    rw [run_convert_bytes_string w _ _ _ A 0 c Tryz.underlying28 Tryz.underlying5 Tryz.underlying9]
    cases A with
    | none => simp [Conv.bytesToString, str]; rfl
    | some a => simp [Conv.bytesToString, loadCells, loadCellsFrom, str]; rfl
  · obtain ⟨b, off, rfl, _, hc⟩ := hl.2.2 h0
    rw [← str_nums]
    exact run_convert_bytes_arg (P := Tryz.prog) w _ _ Tryz.underlying28 Tryz.underlying5 b off n c (l.map fun x : Nat => (x : Int)) (by simp [hl.1]) (fun i hi => by
      rw [hc i hi]
      have hl' : i < l.length := by rw [hl.1]; exact hi
      simp [List.getD, hl']) _ Tryz.underlying9

theorem str_toList (l : List Nat) : (str l).toList = l.map UInt8.ofNat := by
  rw [ByteArray.toList_eq]
  simp [str]
theorem str_inj {a b : List Nat} (ha : ∀ x ∈ a, x < 256) (hb : ∀ x ∈ b, x < 256) (h : str a = str b) : a = b := by
  have h1 : a.map UInt8.ofNat = b.map UInt8.ofNat := by
    have := congrArg (fun s : ByteArray => s.data.toList) h
    simpa [str] using this
  have h2 := congrArg (List.map UInt8.toNat) h1
  rw [List.map_map, List.map_map] at h2
  have e : ∀ (l : List Nat), (∀ x ∈ l, x < 256) → l.map (UInt8.toNat ∘ UInt8.ofNat) = l := by
    intro l hl
    rw [List.map_congr_left (g := id)]
    · simp
    · intro x hx
      have := hl x hx
      simp
      omega
  rwa [e a ha, e b hb] at h2
theorem str_beq (a : List Nat) : ((str a).toList == (str a).toList) = true := by simp
theorem str_bne {a b : List Nat} (ha : ∀ x ∈ a, x < 256) (hb : ∀ x ∈ b, x < 256) (h : a ≠ b) : ((str a).toList == (str b).toList) = false := by
  rw [beq_eq_false_iff_ne, ByteArray.toList_eq, ByteArray.toList_eq]
  intro h2
  exact h (str_inj ha hb (by
    have h3 : (str a).data = (str b).data := Array.toList_inj.1 h2
    cases ha' : str a
    cases hb' : str b
    rw [ha', hb'] at h3
    simp only at h3
    rw [h3]))
end Go.Proofs.YtdkiopajilakcaaGreatDoor
/- Slices whose elements take k cells each, wherever they lie: what such a slice holds, cell by cell; the blocks that it may lie in. -/
namespace Go.Proofs.YtdkiopajilakcaaGreatDoor
open Go.RowKit

def FlatAt (F : Nat → Prop) (w : World) (k : Nat) (v : Value) (n : Nat) (xs : List Value) : Prop :=
  xs.length = n * k ∧ (∀ u ∈ xs, u.oneCell' = true) ∧ ∃ A c, v = .slice A n c ∧ n ≤ c ∧ c ≤ maxLen ∧ (A = none → c = 0) ∧
    (0 < n → ∃ b off, A = some ⟨b, off, none⟩ ∧ F b ∧ b < w.heap.size ∧ w.rangeAt b off xs)

def Kept (F : Nat → Prop) (w w' : World) : Prop := w.heap.size ≤ w'.heap.size ∧ ∀ i, i < w.heap.size → F i → w'.heap[i]? = w.heap[i]?

theorem Kept.refl (F : Nat → Prop) (w : World) : Kept F w w := ⟨Nat.le_refl _, fun _ _ _ => rfl⟩
theorem Kept.trans {F : Nat → Prop} {a b c : World} (h : Kept F a b) (k : Kept F b c) : Kept F a c :=
  ⟨Nat.le_trans h.1 k.1, fun i hi hf => (k.2 i (Nat.lt_of_lt_of_le hi h.1) hf).trans (h.2 i hi hf)⟩
theorem Kept.of_below {w w' : World} (h : Below w.heap.size w w') (F : Nat → Prop) : Kept F w w' := ⟨h.size, fun i hi _ => h.block i hi⟩
theorem Kept.of_grown {w w' : World} {r : Option Nat} (h : w.grownBy w' r) {F : Nat → Prop} (hr : ∀ g, r = some g → ¬ F g) : Kept F w w' :=
  ⟨h.size, fun i hi hf => h.block i hi (fun e => hr i e.symm hf)⟩
theorem Kept.mono {F G : Nat → Prop} {w w' : World} (h : Kept F w w') (hg : ∀ i, i < w.heap.size → G i → F i) : Kept G w w' := ⟨h.1, fun i hi hf => h.2 i hi (hg i hi hf)⟩
theorem Kept.drewN (F : Nat → Prop) (w : World) (n : Nat) : Kept F w (w.drewN n) := ⟨Nat.le_refl _, fun _ _ _ => rfl⟩
theorem Kept.drew (F : Nat → Prop) (w : World) : Kept F w w.drew := ⟨Nat.le_refl _, fun _ _ _ => rfl⟩
theorem Kept.cell {F : Nat → Prop} {w w' : World} (h : Kept F w w') {b o : Nat} (hb : b < w.heap.size) (hf : F b) : w'.cell? ⟨b, o, none⟩ = w.cell? ⟨b, o, none⟩ := World.cell?_of_block (h.2 b hb hf)

section
variable {F G : Nat → Prop} {w w' : World} {k n : Nat} {v : Value} {xs : List Value}

theorem FlatAt.kept (h : FlatAt F w k v n xs) (hk : Kept F w w') : FlatAt F w' k v n xs := by
  obtain ⟨h1, h2, A, c, hv, h3, h4, h5, h6⟩ := h
  refine ⟨h1, h2, A, c, hv, h3, h4, h5, fun hn => ?_⟩
  obtain ⟨b, off, hA, hf, hb, hr⟩ := h6 hn
  exact ⟨b, off, hA, hf, Nat.lt_of_lt_of_le hb hk.1, fun j u hj => (hk.cell hb hf).trans (hr j u hj)⟩
theorem FlatAt.mono (h : FlatAt F w k v n xs) (hg : ∀ i, i < w.heap.size → F i → G i) : FlatAt G w k v n xs := by
  obtain ⟨h1, h2, A, c, hv, h3, h4, h5, h6⟩ := h
  refine ⟨h1, h2, A, c, hv, h3, h4, h5, fun hn => ?_⟩
  obtain ⟨b, off, hA, hf, hb, hr⟩ := h6 hn
  exact ⟨b, off, hA, hg b hb hf, hb, hr⟩
theorem FlatAt.nil_ (F : Nat → Prop) (w : World) (k : Nat) : FlatAt F w k (.slice none 0 0) 0 [] :=
  ⟨by simp, by simp, none, 0, rfl, Nat.le_refl _, by unfold maxLen; omega, fun _ => rfl, fun h => by omega⟩
theorem FlatAt.of_own {base e : Nat} (h : w.ownsRow base e k v n xs) (h1 : ∀ u ∈ xs, u.oneCell' = true) : FlatAt (base ≤ ·) w k v n xs := by
  refine ⟨h.1, h1, ?_⟩
  rcases h.2 with ⟨rfl, rfl⟩ | ⟨g, cap, cur, rfl, hb, hg, hnc, hm, _, _⟩
  · exact ⟨none, 0, rfl, Nat.le_refl _, by unfold maxLen; omega, fun _ => rfl, fun h => by omega⟩
  · refine ⟨some ⟨g, 0, none⟩, cap, rfl, hnc, hm, (fun h => by cases h), fun _ => ⟨g, 0, rfl, hb, lt_of_block hg, fun j u hj => ?_⟩⟩
    have := h.cells (g := g) rfl j u hj
    rwa [Addr.add_lit] at this
theorem FlatAt.len (h : FlatAt F w k v n xs) : xs.length = n * k := h.1
theorem FlatAt.shape (h : FlatAt F w k v n xs) : ∃ A c, v = .slice A n c ∧ n ≤ c ∧ c ≤ maxLen ∧ (A = none → c = 0) := by
  obtain ⟨_, _, A, c, hv, h3, h4, h5, _⟩ := h
  exact ⟨A, c, hv, h3, h4, h5⟩
theorem FlatAt.elem (h : FlatAt F w k v n xs) {i : Nat} (hi : i < n) : ∃ b off c, v = .slice (some ⟨b, off, none⟩) n c ∧ n ≤ c ∧ F b ∧ b < w.heap.size ∧ w.rangeAt b (off + i * k) ((xs.drop (i * k)).take k) := by
  obtain ⟨h1, h2, A, c, hv, h3, h4, h5, h6⟩ := h
  obtain ⟨b, off, rfl, hf, hb, hr⟩ := h6 (by omega)
  refine ⟨b, off, c, hv, h3, hf, hb, fun j u hj => ?_⟩
  rw [Nat.add_assoc]
  apply hr
  have hjk : j < k := by
    have := (List.getElem?_eq_some_iff.1 hj).1
    rw [List.length_take] at this
    omega
  rw [List.getElem?_take_of_lt hjk, List.getElem?_drop] at hj
  exact hj
end

theorem flat_get {α : Type} (f : α → List Value) (k : Nat) : ∀ (l : List α) (i : Nat) (x : α), (∀ y ∈ l, (f y).length = k) → l[i]? = some x → ((l.flatMap f).drop (i * k)).take k = f x
  | [], _, _, _, h => by simp at h
  | y :: r, 0, x, hk, h => by
    have e : y = x := by simpa using h
    subst e
    have := hk y (by simp)
    simp [this.symm]
  | y :: r, i + 1, x, hk, h => by
    have h1 := hk y (by simp)
    have ih := flat_get f k r i x (fun z hz => hk z (by simp [hz])) (by simpa using h)
    rw [List.flatMap_cons, show (i + 1) * k = (f y).length + i * k from by rw [h1, Nat.add_mul]; omega, List.drop_append, List.drop_eq_nil_of_le (Nat.le_add_right _ _), Nat.add_sub_cancel_left]
    simpa using ih
theorem flat_len {α : Type} (f : α → List Value) (k : Nat) : ∀ (l : List α), (∀ y ∈ l, (f y).length = k) → (l.flatMap f).length = l.length * k
  | [], _ => by simp
  | y :: r, hk => by
    have ih := flat_len f k r (fun z hz => hk z (by simp [hz]))
    have h1 := hk y (by simp)
    rw [List.flatMap_cons, List.length_append, ih, h1, List.length_cons, Nat.add_mul]
    omega
section
variable {P : Program} (w : World)
end
end Go.Proofs.YtdkiopajilakcaaGreatDoor
/- Steps, operations and messages: what they say, and how they lie in memory. -/
namespace Go.Proofs.YtdkiopajilakcaaGreatDoor
open Go.RowKit

structure StepD where
  name : ByteArray
  stub : Int
  retry : Int
  wait : Int
  undo : Bool
  pivot : Bool
  deriving DecidableEq
namespace StepD
def cells (s : StepD) : List Value := [.string s.name, .int .i64 s.stub, .int .i64 s.retry, .int .i64 s.wait, .bool s.undo, .bool s.pivot]
theorem len (s : StepD) : s.cells.length = 6 := rfl
theorem one (s : StepD) : ∀ u ∈ s.cells, u.oneCell' = true := by simp [cells, Value.oneCell']
end StepD

def I64 (x : Int) : Prop := -9223372036854775808 ≤ x ∧ x < 9223372036854775808
def StepD.wf (s : StepD) : Prop := s.name.size ≤ 140737488355328 ∧ I64 s.stub ∧ I64 s.retry ∧ I64 s.wait

structure OpD where
  kind : Int
  client : Int
  request : Int
  name : ByteArray
  steps : List StepD
  saga : Int
  step : Int
  try_ : Int
  back : Bool
  good : Bool
  deriving DecidableEq
namespace OpD
def cells (o : OpD) (s : Value) : List Value := [.int .i64 o.kind, .int .i64 o.client, .int .i64 o.request, .string o.name, s, .int .i64 o.saga, .int .i64 o.step, .int .i64 o.try_, .bool o.back, .bool o.good]
theorem len (o : OpD) (s : Value) : (o.cells s).length = 10 := rfl
def wf (o : OpD) : Prop := I64 o.kind ∧ I64 o.client ∧ I64 o.request ∧ o.name.size ≤ 140737488355328 ∧ (∀ s ∈ o.steps, s.wf) ∧ I64 o.saga ∧ I64 o.step ∧ I64 o.try_
def zero : OpD := ⟨0, 0, 0, ⟨#[]⟩, [], 0, 0, 0, false, false⟩
end OpD

def StepsAt (F : Nat → Prop) (w : World) (v : Value) (l : List StepD) : Prop := FlatAt F w 6 v l.length (l.flatMap StepD.cells)
def OpAt (F : Nat → Prop) (w : World) (v : Value) (o : OpD) : Prop := ∃ s, v = .agg (o.cells s).toArray ∧ StepsAt F w s o.steps ∧ s.oneCell' = true
def OpsIn (F : Nat → Prop) (w : World) (v : Value) (ps : List (OpD × Value)) : Prop :=
  FlatAt F w 10 v ps.length (ps.flatMap fun p => p.1.cells p.2) ∧ ∀ p ∈ ps, StepsAt F w p.2 p.1.steps
def OpsAt (F : Nat → Prop) (w : World) (v : Value) (l : List OpD) : Prop := ∃ ps, ps.map (·.1) = l ∧ OpsIn F w v ps
def IncsAt (F : Nat → Prop) (w : World) (v : Value) (l : List Int) : Prop := FlatAt F w 1 v l.length (l.map fun x => .int .i64 x)

section
variable {F G : Nat → Prop} {w w' : World} {v : Value}
theorem StepsAt.kept {l : List StepD} (h : StepsAt F w v l) (hk : Kept F w w') : StepsAt F w' v l := FlatAt.kept h hk
theorem StepsAt.mono {l : List StepD} (h : StepsAt F w v l) (hg : ∀ i, i < w.heap.size → F i → G i) : StepsAt G w v l := FlatAt.mono h hg
theorem IncsAt.kept {l : List Int} (h : IncsAt F w v l) (hk : Kept F w w') : IncsAt F w' v l := FlatAt.kept h hk
theorem IncsAt.mono {l : List Int} (h : IncsAt F w v l) (hg : ∀ i, i < w.heap.size → F i → G i) : IncsAt G w v l := FlatAt.mono h hg
theorem OpsIn.kept {ps : List (OpD × Value)} (h : OpsIn F w v ps) (hk : Kept F w w') : OpsIn F w' v ps := ⟨h.1.kept hk, fun p hp => (h.2 p hp).kept hk⟩
theorem OpsIn.mono {ps : List (OpD × Value)} (h : OpsIn F w v ps) (hg : ∀ i, i < w.heap.size → F i → G i) : OpsIn G w v ps := ⟨h.1.mono hg, fun p hp => (h.2 p hp).mono hg⟩
theorem OpsAt.kept {l : List OpD} (h : OpsAt F w v l) (hk : Kept F w w') : OpsAt F w' v l := let ⟨ps, e, h'⟩ := h; ⟨ps, e, h'.kept hk⟩
theorem OpsAt.mono {l : List OpD} (h : OpsAt F w v l) (hg : ∀ i, i < w.heap.size → F i → G i) : OpsAt G w v l := let ⟨ps, e, h'⟩ := h; ⟨ps, e, h'.mono hg⟩
theorem OpAt.kept {o : OpD} (h : OpAt F w v o) (hk : Kept F w w') : OpAt F w' v o := let ⟨s, e, h', h1⟩ := h; ⟨s, e, h'.kept hk, h1⟩
theorem OpAt.mono {o : OpD} (h : OpAt F w v o) (hg : ∀ i, i < w.heap.size → F i → G i) : OpAt G w v o := let ⟨s, e, h', h1⟩ := h; ⟨s, e, h'.mono hg, h1⟩
theorem FlatAt.oneCell {k n : Nat} {xs : List Value} (h : FlatAt F w k v n xs) : v.oneCell' = true := by
  obtain ⟨_, _, _, _, rfl, _⟩ := h
  rfl
theorem StepsAt.nil_ (F : Nat → Prop) (w : World) : StepsAt F w (.slice none 0 0) [] := FlatAt.nil_ F w 6
theorem IncsAt.nil_ (F : Nat → Prop) (w : World) : IncsAt F w (.slice none 0 0) [] := FlatAt.nil_ F w 1
theorem OpsAt.nil_ (F : Nat → Prop) (w : World) : OpsAt F w (.slice none 0 0) [] := ⟨[], rfl, FlatAt.nil_ F w 10, by simp⟩
theorem OpsIn.one {ps : List (OpD × Value)} (h : OpsIn F w v ps) : ∀ u ∈ ps.flatMap (fun p => p.1.cells p.2), u.oneCell' = true := h.1.2.1

theorem StepsAt.at_ {l : List StepD} (h : StepsAt F w v l) {i : Nat} (hi : i < l.length) : ∃ s b off c, l[i]? = some s ∧ v = .slice (some ⟨b, off, none⟩) l.length c ∧ l.length ≤ c ∧ F b ∧ b < w.heap.size ∧ w.rangeAt b (off + i * 6) s.cells := by
  obtain ⟨b, off, c, hv, hc, hf, hb, hr⟩ := FlatAt.elem h hi
  have hs : l[i]? = some l[i] := List.getElem?_eq_getElem hi
  refine ⟨l[i], b, off, c, hs, hv, hc, hf, hb, ?_⟩
  rwa [flat_get StepD.cells 6 l i _ (fun y _ => y.len) hs] at hr
theorem OpsIn.at_ {ps : List (OpD × Value)} (h : OpsIn F w v ps) {i : Nat} (hi : i < ps.length) : ∃ o s b off c, ps[i]? = some (o, s) ∧ v = .slice (some ⟨b, off, none⟩) ps.length c ∧ ps.length ≤ c ∧ F b ∧ b < w.heap.size ∧ w.rangeAt b (off + i * 10) (o.cells s) ∧ StepsAt F w s o.steps := by
  obtain ⟨b, off, c, hv, hc, hf, hb, hr⟩ := FlatAt.elem h.1 hi
  have hs : ps[i]? = some ps[i] := List.getElem?_eq_getElem hi
  refine ⟨ps[i].1, ps[i].2, b, off, c, hs, hv, hc, hf, hb, ?_, h.2 _ (List.getElem_mem hi)⟩
  rwa [flat_get (fun p : OpD × Value => p.1.cells p.2) 10 ps i _ (fun y _ => y.1.len y.2) hs] at hr
theorem IncsAt.at_ {l : List Int} (h : IncsAt F w v l) {i : Nat} (hi : i < l.length) : ∃ x b off c, l[i]? = some x ∧ v = .slice (some ⟨b, off, none⟩) l.length c ∧ l.length ≤ c ∧ F b ∧ b < w.heap.size ∧ w.cell? ⟨b, off + i, none⟩ = some (.int .i64 x) := by
  obtain ⟨b, off, c, hv, hc, hf, hb, hr⟩ := FlatAt.elem h hi
  have hs : l[i]? = some l[i] := List.getElem?_eq_getElem hi
  refine ⟨l[i], b, off, c, hs, hv, hc, hf, hb, ?_⟩
  have := hr 0 (.int .i64 l[i]) (by simp [List.getElem?_drop, hs])
  simpa using this
end

structure MsgD where
  kind : Int
  src : Int
  dst : Int
  view : Int
  last : Int
  num : Int
  commit : Int
  nonce : Int
  request : Int
  lead : Bool
  good : Bool
  fenced : Bool
  op : OpD
  rerr : Int
  rsaga : Int
  rstate : Int
  rstep : Int
  cview : Int
  cstub : Int
  csaga : Int
  cstep : Int
  ctry : Int
  cback : Bool
  ops : List OpD
  incs : List Int
  deriving DecidableEq
namespace MsgD
def front (m : MsgD) : List Value := [.int .i64 m.kind, .int .i64 m.src, .int .i64 m.dst, .int .i64 m.view, .int .i64 m.last, .int .i64 m.num, .int .i64 m.commit, .int .i64 m.nonce, .int .i64 m.request, .bool m.lead, .bool m.good, .bool m.fenced]
def middle (m : MsgD) : List Value := [.int .i64 m.rerr, .int .i64 m.rsaga, .int .i64 m.rstate, .int .i64 m.rstep, .int .i64 m.cview, .int .i64 m.cstub, .int .i64 m.csaga, .int .i64 m.cstep, .int .i64 m.ctry, .bool m.cback]
def cells (m : MsgD) (s o i : Value) : List Value :=
  [.int .i64 m.kind, .int .i64 m.src, .int .i64 m.dst, .int .i64 m.view, .int .i64 m.last, .int .i64 m.num, .int .i64 m.commit, .int .i64 m.nonce, .int .i64 m.request, .bool m.lead, .bool m.good, .bool m.fenced,
   .int .i64 m.op.kind, .int .i64 m.op.client, .int .i64 m.op.request, .string m.op.name, s, .int .i64 m.op.saga, .int .i64 m.op.step, .int .i64 m.op.try_, .bool m.op.back, .bool m.op.good,
   .int .i64 m.rerr, .int .i64 m.rsaga, .int .i64 m.rstate, .int .i64 m.rstep, .int .i64 m.cview, .int .i64 m.cstub, .int .i64 m.csaga, .int .i64 m.cstep, .int .i64 m.ctry, .bool m.cback, o, i]
theorem len (m : MsgD) (s o i : Value) : (m.cells s o i).length = 34 := rfl
def wf (m : MsgD) : Prop :=
  I64 m.kind ∧ I64 m.src ∧ I64 m.dst ∧ I64 m.view ∧ I64 m.last ∧ I64 m.num ∧ I64 m.commit ∧ I64 m.nonce ∧ I64 m.request ∧ m.op.wf ∧ I64 m.rerr ∧ I64 m.rsaga ∧ I64 m.rstate ∧ I64 m.rstep ∧
  I64 m.cview ∧ I64 m.cstub ∧ I64 m.csaga ∧ I64 m.cstep ∧ I64 m.ctry ∧ (∀ o ∈ m.ops, o.wf) ∧ (∀ x ∈ m.incs, I64 x)
def zero : MsgD := ⟨0, 0, 0, 0, 0, 0, 0, 0, 0, false, false, false, .zero, 0, 0, 0, 0, 0, 0, 0, 0, 0, false, [], []⟩
end MsgD

def Lists (F : Nat → Prop) (w : World) (m : MsgD) (s o i : Value) : Prop := StepsAt F w s m.op.steps ∧ OpsAt F w o m.ops ∧ IncsAt F w i m.incs
def MsgAt (F : Nat → Prop) (w : World) (v : Value) (m : MsgD) : Prop := ∃ s o i, v = .agg (m.cells s o i).toArray ∧ Lists F w m s o i
section
variable {F G : Nat → Prop} {w w' : World} {v s o i : Value} {m : MsgD}
theorem Lists.kept (h : Lists F w m s o i) (hk : Kept F w w') : Lists F w' m s o i := ⟨h.1.kept hk, h.2.1.kept hk, h.2.2.kept hk⟩
theorem Lists.mono (h : Lists F w m s o i) (hg : ∀ i, i < w.heap.size → F i → G i) : Lists G w m s o i := ⟨h.1.mono hg, h.2.1.mono hg, h.2.2.mono hg⟩
theorem MsgAt.kept (h : MsgAt F w v m) (hk : Kept F w w') : MsgAt F w' v m := let ⟨s, o, i, e, h'⟩ := h; ⟨s, o, i, e, h'.kept hk⟩
theorem MsgAt.mono (h : MsgAt F w v m) (hg : ∀ i, i < w.heap.size → F i → G i) : MsgAt G w v m := let ⟨s, o, i, e, h'⟩ := h; ⟨s, o, i, e, h'.mono hg⟩
theorem Lists.cell (h : Lists F w m s o i) : s.oneCell' = true ∧ o.oneCell' = true ∧ i.oneCell' = true := by
  obtain ⟨h1, ⟨ps, _, h2⟩, h3⟩ := h
  exact ⟨FlatAt.oneCell h1, FlatAt.oneCell h2.1, FlatAt.oneCell h3⟩
theorem MsgD.one (m : MsgD) (h1 : s.oneCell' = true) (h2 : o.oneCell' = true) (h3 : i.oneCell' = true) : ∀ u ∈ m.cells s o i, u.oneCell' = true := by
  simp [MsgD.cells, h1, h2, h3]
  simp [Value.oneCell']
theorem OpD.one (x : OpD) (h1 : s.oneCell' = true) : ∀ u ∈ x.cells s, u.oneCell' = true := by
  simp [OpD.cells, h1]
  simp [Value.oneCell']
theorem MsgAt.zero (F : Nat → Prop) (w : World) : MsgAt F w (.agg (MsgD.zero.cells (.slice none 0 0) (.slice none 0 0) (.slice none 0 0)).toArray) .zero :=
  ⟨_, _, _, rfl, StepsAt.nil_ F w, OpsAt.nil_ F w, IncsAt.nil_ F w⟩
end

theorem box_free {w : World} {g t : Nat} {cs : Array Value} (h : w.heap[g]? = some (.cells cs t (0, 0))) (j : Nat) : w.frozen? ⟨g, j, none⟩ = false := frozen_of_row w g j cs t h
theorem range_step {w : World} {b o : Nat} {s : StepD} (h : w.rangeAt b o s.cells) :
    w.cell? ⟨b, o, none⟩ = some (.string s.name) ∧ w.cell? ⟨b, o + 1, none⟩ = some (.int .i64 s.stub) ∧ w.cell? ⟨b, o + 2, none⟩ = some (.int .i64 s.retry) ∧ w.cell? ⟨b, o + 3, none⟩ = some (.int .i64 s.wait) ∧
    w.cell? ⟨b, o + 4, none⟩ = some (.bool s.undo) ∧ w.cell? ⟨b, o + 5, none⟩ = some (.bool s.pivot) :=
  ⟨h 0 _ rfl, h 1 _ rfl, h 2 _ rfl, h 3 _ rfl, h 4 _ rfl, h 5 _ rfl⟩
theorem range_op {w : World} {b p : Nat} {o : OpD} {s : Value} (h : w.rangeAt b p (o.cells s)) :
    w.cell? ⟨b, p, none⟩ = some (.int .i64 o.kind) ∧ w.cell? ⟨b, p + 1, none⟩ = some (.int .i64 o.client) ∧ w.cell? ⟨b, p + 2, none⟩ = some (.int .i64 o.request) ∧ w.cell? ⟨b, p + 3, none⟩ = some (.string o.name) ∧
    w.cell? ⟨b, p + 4, none⟩ = some s ∧ w.cell? ⟨b, p + 5, none⟩ = some (.int .i64 o.saga) ∧ w.cell? ⟨b, p + 6, none⟩ = some (.int .i64 o.step) ∧ w.cell? ⟨b, p + 7, none⟩ = some (.int .i64 o.try_) ∧
    w.cell? ⟨b, p + 8, none⟩ = some (.bool o.back) ∧ w.cell? ⟨b, p + 9, none⟩ = some (.bool o.good) :=
  ⟨h 0 _ rfl, h 1 _ rfl, h 2 _ rfl, h 3 _ rfl, h 4 _ rfl, h 5 _ rfl, h 6 _ rfl, h 7 _ rfl, h 8 _ rfl, h 9 _ rfl⟩
end Go.Proofs.YtdkiopajilakcaaGreatDoor
/- Messages in bytes, on data alone: the fields of steps, definitions, operations and messages; which are good. -/
namespace Go.Proofs.YtdkiopajilakcaaGreatDoor
open Go.RowKit

def nums (s : ByteArray) : List Nat := s.data.toList.map UInt8.toNat
theorem nums_len (s : ByteArray) : (nums s).length = s.size := by
  unfold nums
  rw [List.length_map, Array.length_toList]
  rfl
theorem nums_small (s : ByteArray) : ∀ x ∈ nums s, x < 256 := by
  intro x hx
  obtain ⟨y, _, rfl⟩ := List.mem_map.1 hx
  exact y.toNat_lt
theorem str_nums_self (s : ByteArray) : str (nums s) = s := by
  unfold str nums
  rw [List.map_map, List.map_congr_left (g := id)]
  · simp
  · intro x _
    simp
theorem nums_str {l : List Nat} (h : ∀ x ∈ l, x < 256) : nums (str l) = l :=
  str_inj (nums_small _) h (str_nums_self _)
theorem nums_inj {a b : ByteArray} (h : nums a = nums b) : a = b := by rw [← str_nums_self a, ← str_nums_self b, h]
theorem nums_eq_nil {s : ByteArray} : nums s = [] ↔ s.size = 0 := by
  rw [← nums_len]
  exact List.length_eq_zero_iff.symm
theorem size_zero {s : ByteArray} (h : s.size = 0) : s = ⟨#[]⟩ := nums_inj (by rw [nums_eq_nil.2 h]; rfl)

def pnum (n v : Int) : List PF := if v = 0 then [] else [(n, false, zig v, [])]
def pflag (n : Int) (b : Bool) : List PF := if b then [(n, false, 1, [])] else []
def ptext (n : Int) (l : List Nat) : List PF := if l = [] then [] else [(n, true, 0, l)]
def prow (n : Int) (l : List Nat) : PF := (n, true, 0, l)
def pint (n v : Int) : PF := (n, false, zig v, [])

structure DefD where
  name : ByteArray
  steps : List StepD
  deriving DecidableEq
def OpD.defn (o : OpD) : DefD := ⟨o.name, o.steps⟩
def DefD.zero : DefD := ⟨⟨#[]⟩, []⟩
def StepD.zero : StepD := ⟨⟨#[]⟩, 0, 0, 0, false, false⟩

def stepF (s : StepD) : List PF := [ptext 1 (nums s.name), pnum 2 s.stub, pnum 3 s.retry, pnum 4 s.wait, pflag 5 s.undo, pflag 6 s.pivot].flatten
def stepB (s : StepD) : List Nat := prec (stepF s)
def defF (d : DefD) : List PF := [ptext 1 (nums d.name), d.steps.map fun s => prow 2 (stepB s)].flatten
def defB (d : DefD) : List Nat := prec (defF d)
def mayB (x : Int) : Bool := decide (0 ≤ x) && decide (x ≤ 1099511627776)
def stepG (s : StepD) : Bool := decide (s.name.size ≤ 16) && (mayB s.stub && mayB s.retry && mayB s.wait)
def defG (d : DefD) : Bool := decide (d.name.size ≤ 16) && decide (d.steps.length ≤ 8) && d.steps.all stepG
def opG (o : OpD) : Bool := decide (0 ≤ o.kind) && decide (o.kind ≤ 5) && defG o.defn && (mayB o.client && mayB o.request && mayB o.saga && mayB o.step && mayB o.try_)
def fine (p : PF) : Prop := pgood p = true ∧ pfits p ∧ ∀ x ∈ p.2.2.2, x < 256
theorem fine_num {n v : Int} (h1 : 1 ≤ n) (h2 : n ≤ 1000) (hv : I64 v) : ∀ p ∈ pnum n v, fine p := by
  intro p hp
  unfold pnum at hp
  split at hp
  · cases hp
  · obtain rfl : p = _ := by simpa using hp
    have hz := zig_lt v hv.1 hv.2
    exact ⟨by rw [pgood_iff]; simp [h1, h2], ⟨hz, by simp⟩, by simp⟩
theorem fine_int {n v : Int} (h1 : 1 ≤ n) (h2 : n ≤ 1000) (hv : I64 v) : fine (pint n v) :=
  ⟨by rw [pgood_iff]; simp [pint, h1, h2], ⟨zig_lt v hv.1 hv.2, by simp [pint]⟩, by simp [pint]⟩
theorem fine_flag {n : Int} {b : Bool} (h1 : 1 ≤ n) (h2 : n ≤ 1000) : ∀ p ∈ pflag n b, fine p := by
  intro p hp
  unfold pflag at hp
  split at hp
  · obtain rfl : p = _ := by simpa using hp
    exact ⟨by rw [pgood_iff]; simp [h1, h2], ⟨by simp, by simp⟩, by simp⟩
  · cases hp
theorem fine_row {n : Int} {l : List Nat} (h1 : 1 ≤ n) (h2 : n ≤ 1000) (hl : l.length < 18446744073709551616) (hs : ∀ x ∈ l, x < 256) : fine (prow n l) :=
  ⟨by rw [pgood_iff]; simp [prow, h1, h2], ⟨by simp [prow], hl⟩, hs⟩
theorem fine_text {n : Int} {l : List Nat} (h1 : 1 ≤ n) (h2 : n ≤ 1000) (hl : l.length < 18446744073709551616) (hs : ∀ x ∈ l, x < 256) : ∀ p ∈ ptext n l, fine p := by
  intro p hp
  unfold ptext at hp
  split at hp
  · cases hp
  · obtain rfl : p = _ := by simpa using hp
    exact fine_row h1 h2 hl hs

theorem pread_fine {ps : List PF} (h : ∀ p ∈ ps, fine p) : pread (prec ps) = (0, ps) := by
  have h1 := pread_prec [] (by simp) ps (fun p hp => (h p hp).2.1) (fun p hp => (h p hp).2.2)
  rw [List.append_nil, List.filter_eq_self.2 (fun p hp => (h p hp).1), readOn_end] at h1
  exact h1
theorem pbytes_small {p : PF} (h : fine p) : ∀ x ∈ pbytes p, x < 256 := by
  intro x hx
  unfold pbytes at hx
  split at hx
  · split at hx
    · rcases List.mem_append.1 hx with h' | h'
      · rcases List.mem_append.1 h' with h' | h'
        · exact enc_small _ x h'
        · exact enc_small _ x h'
      · exact h.2.2 x h'
    · rcases List.mem_append.1 hx with h' | h'
      · exact enc_small _ x h'
      · exact enc_small _ x h'
  · cases hx
theorem prec_small {ps : List PF} (h : ∀ p ∈ ps, fine p) : ∀ x ∈ prec ps, x < 256 := by
  intro x hx
  obtain ⟨y, hy, hxy⟩ := List.mem_flatten.1 hx
  obtain ⟨p, hp, rfl⟩ := List.mem_map.1 hy
  exact pbytes_small (h p hp) x hxy
theorem pbytes_len (p : PF) : (pbytes p).length ≤ 20 + p.2.2.2.length := by
  have h1 := enc_len (2 * p.1.toNat + 1)
  have h2 := enc_len p.2.2.2.length
  have h3 := enc_len (2 * p.1.toNat)
  have h4 := enc_len p.2.2.1
  unfold pbytes
  split
  · split <;> simp <;> omega
  · simp
def proom (ps : List PF) : Nat := (ps.map fun p => 20 + p.2.2.2.length).sum
theorem prec_len : ∀ ps : List PF, (prec ps).length ≤ proom ps
  | [] => by simp [prec, proom]
  | p :: r => by
    have h1 := pbytes_len p
    have h2 := prec_len r
    simp only [prec, proom, List.map_cons, List.flatten_cons, List.length_append, List.sum_cons] at *
    omega
theorem proom_append (a b : List PF) : proom (a ++ b) = proom a + proom b := by simp [proom]
theorem proom_num (n v : Int) : proom (pnum n v) ≤ 20 := by unfold pnum; split <;> simp [proom]
theorem proom_flag (n : Int) (b : Bool) : proom (pflag n b) ≤ 20 := by unfold pflag; split <;> simp [proom]
theorem proom_text (n : Int) (l : List Nat) : proom (ptext n l) ≤ 20 + l.length := by unfold ptext; split <;> simp [proom]
theorem proom_map {α : Type} (f : α → PF) (k : Nat) : ∀ (l : List α), (∀ x ∈ l, (f x).2.2.2.length ≤ k) → proom (l.map f) ≤ l.length * (20 + k)
  | [], _ => by simp [proom]
  | x :: r, h => by
    have h1 := h x (by simp)
    have h2 := proom_map f k r fun y hy => h y (by simp [hy])
    simp only [proom, List.map_cons, List.sum_cons, List.length_cons, Nat.add_mul] at *
    omega

def StepD.sm (k : Nat) (s : StepD) : Prop := s.name.size ≤ k ∧ I64 s.stub ∧ I64 s.retry ∧ I64 s.wait
def DefD.sm (k : Nat) (d : DefD) : Prop := d.name.size ≤ k ∧ d.steps.length ≤ k ∧ ∀ s ∈ d.steps, s.sm k
def OpD.sm (k : Nat) (o : OpD) : Prop := I64 o.kind ∧ I64 o.client ∧ I64 o.request ∧ o.defn.sm k ∧ I64 o.saga ∧ I64 o.step ∧ I64 o.try_

theorem stepF_room (s : StepD) : proom (stepF s) ≤ 120 + s.name.size := by
  have h1 := proom_text 1 (nums s.name)
  have h2 := proom_num 2 s.stub
  have h3 := proom_num 3 s.retry
  have h4 := proom_num 4 s.wait
  have h5 := proom_flag 5 s.undo
  have h6 := proom_flag 6 s.pivot
  rw [nums_len] at h1
  simp only [stepF, List.flatten_cons, List.flatten_nil, proom_append]
  have : proom [] = 0 := rfl
  omega
theorem stepB_len (s : StepD) : (stepB s).length ≤ 120 + s.name.size := Nat.le_trans (prec_len _) (stepF_room s)
theorem defF_room {k : Nat} {d : DefD} (h : d.sm k) : proom (defF d) ≤ 20 + k + k * (140 + k) := by
  have h1 := proom_text 1 (nums d.name)
  have h2 := proom_map (fun s => prow 2 (stepB s)) (120 + k) d.steps fun s hs => by
    have := stepB_len s
    have := (h.2.2 s hs).1
    simp only [prow]
    omega
  rw [nums_len] at h1
  have h3 := h.1
  have h4 : d.steps.length * (20 + (120 + k)) ≤ k * (140 + k) := by
    rw [show 20 + (120 + k) = 140 + k from by omega]
    exact Nat.mul_le_mul_right _ h.2.1
  simp only [defF, List.flatten_cons, List.flatten_nil, proom_append]
  have : proom [] = 0 := rfl
  omega
theorem k_small {k : Nat} (hk : k ≤ 5000) : k * (140 + k) ≤ 25700000 := by
  have h1 : k * (140 + k) ≤ 5000 * (140 + k) := Nat.mul_le_mul_right _ hk
  omega

theorem mem_flatten_cons {P : PF → Prop} {a : List PF} {r : List (List PF)} (h1 : ∀ p ∈ a, P p) (h2 : ∀ p ∈ r.flatten, P p) : ∀ p ∈ (a :: r).flatten, P p := by
  intro p hp
  rw [List.flatten_cons] at hp
  rcases List.mem_append.1 hp with h | h
  · exact h1 p h
  · exact h2 p h
theorem stepF_fine {k : Nat} {s : StepD} (h : s.sm k) (hk : k ≤ 5000) : ∀ p ∈ stepF s, fine p := by
  have hn := nums_len s.name
  have h1 := h.1
  exact mem_flatten_cons (fine_text (by omega) (by omega) (by omega) (nums_small _)) (mem_flatten_cons (fine_num (by omega) (by omega) h.2.1) (mem_flatten_cons (fine_num (by omega) (by omega) h.2.2.1)
    (mem_flatten_cons (fine_num (by omega) (by omega) h.2.2.2) (mem_flatten_cons (fine_flag (by omega) (by omega)) (mem_flatten_cons (fine_flag (by omega) (by omega)) (by simp))))))
theorem stepB_small {k : Nat} {s : StepD} (h : s.sm k) (hk : k ≤ 5000) : ∀ x ∈ stepB s, x < 256 := prec_small (stepF_fine h hk)
theorem defF_fine {k : Nat} {d : DefD} (h : d.sm k) (hk : k ≤ 5000) : ∀ p ∈ defF d, fine p := by
  have hn := nums_len d.name
  have h1 := h.1
  refine mem_flatten_cons (fine_text (by omega) (by omega) (by omega) (nums_small _)) (mem_flatten_cons ?_ (by simp))
  intro p hp
  obtain ⟨s, hs, rfl⟩ := List.mem_map.1 hp
  have h2 := stepB_len s
  have h3 := (h.2.2 s hs).1
  exact fine_row (by omega) (by omega) (by omega) (stepB_small (h.2.2 s hs) hk)
theorem defB_small {k : Nat} {d : DefD} (h : d.sm k) (hk : k ≤ 5000) : ∀ x ∈ defB d, x < 256 := prec_small (defF_fine h hk)
theorem defB_len {k : Nat} {d : DefD} (h : d.sm k) (hk : k ≤ 5000) : (defB d).length ≤ 26000000 := by
  have h1 : (defB d).length ≤ _ := prec_len (defF d)
  have h2 := defF_room h
  have := k_small hk
  omega
end Go.Proofs.YtdkiopajilakcaaGreatDoor
/- Messages out of fields, on data alone: what a record's parts keep of its fields, and that good bytes come back. -/
namespace Go.Proofs.YtdkiopajilakcaaGreatDoor
open Go.RowKit

abbrev Parts (S : Type) : Type := List (Int × (S → PF → S))
def rd1 {S : Type} (ps : Parts S) (s : S) (f : PF) : S := ps.foldl (fun s p => if p.1 = f.1 then p.2 s f else s) s
def rdL {S : Type} (ps : Parts S) (s : S) (l : List PF) : S := l.foldl (rd1 ps) s
def rdB {S : Type} (ps : Parts S) (s : S) (b : List Nat) : S := rdL ps s (pread b).2

theorem rdL_append {S : Type} (ps : Parts S) (s : S) (a b : List PF) : rdL ps s (a ++ b) = rdL ps (rdL ps s a) b := by simp [rdL, List.foldl_append]
theorem rdL_nil {S : Type} (ps : Parts S) (s : S) : rdL ps s [] = s := rfl
theorem rdL_one {S : Type} (ps : Parts S) (s : S) (f : PF) : rdL ps s [f] = rd1 ps s f := rfl
theorem rdL_num {S : Type} (ps : Parts S) (s s' : S) (n v : Int) (h0 : v = 0 → s = s') (h1 : rd1 ps s (n, false, zig v, []) = s') : rdL ps s (pnum n v) = s' := by
  unfold pnum
  split
  · rename_i h; exact h0 h
  · exact h1
theorem rdL_flag {S : Type} (ps : Parts S) (s s' : S) (n : Int) (b : Bool) (h0 : b = false → s = s') (h1 : b = true → rd1 ps s (n, false, 1, []) = s') : rdL ps s (pflag n b) = s' := by
  unfold pflag
  cases b
  · exact h0 rfl
  · exact h1 rfl
theorem rdL_text {S : Type} (ps : Parts S) (s s' : S) (n : Int) (l : List Nat) (h0 : l = [] → s = s') (h1 : rd1 ps s (n, true, 0, l) = s') : rdL ps s (ptext n l) = s' := by
  unfold ptext
  split
  · rename_i h; exact h0 h
  · exact h1

structure Lens (S X : Type) where
  get : S → X
  set : S → X → S
  get_set : ∀ s x, get (set s x) = x
  set_set : ∀ s x y, set (set s x) y = set s y
  set_get : ∀ s, set s (get s) = s
def Lens.id (S : Type) : Lens S S := ⟨fun s => s, fun _ x => x, fun _ _ => rfl, fun _ _ _ => rfl, fun _ => rfl⟩
def Lens.part {S X : Type} (L : Lens S X) (p : Int × (X → PF → X)) : Int × (S → PF → S) := (p.1, fun s f => L.set s (p.2 (L.get s) f))
def Lens.lift {S X : Type} (L : Lens S X) (ps : Parts X) : Parts S := ps.map L.part
theorem Lens.rd1 {S X : Type} (L : Lens S X) : ∀ (ps : Parts X) (s : S) (f : PF), Proofs.YtdkiopajilakcaaGreatDoor.rd1 (L.lift ps) s f = L.set s (Proofs.YtdkiopajilakcaaGreatDoor.rd1 ps (L.get s) f)
  | [], s, f => (L.set_get s).symm
  | p :: r, s, f => by
    have ih := Lens.rd1 L r
    unfold Proofs.YtdkiopajilakcaaGreatDoor.rd1 Lens.lift at ih ⊢
    rw [List.map_cons, List.foldl_cons, List.foldl_cons]
    by_cases h : p.1 = f.1
    · rw [if_pos (show (L.part p).1 = f.1 from h), if_pos h, ih]
      simp only [Lens.part, L.get_set, L.set_set]
    · rw [if_neg (show ¬ (L.part p).1 = f.1 from h), if_neg h, ih]
theorem Lens.rdL {S X : Type} (L : Lens S X) (ps : Parts X) : ∀ (l : List PF) (s : S), Proofs.YtdkiopajilakcaaGreatDoor.rdL (L.lift ps) s l = L.set s (Proofs.YtdkiopajilakcaaGreatDoor.rdL ps (L.get s) l)
  | [], s => (L.set_get s).symm
  | f :: r, s => by
    have ih := Lens.rdL L ps r
    unfold Proofs.YtdkiopajilakcaaGreatDoor.rdL at ih ⊢
    rw [List.foldl_cons, List.foldl_cons, ih, L.rd1, L.get_set, L.set_set]
theorem Lens.rdB {S X : Type} (L : Lens S X) (ps : Parts X) (s : S) (b : List Nat) : Proofs.YtdkiopajilakcaaGreatDoor.rdB (L.lift ps) s b = L.set s (Proofs.YtdkiopajilakcaaGreatDoor.rdB ps (L.get s) b) := L.rdL ps _ s

def stepPs : Parts StepD :=
  [(1, fun s f => { s with name := str f.2.2.2 }), (2, fun s f => { s with stub := zag f.2.2.1 }), (3, fun s f => { s with retry := zag f.2.2.1 }), (4, fun s f => { s with wait := zag f.2.2.1 }),
   (5, fun s f => { s with undo := f.2.2.1 == 1 }), (6, fun s f => { s with pivot := f.2.2.1 == 1 })]
def stepR (b : List Nat) : StepD := rdB stepPs .zero b
def defPs : Parts DefD := [(1, fun d f => { d with name := str f.2.2.2 }), (2, fun d f => { d with steps := d.steps ++ [stepR f.2.2.2] })]
def defR (b : List Nat) : DefD := rdB defPs .zero b
def OpD.putDef (o : OpD) (d : DefD) : OpD := { o with name := d.name, steps := d.steps }
def opDef : Lens OpD DefD := ⟨OpD.defn, OpD.putDef, fun _ _ => rfl, fun _ _ _ => rfl, fun _ => rfl⟩
def msgOp : Lens MsgD OpD := ⟨MsgD.op, fun m o => { m with op := o }, fun _ _ => rfl, fun _ _ _ => rfl, fun _ => rfl⟩
set_option maxRecDepth 10000 in
theorem stepR_B {k : Nat} {s : StepD} (h : s.sm k) (hk : k ≤ 5000) : stepR (stepB s) = s := by
  unfold stepR stepB rdB
  rw [pread_fine (stepF_fine h hk)]
  simp only [stepF, List.flatten_cons, List.flatten_nil, List.append_nil, rdL_append]
  rw [rdL_text stepPs StepD.zero ⟨s.name, 0, 0, 0, false, false⟩ 1 _ (fun e => by rw [size_zero (nums_eq_nil.1 e)]; rfl) (by simp [rd1, stepPs, StepD.zero, str_nums_self]),
    rdL_num stepPs _ ⟨s.name, s.stub, 0, 0, false, false⟩ 2 _ (fun e => by rw [e]) (by simp [rd1, stepPs, zag_zig]),
    rdL_num stepPs _ ⟨s.name, s.stub, s.retry, 0, false, false⟩ 3 _ (fun e => by rw [e]) (by simp [rd1, stepPs, zag_zig]),
    rdL_num stepPs _ ⟨s.name, s.stub, s.retry, s.wait, false, false⟩ 4 _ (fun e => by rw [e]) (by simp [rd1, stepPs, zag_zig]),
    rdL_flag stepPs _ ⟨s.name, s.stub, s.retry, s.wait, s.undo, false⟩ 5 _ (fun e => by rw [e]) (fun e => by simp [rd1, stepPs, e]),
    rdL_flag stepPs _ ⟨s.name, s.stub, s.retry, s.wait, s.undo, s.pivot⟩ 6 _ (fun e => by rw [e]) (fun e => by simp [rd1, stepPs, e])]

theorem rdL_steps : ∀ (l : List StepD) {k : Nat}, (∀ s ∈ l, s.sm k) → k ≤ 5000 → ∀ d : DefD, rdL defPs d (l.map fun s => prow 2 (stepB s)) = { d with steps := d.steps ++ l }
  | [], _, _, _, d => by simp [rdL_nil]
  | s :: r, k, h, hk, d => by
    have ih := rdL_steps r (fun x hx => h x (by simp [hx])) hk { d with steps := d.steps ++ [s] }
    have e1 : rd1 defPs d (prow 2 (stepB s)) = { d with steps := d.steps ++ [s] } := by simp [rd1, defPs, prow, stepR_B (h s (by simp)) hk]
    rw [List.map_cons, show prow 2 (stepB s) :: r.map (fun s => prow 2 (stepB s)) = [prow 2 (stepB s)] ++ r.map (fun s => prow 2 (stepB s)) from rfl, rdL_append, rdL_one, e1, ih]
    simp

theorem defR_F {k : Nat} {d : DefD} (h : d.sm k) (hk : k ≤ 5000) : rdL defPs .zero (defF d) = d := by
  simp only [defF, List.flatten_cons, List.flatten_nil, List.append_nil, rdL_append]
  rw [rdL_text defPs DefD.zero ⟨d.name, []⟩ 1 _ (fun e => by rw [size_zero (nums_eq_nil.1 e)]; rfl) (by simp [rd1, defPs, DefD.zero, str_nums_self]), rdL_steps d.steps h.2.2 hk]
  simp
theorem defR_B {k : Nat} {d : DefD} (h : d.sm k) (hk : k ≤ 5000) : defR (defB d) = d := by
  unfold defR defB rdB
  rw [pread_fine (defF_fine h hk), defR_F h hk]

theorem prec_nil_iff {ps : List PF} (h : ∀ p ∈ ps, fine p) : prec ps = [] ↔ ps = [] := by
  constructor
  · intro e
    have h1 := pread_fine h
    rw [e, pread_nil] at h1
    simpa using h1.symm
  · rintro rfl; rfl
theorem defF_nil {d : DefD} (h : defF d = []) : d = .zero := by
  simp only [defF, List.flatten_cons, List.flatten_nil, List.append_nil, List.append_eq_nil_iff, List.map_eq_nil_iff] at h
  obtain ⟨h1, h2⟩ := h
  have h3 : nums d.name = [] := by
    unfold ptext at h1
    split at h1
    · assumption
    · cases h1
  have h4 := size_zero (nums_eq_nil.1 h3)
  cases d
  simp only at h2 h4
  rw [h2, h4]
  rfl

end Go.Proofs.YtdkiopajilakcaaGreatDoor
/- A region whose order is open, of calls that make memory beside operations that read what earlier calls made: what reads the same in all later worlds may come up at once. -/
namespace Go.Proofs.YtdkiopajilakcaaGreatDoor
open Go.RowKit

def Later (w w' : World) : Prop := Below w.heap.size w w'
theorem Later.refl (w : World) : Later w w := Below.refl _ _
theorem Later.trans {a b c : World} (h : Later a b) (k : Later b c) : Later a c := Below.trans h (Below.mono k h.size)
theorem Later.drew (w : World) : Later w w.drew := (Below.refl _ _).drew

section
variable {P : Program} {ops : Array Oper} {Q : Exit → Act → World → Prop} {md : Region.Mode}

def wpAnyL (P : Program) (md : Region.Mode) (ops : Array Oper) (Q : Exit → Act → World → Prop) : Nat → Array Bool → Act → World → Prop
  | 0, listed, a, w => Region.ready md ops listed = [] ∧ Q .normal a w
  | fuel + 1, listed, a, w =>
    (Region.ready md ops listed = [] → Q .normal a w) ∧
    ∀ i ∈ Region.ready md ops listed, wpOp P ops Q i (fun a' w' => Later w w' ∧ wpAnyL P md ops Q fuel (listed.setIfInBounds i true) a' w') a w

theorem wpAny_of_L : ∀ (fuel : Nat) (listed : Array Bool) (a : Act) (w : World), wpAnyL P md ops Q fuel listed a w → wpAny P md ops Q fuel listed a w
  | 0, _, _, _, h => h
  | fuel + 1, _, _, _, h => ⟨h.1, fun i hi => wpOp_mono (fun a' w' h' => wpAny_of_L fuel _ a' w' h'.2) (h.2 i hi)⟩

theorem yields_later {o : Oper} {v : Value} {a : Act} {w w' : World} (h : YieldsIf P ops (Later w) o v a) (hl : Later w w') : YieldsIf P ops (Later w') o v a :=
  h.imp (fun ⟨hw, hv⟩ => ⟨hw, fun u hu => hv u (hl.trans hu)⟩) id

theorem wpAnyL_first {i : Nat} {oi : Oper} {v : Value} (hi : ops[i]? = some oi) (hsel : ∀ (j : Nat) (o : Oper) cs b, ops[j]? = some o → o.op ≠ .select cs b)
    (hQ : ∀ c a w, Q (.panic c) (a.put oi.dst v) w → Q (.panic c) a w) :
    ∀ (fuel : Nat) (listed : Array Bool) (a : Act) (w : World),
      (∀ j oj, ops[j]? = some oj → j ≠ i → listed.getD j true = false → (∀ e ∈ oj.after, Region.binds md e = true → e.on ≠ i) → oi.apart ops oj = true) →
      i ∈ Region.ready md ops listed → YieldsIf P ops (Later w) oi v a →
      wpAnyL P md ops Q fuel (listed.setIfInBounds i true) (a.put oi.dst v) w → wpAnyL P md ops Q (fuel + 1) listed a w := by
  intro fuel
  induction fuel with
  | zero =>
    intro listed a w _ hr hy H
    refine ⟨fun h => (by rw [h] at hr; cases hr), fun j hj => ?_⟩
    by_cases hji : j = i
    · subst hji
      exact hy.wpOp hi (Later.refl w) ⟨Later.refl w, H⟩
    · have := ready_mono hj hji
      rw [H.1] at this
      cases this
  | succ fuel ih =>
    intro listed a w hfree hr hy H
    refine ⟨fun h => (by rw [h] at hr; cases hr), fun j hj => ?_⟩
    by_cases hji : j = i
    · subst hji
      exact hy.wpOp hi (Later.refl w) ⟨Later.refl w, H⟩
    · have h1 := H.2 j (ready_mono hj hji)
      obtain ⟨hjun, oj, hoj, hall⟩ := mem_ready.1 hj
      have hnot : ∀ e ∈ oj.after, Region.binds md e = true → e.on ≠ i := fun e he hb heq => by
        have q1 := hall e he hb
        have q0 := (mem_ready.1 hr).1
        rw [heq] at q1
        rcases Nat.lt_or_ge i listed.size with h' | h'
        · simp [h'] at q0 q1
          rw [q0] at q1
          cases q1
        · simp [Array.getElem?_eq_none h'] at q1
      have h2 := wpOp_putIf hoj (hfree j oj hoj hji hjun hnot) (fun cs b => hsel i oi cs b hi) (fun cs b => hsel j oj cs b hoj) hQ hy h1
      have hfree' : ∀ k ok, ops[k]? = some ok → k ≠ i → (listed.setIfInBounds j true).getD k true = false →
          (∀ e ∈ ok.after, Region.binds md e = true → e.on ≠ i) → oi.apart ops ok = true := fun k ok hk hki hun hno => by
        refine hfree k ok hk hki ?_ hno
        by_cases hjk : j = k
        · subst hjk; exact hjun
        · rw [getD_set_ne true hjk] at hun; exact hun
      refine wpOp_mono (fun a' w' h3 => ⟨h3.2.1, ih (listed.setIfInBounds j true) a' w' hfree' (ready_mono hr (Ne.symm hji)) (yields_later h3.1 h3.2.1) ?_⟩) h2
      rw [Array.setIfInBounds_comm _ _ hji]
      exact h3.2.2

theorem wpAnyL_take {i : Nat} {oi : Oper} {d : Option Tmp} {v : Value} {fuel : Nat} {listed : Array Bool} {a : Act} {w : World} (hi : ops[i]? = some oi) (hd : oi.dst = d)
    (hs : Region.noSelect ops = true) (hf : Region.free md ops listed i = true) (hr : (Region.ready md ops listed).contains i = true)
    (hQ : ∀ c a w, Q (.panic c) (a.put d v) w → Q (.panic c) a w) (hw : Region.wanted oi (yielded ops a.tmps) = true) (hy : ∀ w', Later w w' → (execOp a.eval oi).run P w' = .ok (.value v) w')
    (h : wpAnyL P md ops Q fuel (listed.setIfInBounds i true) (a.put d v) w) : wpAnyL P md ops Q (fuel + 1) listed a w := by
  subst hd
  exact wpAnyL_first hi (Region.noSelect_spec hs) hQ fuel listed a w (Region.free_spec hi hf) (by simpa using hr) (.inl ⟨hw, hy⟩) h

theorem wpAnyL_pass {i : Nat} {oi : Oper} {d : Option Tmp} {fuel : Nat} {listed : Array Bool} {a : Act} {w : World} (hi : ops[i]? = some oi) (hd : oi.dst = d)
    (hs : Region.noSelect ops = true) (hf : Region.free md ops listed i = true) (hr : (Region.ready md ops listed).contains i = true)
    (hQ : ∀ c a w, Q (.panic c) (a.put d undef) w → Q (.panic c) a w) (hw : Region.wanted oi (yielded ops a.tmps) = false)
    (h : wpAnyL P md ops Q fuel (listed.setIfInBounds i true) (a.put d undef) w) : wpAnyL P md ops Q (fuel + 1) listed a w := by
  subst hd
  exact wpAnyL_first hi (Region.noSelect_spec hs) hQ fuel listed a w (Region.free_spec hi hf) (by simpa using hr) (.inr ⟨hw, rfl⟩) h

theorem wpAnyL_only {i : Nat} {o : Oper} {fuel : Nat} {listed : Array Bool} {a : Act} {w : World} (ho : ops[i]? = some o) (hr : Region.ready md ops listed = [i]) (hw : Region.wanted o (yielded ops a.tmps) = true)
    (h : ∀ K' : Act → World → Prop, Hid (∀ a' w', Later w w' → wpAnyL P md ops Q fuel (listed.setIfInBounds i true) a' w' → K' a' w') → Oper.wp P o a w K' Q) : wpAnyL P md ops Q (fuel + 1) listed a w := by
  refine ⟨fun h0 => absurd (hr ▸ h0) (by simp), fun j hj => ?_⟩
  rw [hr] at hj
  obtain rfl : j = i := by simpa using hj
  refine wpOp_step ho fun K' hK => ?_
  rw [if_pos hw]
  exact h K' fun a' w' hl hn => hK a' w' ⟨hl, hn⟩

theorem wpAnyL_done {listed : Array Bool} {a : Act} {w : World} (hr : Region.ready md ops listed = []) (h : Q .normal a w) : ∀ fuel, wpAnyL P md ops Q fuel listed a w
  | 0 => ⟨hr, h⟩
  | _ + 1 => ⟨fun _ => h, by rw [hr]; simp⟩

theorem wp_region_L {id : Nat} {a : Act} {w : World} (hm : P.follows .mixedOrders = true)
    (h : wpAnyL P .any ops Q ops.size (Array.replicate ops.size false) a w.drew) : (Code.region id ops true).wp P Q a w :=
  wp_region_any hm (wpAny_of_L _ _ _ _ h)
end

end Go.Proofs.YtdkiopajilakcaaGreatDoor
/- What the laws on fields share: fields appended to a row, later worlds, and what light, Write, Read and Same tell there. -/
namespace Go.Proofs.YtdkiopajilakcaaGreatDoor
open Go.RowKit

theorem Later.drewN (w : World) (q : Nat) : Later w (w.drewN q) := ⟨rfl, rfl, rfl, Nat.le_refl _, fun _ _ => rfl⟩
theorem Later.below {w w' : World} (h : Later w w') {B : Nat} (hB : B ≤ w.heap.size) : Below B w w' := Below.mono h hB
theorem Later.size {w w' : World} (h : Later w w') : w.heap.size ≤ w'.heap.size := Below.size h
theorem Later.alloc (w : World) (o : Obj) : Later w (w.alloc o) := (Below.refl _ _).alloc (Nat.le_refl _) o
section
variable {w w' : World} {A : Option Addr} {n : Nat} {fs : List Fd} {l : List Nat}
theorem FHolds.later (h : FHolds w w.heap.size A n fs) (hl : Later w w') : FHolds w' w'.heap.size A n fs := (h.below hl).more hl.size
theorem Holds.later (h : Holds w w.heap.size A n l) (hl : Later w w') : Holds w' w'.heap.size A n l := (h.below hl).more hl.size
theorem FHolds.nil_ (w : World) (B : Nat) : FHolds w B none 0 [] := ⟨rfl, by simp, fun h => by omega⟩
end

theorem good_pf (f : Fd) (h : f.b.length = f.n) : f.good = pgood f.pf := by
  have e : (f.n == 0) = f.b.isEmpty := by
    rw [← h]
    cases f.b <;> simp
  unfold Fd.good pgood Fd.pf
  rw [e]
theorem bytes_pf (f : Fd) (h : f.b.length = f.n) : f.bytes = pbytes f.pf := by
  unfold Fd.bytes pbytes
  rw [good_pf f h]
  simp only [Fd.pf, h]
  rfl
theorem recOf_pf : ∀ (fs : List Fd), (∀ f ∈ fs, f.b.length = f.n) → recOf fs = prec (fs.map Fd.pf)
  | [], _ => rfl
  | f :: r, h => by
    have := recOf_pf r fun g hg => h g (by simp [hg])
    simp only [recOf, prec, List.map_cons, List.flatten_cons] at *
    rw [bytes_pf f (h f (by simp)), this]
theorem FHolds.fits {w : World} {B : Nat} {A : Option Addr} {n : Nat} {fs : List Fd} (h : FHolds w B A n fs) (hc : ∀ f ∈ fs, f.n ≤ maxLen) : (∀ p ∈ fs.map Fd.pf, pfits p) ∧ (∀ p ∈ fs.map Fd.pf, ∀ x ∈ p.2.2.2, x < 256) := by
  constructor
  · intro p hp
    obtain ⟨f, hf, rfl⟩ := List.mem_map.1 hp
    refine ⟨(h.2.1 f hf).2.1, ?_⟩
    have h1 := hc f hf
    have h2 : f.b.length = f.n := (h.2.1 f hf).2.2.2.1
    show f.b.length < _
    unfold maxLen at h1
    omega
  · intro p hp
    obtain ⟨f, hf, rfl⟩ := List.mem_map.1 hp
    exact (h.2.1 f hf).2.2.2.2.1

theorem fcells_append (a b : List Fd) : fcells (a ++ b) = fcells a ++ fcells b := by simp [fcells]

section
variable {P : Program} (w : World)
theorem run_append_fields (base : Nat) (t ty e : TypeId) (i : TypeInfo) (z : Value) (ht : P.underlying t = some (.slice e)) (hi : P.info? e = some i) (hz : i.zero = some z)
    (hsize : i.size = 4) (hby : i.bytes = 48) (hzs : z.cells.size = 4)
    (v : Value) (n : Nat) (xs : List Fd) (hown : w.ownsRow base e 4 v n (fcells xs))
    (B : Nat) (A : Option Addr) (m c : Nat) (l : List Fd) (hl : FHolds w B A m l) (hroom : n + m ≤ 1000000000000) (hbase : base ≤ w.heap.size) :
    ∃ v' w', (Builtin.append_ #[t, t] ty #[v, .slice A m c]).run P w = .ok v' w' ∧ w'.ownsRow base e 4 v' (n + m) (fcells (xs ++ l)) ∧ w.grownBy w' v.ownBlock := by
  have hlen := hl.1
  rcases A with _ | ad
  · have hm : m = 0 := by
      rcases Nat.eq_zero_or_pos m with h | h
      · exact h
      · obtain ⟨_, _, h, _⟩ := hl.2.2 h
        cases h
    subst hm
    have : l = [] := List.eq_nil_of_length_eq_zero hlen
    subst this
    refine ⟨v, w, ?_, by simpa using hown, World.grownBy.refl w _⟩
    rcases hown.2 with ⟨rfl, rfl⟩ | ⟨g, cap, cur, rfl, _, _, hnc, _⟩
    · simp [Builtin.append_, run_underlying ht, sizeOf, typeInfo, hi, Builtin.lenOf, Builtin.firstCells]
    · simp [Builtin.append_, run_underlying ht, sizeOf, typeInfo, hi, Builtin.lenOf, Builtin.firstCells, hnc, storeCells]
  · obtain ⟨v', w', h1, h2, h3, _, _⟩ := run_append_own_at (P := P) w base t ty e i z 4 48 ht hi hz hsize hby hzs (by omega) v n (fcells xs) hown ad m c (fcells l) (by rw [fcells_len, hlen])
      (fun j u hu => by
        have hj : j < l.length * 4 := by
          have := (List.getElem?_eq_some_iff.1 hu).1
          rwa [fcells_len] at this
        have hq : j / 4 < l.length := by omega
        obtain ⟨b, off, h, _, hc⟩ := hl.2.2 (by omega)
        obtain rfl := Option.some.inj h
        have hr : j % 4 < (l[j / 4]).cells.size := by simp [Fd.cells]; omega
        have hf : l[j / 4]? = some l[j / 4] := List.getElem?_eq_getElem hq
        have hcell : (l[j / 4]).cells[j % 4]? = some ((l[j / 4]).cells[j % 4]) := Array.getElem?_eq_getElem hr
        have h5 := fcells_get l (j / 4) (j % 4) _ _ hf hcell
        have h6 := hc (j / 4) _ hf (j % 4) _ hcell
        rw [show j / 4 * 4 + j % 4 = j from by omega, hu] at h5
        rw [Addr.add_lit, show off + j = off + j / 4 * 4 + j % 4 from by omega, h6, ← h5]) (fcells_cell l) (by simp only [maxLen]; omega) (by omega) hbase
    exact ⟨v', w', h1, by rw [fcells_append]; exact h2, h3⟩

theorem wpList_append_fields {ops : Array Oper} {rest : List Oper} {o : Oper} {a : Act} {Q : Exit → Act → World → Prop} (hgd : o.guard = none) (s x : Operand) (t : TypeId)
    (ho : o.op = .call { callee := .builtin .append, args := #[s, x], argTypes := #[t, t] })
    (base : Nat) (e : TypeId) (i : TypeInfo) (z : Value) (ht : P.underlying t = some (.slice e)) (hi : P.info? e = some i) (hz : i.zero = some z)
    (hsize : i.size = 4) (hby : i.bytes = 48) (hzs : z.cells.size = 4)
    (v : Value) (n : Nat) (xs : List Fd) (hs : a.eval s = v) (hown : w.ownsRow base e 4 v n (fcells xs))
    (B : Nat) (A : Option Addr) (m c : Nat) (l : List Fd) (hx : a.eval x = .slice A m c) (hl : FHolds w B A m l) (hroom : n + m ≤ 1000000000000) (hbase : base ≤ w.heap.size)
    (h : ∀ v' w', w'.ownsRow base e 4 v' (n + m) (fcells (xs ++ l)) → w.grownBy w' v.ownBlock → wpList P ops Q rest (a.put o.dst v') w') : wpList P ops Q (o :: rest) a w := by
  refine wpList_plain hgd fun K hK => ?_
  obtain ⟨v', w', hr, h2, h3⟩ := run_append_fields (P := P) w base t o.type e i z ht hi hz hsize hby hzs v n xs hown B A m c l hl hroom hbase
  unfold Oper.wp execOp
  simp only [ho, resolve, invoke, builtin, Sem.run_bind, Sem.run_pure, Result.andThen_ok, List.map_toArray, List.map_cons, List.map_nil, hs, hx, hr]
  exact hK _ _ (h v' w' h2 h3)
end
theorem nt_later_grown {w w' : World} {base e size n : Nat} {v : Value} {xs : List Value} (ho : w.ownsRow base e size v n xs) (hb : base ≤ w.heap.size) (hg : w.grownBy w' v.ownBlock) : Below base w w' :=
  (Below.refl _ _).grown hg hb fun k hk => (ho.lt k hk).1
end Go.Proofs.YtdkiopajilakcaaGreatDoor
/- Worlds of which all but one block is as it was; objects of the call's own that are written again and again. -/
namespace Go.Proofs.YtdkiopajilakcaaGreatDoor
open Go.RowKit

theorem grown_set (w : World) (g o : Nat) (v : Value) : w.grownBy (w.setCell ⟨g, o, none⟩ v) (some g) :=
  ⟨rfl, rfl, rfl, by simp [World.setCell], fun i hi hne => Below.heap_setCell _ _ _ _ (fun e => hne (by rw [e]))⟩
theorem below_drewN (B : Nat) (w : World) (n : Nat) : Below B w (w.drewN n) := ⟨rfl, rfl, rfl, Nat.le_refl _, fun _ _ => rfl⟩
def BlockAt (T : TypeId) (w : World) (g : Nat) (cs : List Value) : Prop := w.heap[g]? = some (.cells cs.toArray T (0, 0))
section
variable {T : TypeId} {w w' : World} {g : Nat} {cs : List Value}
theorem BlockAt.lt (h : BlockAt T w g cs) : g < w.heap.size := lt_of_block h
theorem BlockAt.cell (h : BlockAt T w g cs) {i : Nat} {v : Value} (hi : cs[i]? = some v) : w.cell? ⟨g, i, none⟩ = some v := by
  have h' : w.heap[g]? = some (.cells cs.toArray T (0, 0)) := h
  simp [World.cell?, h', hi]
theorem BlockAt.free (h : BlockAt T w g cs) (i : Nat) : w.frozen? ⟨g, i, none⟩ = false := by
  have h' : w.heap[g]? = some (.cells cs.toArray T (0, 0)) := h
  simp [World.frozen?, h']
theorem BlockAt.set (h : BlockAt T w g cs) (i : Nat) (v : Value) : BlockAt T (w.setCell ⟨g, i, none⟩ v) g (cs.set i v) := by
  have hlt := h.lt
  have h' : w.heap[g] = .cells cs.toArray T (0, 0) := by
    have h2 : w.heap[g]? = some (.cells cs.toArray T (0, 0)) := h
    simpa [Array.getElem?_eq_getElem hlt] using h2
  show (w.heap.modify g _)[g]? = _
  rw [Array.getElem?_eq_getElem (by simpa using hlt), Array.getElem_modify_self, h']
  simp
theorem BlockAt.kept (h : BlockAt T w g cs) (hk : w'.heap[g]? = w.heap[g]?) : BlockAt T w' g cs := by
  show w'.heap[g]? = _
  rw [hk]
  exact h
theorem BlockAt.below {B : Nat} (h : BlockAt T w g cs) (hb : Below B w w') (hg : g < B) : BlockAt T w' g cs := h.kept (hb.block g hg)
theorem BlockAt.other {r : Option Nat} (h : BlockAt T w g cs) (hg : w.grownBy w' r) (hr : some g ≠ r) : BlockAt T w' g cs := h.kept (hg.block g h.lt hr)
end
end Go.Proofs.YtdkiopajilakcaaGreatDoor
/- Worlds of which all but some blocks are as they were. -/
namespace Go.Proofs.YtdkiopajilakcaaGreatDoor
open Go.RowKit

structure Turned (S : Nat → Prop) (w w' : World) : Prop where
  os : w'.os = w.os
  tape : w'.tape = w.tape
  output : w'.output = w.output
  size : w.heap.size ≤ w'.heap.size
  block : ∀ i, i < w.heap.size → ¬ S i → w'.heap[i]? = w.heap[i]?
section
variable {S : Nat → Prop} {a b c : World}
theorem Turned.refl (S : Nat → Prop) (w : World) : Turned S w w := ⟨rfl, rfl, rfl, Nat.le_refl _, fun _ _ _ => rfl⟩
theorem Turned.trans (h : Turned S a b) (k : Turned S b c) : Turned S a c :=
  ⟨k.os.trans h.os, k.tape.trans h.tape, k.output.trans h.output, Nat.le_trans h.size k.size, fun i hi hs => (k.block i (Nat.lt_of_lt_of_le hi h.size) hs).trans (h.block i hi hs)⟩
theorem Turned.of_below (h : Below a.heap.size a b) (S : Nat → Prop) : Turned S a b := ⟨h.os, h.tape, h.output, h.size, fun i hi _ => h.block i hi⟩
theorem Turned.of_grown {r : Option Nat} (h : a.grownBy b r) (hr : ∀ g, r = some g → S g) : Turned S a b :=
  ⟨h.os, h.tape, h.output, h.size, fun i hi hs => h.block i hi (fun e => hs (hr i e.symm))⟩
theorem Turned.onto {T : Nat → Prop} (h : Turned S a b) (k : Turned T b c) (ht : ∀ i, T i → S i ∨ a.heap.size ≤ i) : Turned S a c :=
  ⟨k.os.trans h.os, k.tape.trans h.tape, k.output.trans h.output, Nat.le_trans h.size k.size, fun i hi hs => (k.block i (Nat.lt_of_lt_of_le hi h.size) (fun e => (ht i e).elim hs (by omega))).trans (h.block i hi hs)⟩
theorem Turned.kept (h : Turned S a b) {F : Nat → Prop} (hf : ∀ i, F i → ¬ S i) : Kept F a b := ⟨h.size, fun i hi hF => h.block i hi (hf i hF)⟩
theorem Turned.mono {T : Nat → Prop} (h : Turned S a b) (ht : ∀ i, S i → T i) : Turned T a b := ⟨h.os, h.tape, h.output, h.size, fun i hi hs => h.block i hi (fun e => hs (ht i e))⟩
theorem Turned.below {B : Nat} (h : Turned S a b) (hs : ∀ i, S i → B ≤ i) (hB : B ≤ a.heap.size) : Below B a b :=
  ⟨h.os, h.tape, h.output, h.size, fun i hi => h.block i (Nat.lt_of_lt_of_le hi hB) (fun e => by have := hs i e; omega)⟩
theorem Turned.drewN (S : Nat → Prop) (w : World) (n : Nat) : Turned S w (w.drewN n) := ⟨rfl, rfl, rfl, Nat.le_refl _, fun _ _ _ => rfl⟩
end
end Go.Proofs.YtdkiopajilakcaaGreatDoor
/- Blocks that are known whole: a struct read out of one, a struct written into one, at an operation; results that lie in such blocks. -/
namespace Go.Proofs.YtdkiopajilakcaaGreatDoor
open Go.RowKit

def putAt : Array Value → Nat → List Value → Array Value
  | cs, _, [] => cs
  | cs, o, v :: r => putAt (cs.setIfInBounds o v) (o + 1) r

theorem heap_setCells (b : Nat) {T : TypeId} : ∀ (vs : List Value) (o : Nat) (w : World) (cs : Array Value), w.heap[b]? = some (.cells cs T (0, 0)) → (w.setCells b o vs).heap[b]? = some (.cells (putAt cs o vs) T (0, 0))
  | [], _, _, _, h => h
  | v :: r, o, w, cs, h => heap_setCells b r (o + 1) _ _ (heap_setCell_same w b o cs T v h)
theorem grown_setCells (b : Nat) : ∀ (vs : List Value) (o : Nat) (w : World), w.grownBy (w.setCells b o vs) (some b)
  | [], _, w => World.grownBy.refl w _
  | v :: r, o, w => by
    have h1 : w.grownBy (w.setCell ⟨b, o, none⟩ v) (some b) := ⟨rfl, rfl, rfl, by simp [World.setCell], fun i hi hne => heap_setCell_other _ _ _ _ (fun e => hne (by rw [e]))⟩
    exact h1.trans (grown_setCells b r (o + 1) _)

section
variable {P : Program} {ops : Array Oper} {rest : List Oper} {op : Oper} {a : Act} {w : World} {Q : Exit → Act → World → Prop}

theorem wpList_load_box (hgd : op.guard = none) (ty : TypeId) (x : Operand) (ho : op.op = .load ty x)
    (g o : Nat) (hx : a.eval x = .pointer (some ⟨g, o, none⟩)) (T : TypeId) (cs : Array Value) (hg : w.heap[g]? = some (.cells cs T (0, 0))) (n : Nat) (d : TypeDesc)
    (hu : P.underlying ty = some d) (hd : d.isRow = true) (hi : (P.info? ty).map (·.size) = some n) (part : List Value) (hp : (cs.toList.drop o).take n = part) (hn : part.length = n)
    (h : wpList P ops Q rest (a.put op.dst (.agg part.toArray)) w) : wpList P ops Q (op :: rest) a w :=
  wpList_load_mid hgd ty x ho g o hx part d (fun j v hv => by
    rw [cell_of_row w g (o + j) cs T (0, 0) hg]
    have hj : j < n := by rw [← hn]; exact (List.getElem?_eq_some_iff.1 hv).1
    rw [← hp, List.getElem?_take_of_lt hj, List.getElem?_drop] at hv
    simpa using hv) hu hd (by rw [hn]; exact hi) h

theorem wpList_store_box (hgd : op.guard = none) (ty : TypeId) (x y : Operand) (ho : op.op = .store ty x y)
    (g o : Nat) (cells : Array Value) (hx : a.eval x = .pointer (some ⟨g, o, none⟩)) (hy : a.eval y = .agg cells) (T : TypeId) (cs : Array Value) (hg : w.heap[g]? = some (.cells cs T (0, 0)))
    (hi : (P.info? ty).map (·.size) = some cells.size) (hfit : o + cells.size ≤ cs.size) (h1 : ∀ u ∈ cells.toList, u.oneCell' = true)
    (h : ∀ w', w'.heap[g]? = some (.cells (putAt cs o cells.toList) T (0, 0)) → w.grownBy w' (some g) → wpList P ops Q rest (a.put op.dst undef) w') : wpList P ops Q (op :: rest) a w :=
  wpList_store_mid hgd ty x y ho g o cells hx hy (fun j hj => ⟨by rw [cell_of_row w g (o + j) cs T (0, 0) hg]; simp; omega, frozen_of_row w g _ cs T hg⟩) hi
    (Array.all_eq_true_iff_forall_mem.2 fun v hv => h1 v (by simpa using hv)) (h _ (heap_setCells g _ o w cs hg) (grown_setCells g _ o w))
end

section
variable {P : Program} {op : Oper} {a : Act} {w : World}
theorem exec_load_box (ty : TypeId) (x : Operand) (ho : op.op = .load ty x)
    (g o : Nat) (hx : a.eval x = .pointer (some ⟨g, o, none⟩)) (T : TypeId) (cs : Array Value) (hg : w.heap[g]? = some (.cells cs T (0, 0))) (n : Nat) (d : TypeDesc)
    (hu : P.underlying ty = some d) (hd : d.isRow = true) (hi : (P.info? ty).map (·.size) = some n) (part : List Value) (hp : (cs.toList.drop o).take n = part) (hn : part.length = n) :
    (execOp a.eval op).run P w = .ok (.value (.agg part.toArray)) w := by
  have hr : w.rangeAt g o part := fun j v hv => by
    rw [cell_of_row w g (o + j) cs T (0, 0) hg]
    have hj : j < n := by rw [← hn]; exact (List.getElem?_eq_some_iff.1 hv).1
    rw [← hp, List.getElem?_take_of_lt hj, List.getElem?_drop] at hv
    simpa using hv
  unfold execOp
  simp only [ho, hx, Instr.loadAt, Instr.sureAddr, Sem.run_bind, Sem.run_pure, Result.andThen_ok, run_loadVar_mid w g o ty part d hr hu hd (by rw [hn]; exact hi)]
theorem exec_load_range (ty : TypeId) (x : Operand) (ho : op.op = .load ty x)
    (g o : Nat) (hx : a.eval x = .pointer (some ⟨g, o, none⟩)) (part : List Value) (hr : w.rangeAt g o part) (d : TypeDesc)
    (hu : P.underlying ty = some d) (hd : d.isRow = true) (hi : (P.info? ty).map (·.size) = some part.length) :
    (execOp a.eval op).run P w = .ok (.value (.agg part.toArray)) w := by
  unfold execOp
  simp only [ho, hx, Instr.loadAt, Instr.sureAddr, Sem.run_bind, Sem.run_pure, Result.andThen_ok, run_loadVar_mid w g o ty part d hr hu hd hi]
theorem wp_store_box {K : Act → World → Prop} {Q : Exit → Act → World → Prop} (ty : TypeId) (x y : Operand) (ho : op.op = .store ty x y)
    (g o : Nat) (cells : Array Value) (hx : a.eval x = .pointer (some ⟨g, o, none⟩)) (hy : a.eval y = .agg cells) (T : TypeId) (cs : Array Value) (hg : w.heap[g]? = some (.cells cs T (0, 0)))
    (hi : (P.info? ty).map (·.size) = some cells.size) (hfit : o + cells.size ≤ cs.size) (h1 : ∀ u ∈ cells.toList, u.oneCell' = true)
    (h : ∀ w', w'.heap[g]? = some (.cells (putAt cs o cells.toList) T (0, 0)) → w.grownBy w' (some g) → K (a.put op.dst undef) w') : op.wp P a w K Q :=
  wp_store_mid ty x y ho g o cells hx hy (fun j hj => ⟨by rw [cell_of_row w g (o + j) cs T (0, 0) hg]; simp; omega, frozen_of_row w g _ cs T hg⟩) hi
    (Array.all_eq_true_iff_forall_mem.2 fun v hv => h1 v (by simpa using hv)) (h _ (heap_setCells g _ o w cs hg) (grown_setCells g _ o w))
end

theorem putAt_size : ∀ (vs : List Value) (o : Nat) (cs : Array Value), (putAt cs o vs).size = cs.size
  | [], _, _ => rfl
  | v :: r, o, cs => by rw [putAt, putAt_size r (o + 1)]; simp
theorem putAt_toList : ∀ (vs : List Value) (o : Nat) (cs : Array Value), o + vs.length ≤ cs.size → (putAt cs o vs).toList = cs.toList.take o ++ vs ++ cs.toList.drop (o + vs.length)
  | [], o, cs, _ => by simp [putAt]
  | v :: r, o, cs, h => by
    have hlt : o < cs.size := by simp at h; omega
    have ih := putAt_toList r (o + 1) (cs.setIfInBounds o v) (by simp at h ⊢; omega)
    rw [putAt, ih, Array.toList_setIfInBounds, List.take_succ_eq_append_getElem (by simpa using hlt), List.take_set_of_le (Nat.le_refl _), List.drop_set_of_lt (by omega)]
    simp [Nat.add_assoc, Nat.add_comm 1]
section
variable {P : Program}
theorem results_box2 {fn : Func} {p q : Tmp} {ty : TypeId} (h : fn.results = #[.cell p ty, .tmp q]) (tmps : Array Value) (w : World) (g : Nat) (T : TypeId) (cs : Array Value) (d : TypeDesc)
    (hp : tmps.getD p undef = .pointer (some ⟨g, 0, none⟩)) (hg : w.heap[g]? = some (.cells cs T (0, 0)))
    (hu : P.underlying ty = some d) (hd : (match d with | .struct _ | .array _ _ => true | _ => false) = true) (hi : (P.info? ty).map (·.size) = some cs.size) (v : Value) (hv : tmps.getD q undef = v) :
    (results fn tmps).run P w = .ok (.tuple #[.agg cs, v]) w := by
  have hp' : tmps[p]?.getD undef = .pointer (some ⟨g, 0, none⟩) := by simpa using hp
  have hv' : tmps[q]?.getD undef = v := by simpa using hv
  simp [results, h, hp', hv', asAddr, run_loadVar_row w g T ty cs (0, 0) d hg hu hd hi]
end
end Go.Proofs.YtdkiopajilakcaaGreatDoor
/- Parts of a record in memory: how they lie there; what is said of how they write and read. -/
namespace Go.Proofs.YtdkiopajilakcaaGreatDoor
open Go.RowKit

structure PartV where
  num : Int
  wf : FuncId
  wc : Array Value
  rf : FuncId
  rc : Array Value
namespace PartV
def cells (p : PartV) : List Value := [.int .i64 p.num, .func (.func p.wf) #[] p.wc, .func (.func p.rf) #[] p.rc]
theorem len (p : PartV) : p.cells.length = 3 := rfl
theorem one (p : PartV) : ∀ u ∈ p.cells, u.oneCell' = true := by simp [cells, Value.oneCell']
end PartV

def Stay (a b : Nat) (w0 w : World) : Prop := b ≤ w.heap.size ∧ ∀ k, a ≤ k → k < b → w.heap[k]? = w0.heap[k]?
theorem Stay.refl {a b : Nat} {w : World} (h : b ≤ w.heap.size) : Stay a b w w := ⟨h, fun _ _ _ => rfl⟩
theorem Stay.later {a b : Nat} {w0 w w' : World} (h : Stay a b w0 w) (hl : Later w w') : Stay a b w0 w' :=
  ⟨Nat.le_trans h.1 (Below.size hl), fun k h1 h2 => (Below.block hl k (Nat.lt_of_lt_of_le h2 h.1)).trans (h.2 k h1 h2)⟩
theorem Stay.turned {a b : Nat} {w0 w w' : World} {P : Nat → Prop} (h : Stay a b w0 w) (ht : Turned P w w') (hP : ∀ k, a ≤ k → k < b → ¬ P k) : Stay a b w0 w' :=
  ⟨Nat.le_trans h.1 ht.size, fun k h1 h2 => (ht.block k (Nat.lt_of_lt_of_le h2 h.1) (hP k h1 h2)).trans (h.2 k h1 h2)⟩
theorem Stay.part {a b a1 b1 : Nat} {w0 w1 w : World} (h : Stay a b w0 w) (ha : a ≤ a1) (hb : b1 ≤ b) (h1 : b1 ≤ w1.heap.size) (hl : Later w1 w0) : Stay a1 b1 w1 w :=
  ⟨Nat.le_trans hb h.1, fun k h2 h3 => (h.2 k (by omega) (by omega)).trans (Below.block hl k (by omega))⟩

def FdAt (w : World) (f : Fd) : Prop := f.ok w w.heap.size ∧ (0 < f.n → ∃ b off cs fr, f.a = some ⟨b, off, none⟩ ∧ w.heap[b]? = some (.cells cs 5 fr))
theorem FdAt.ok {w : World} {f : Fd} (h : FdAt w f) : f.ok w w.heap.size := h.1
theorem FdAt.of_heap {w w' : World} {f : Fd} (h : FdAt w f) (hsz : w.heap.size ≤ w'.heap.size) (hk : ∀ (b : Nat) (cs : Array Value) (fr : Nat × Nat), w.heap[b]? = some (.cells cs 5 fr) → w'.heap[b]? = w.heap[b]?) : FdAt w' f := by
  obtain ⟨⟨h1, h2, h3, h4⟩, h5⟩ := h
  refine ⟨⟨h1, h2, h3, h4.1, h4.2.1, fun hn => ?_⟩, fun hn => ?_⟩
  · obtain ⟨b, off, cs, fr, ha, hb⟩ := h5 hn
    obtain ⟨b', off', ha', hlt, hc⟩ := h4.2.2 hn
    obtain ⟨rfl, rfl⟩ : b = b' ∧ off = off' := by rw [ha] at ha'; injection ha' with e; injection e with e1 e2; exact ⟨e1, e2⟩
    refine ⟨b, off, ha, by omega, fun i hi => ?_⟩
    rw [World.cell?_of_block (w := w) (hk b cs fr hb)]
    exact hc i hi
  · obtain ⟨b, off, cs, fr, ha, hb⟩ := h5 hn
    exact ⟨b, off, cs, fr, ha, (hk b cs fr hb).trans hb⟩
theorem FdAt.below {w w' : World} {f : Fd} (h : FdAt w f) (hl : Later w w') : FdAt w' f := h.of_heap (Below.size hl) fun b _ _ hb => Below.block hl b (lt_of_block hb)
theorem FdAt.kept {w w' : World} {base e size n : Nat} {v : Value} {xs : List Value} {f : Fd} (h : FdAt w f) (ho : w.ownsRow base e size v n xs) (hg : w.grownBy w' v.ownBlock) (hne : e ≠ 5) : FdAt w' f :=
  h.of_heap hg.size fun b cs fr hb => hg.block b (lt_of_block hb) (fun e2 => by
    rcases ho.2 with ⟨rfl, _⟩ | ⟨g', cap, cur, rfl, _, hh, _⟩
    · simp [Value.ownBlock] at e2
    · have e3 : b = g' := by simpa [Value.ownBlock] using e2
      rw [← e3, hb] at hh
      injection hh with hh
      injection hh with _ ht
      exact hne ht.symm)
theorem FdOwn.at_ {w : World} {base : Nat} {f : Fd} (h : FdOwn w base f) : FdAt w f := ⟨h.ok, fun hn => by
  rcases h.2.2.2.2 with ⟨_, h0⟩ | ⟨g, cap, cur, hv, _, hb, _⟩
  · omega
  · injection hv with e1 _ _
    exact ⟨g, 0, cur, _, e1, hb⟩⟩
theorem FdAt.plain {w : World} {h : Int} {V : Nat} (hh : I64 h) (hV : V < 18446744073709551616) : FdAt w ⟨h, false, V, none, 0, 0, []⟩ := ⟨⟨hh, hV, Nat.le_refl _, Holds.nil_ _ _⟩, fun hn => by cases hn⟩

def FieldsIs (fs : List PF) (w : World) (e : Ending) (w' : World) : Prop :=
  ∃ A n c fds, e = .returned (.slice A n c) ∧ FHolds w' w'.heap.size A n fds ∧ (∀ f ∈ fds, FdAt w' f) ∧ fds.map Fd.pf = fs ∧ n ≤ c ∧ Later w w'

def NtEnters (F : FuncId) : Prop := ∀ (args : Array Value) (w : World), (callFunc F args).run Tryz.prog w = .ok (.enter F args) w
def WrOK (a b : Nat) (w0 : World) (St : World → Prop) (p : PartV) (fs : List PF) : Prop :=
  NtEnters p.wf ∧ ∀ w, Stay a b w0 w → St w → Calls Tryz.prog p.wf p.wc w (FieldsIs fs w)
theorem WrOK.part {a b a1 b1 : Nat} {w0 w1 : World} {St : World → Prop} {p : PartV} {fs : List PF} (h : WrOK a1 b1 w1 St p fs) (ha : a ≤ a1) (hb : b1 ≤ b) (h1 : b1 ≤ w1.heap.size) (hl : Later w1 w0) : WrOK a b w0 St p fs :=
  ⟨h.1, fun w hs hst => h.2 w (hs.part ha hb h1 hl) hst⟩
theorem WrOK.st {a b : Nat} {w0 : World} {St St' : World → Prop} {p : PartV} {fs : List PF} (h : WrOK a b w0 St p fs) (hs : ∀ w, St' w → St w) : WrOK a b w0 St' p fs := ⟨h.1, fun w h1 h2 => h.2 w h1 (hs w h2)⟩

structure InvOK {S : Type} (Inv : (Nat → Prop) → S → World → Prop) : Prop where
  mono : ∀ P Q s w, (∀ k, k < w.heap.size → P k → Q k) → Inv P s w → Inv Q s w
  keep : ∀ P s w w', Kept P w w' → Inv P s w → Inv P s w'

def RdOK {S : Type} (a b : Nat) (w0 : World) (Inv : (Nat → Prop) → S → World → Prop) (sz : S → Nat) (p : PartV) (act : S → PF → S) : Prop :=
  NtEnters p.rf ∧ ∀ (P : Nat → Prop) (s : S) (w : World) (f : Fd), Stay a b w0 w → (∀ k, a ≤ k → k < b → ¬ P k) → (∀ k, w.heap.size ≤ k → P k) → Inv P s w → f.ok w w.heap.size → sz s + 1 + f.n ≤ 1000000 →
    Calls Tryz.prog p.rf (#[f.val] ++ p.rc) w fun e w' => e = .returned (.tuple #[]) ∧ Inv P (act s f.pf) w' ∧ Turned P w w'
theorem RdOK.part {S : Type} {a b a1 b1 : Nat} {w0 w1 : World} {Inv : (Nat → Prop) → S → World → Prop} {sz : S → Nat} {p : PartV} {act : S → PF → S} (h : RdOK a1 b1 w1 Inv sz p act) (ha : a ≤ a1) (hb : b1 ≤ b) (h1 : b1 ≤ w1.heap.size) (hl : Later w1 w0) : RdOK a b w0 Inv sz p act :=
  ⟨h.1, fun P s w f hs hP => h.2 P s w f (hs.part ha hb h1 hl) (fun k h2 h3 => hP k (by omega) (by omega))⟩

def NtPartsAt (a b : Nat) (w : World) (v : Value) (ps : List PartV) : Prop := FlatAt (fun k => a ≤ k ∧ k < b) w 3 v ps.length (ps.flatMap PartV.cells)
theorem NtPartsAt.at_ {a b : Nat} {w : World} {v : Value} {ps : List PartV} (h : NtPartsAt a b w v ps) {i : Nat} (hi : i < ps.length) : ∃ p k off c, ps[i]? = some p ∧ v = .slice (some ⟨k, off, none⟩) ps.length c ∧ ps.length ≤ c ∧ k < w.heap.size ∧
    w.cell? ⟨k, off + i * 3, none⟩ = some (.int .i64 p.num) ∧ w.cell? ⟨k, off + i * 3 + 1, none⟩ = some (.func (.func p.wf) #[] p.wc) ∧ w.cell? ⟨k, off + i * 3 + 2, none⟩ = some (.func (.func p.rf) #[] p.rc) := by
  obtain ⟨k, off, c, hv, hc, hf, hb, hr⟩ := FlatAt.elem h hi
  have hs : ps[i]? = some ps[i] := List.getElem?_eq_getElem hi
  rw [flat_get PartV.cells 3 ps i _ (fun y _ => y.len) hs] at hr
  exact ⟨ps[i], k, off, c, hs, hv, hc, hb, hr 0 _ rfl, hr 1 _ rfl, hr 2 _ rfl⟩
theorem NtPartsAt.stay {a b : Nat} {w w' : World} {v : Value} {ps : List PartV} (h : NtPartsAt a b w v ps) (hs : Stay a b w w') (hsz : w.heap.size ≤ w'.heap.size) : NtPartsAt a b w' v ps :=
  FlatAt.kept h ⟨hsz, fun i _ hi => hs.2 i hi.1 hi.2⟩

inductive All2 {α β : Type} (R : α → β → Prop) : List α → List β → Prop
  | nil : All2 R [] []
  | cons {x : α} {y : β} {l : List α} {m : List β} : R x y → All2 R l m → All2 R (x :: l) (y :: m)
theorem All2.imp {α β : Type} {R R' : α → β → Prop} (h : ∀ x y, R x y → R' x y) : ∀ {l : List α} {m : List β}, All2 R l m → All2 R' l m
  | _, _, .nil => .nil
  | _, _, .cons h1 h2 => .cons (h _ _ h1) (All2.imp h h2)
def WrAll (a b : Nat) (w0 : World) (St : World → Prop) (ps : List PartV) (fss : List (List PF)) : Prop := All2 (fun p fs => WrOK a b w0 St p fs) ps fss
def RdAll {S : Type} (a b : Nat) (w0 : World) (Inv : (Nat → Prop) → S → World → Prop) (sz : S → Nat) (ps : List PartV) (acts : Parts S) : Prop := All2 (fun p q => p.num = q.1 ∧ RdOK a b w0 Inv sz p q.2) ps acts

theorem all2_at {α β : Type} {R : α → β → Prop} : ∀ {l : List α} {m : List β}, All2 R l m → ∀ {i : Nat} {x : α}, l[i]? = some x → ∃ y, m[i]? = some y ∧ R x y
  | _, _, .nil, _, _, h => by simp at h
  | _, _, .cons h1 _, 0, x, h => by
    obtain rfl : _ = x := by simpa using h
    exact ⟨_, rfl, h1⟩
  | _, _, .cons _ h2, i + 1, x, h => all2_at h2 (by simpa using h)
theorem all2_len {α β : Type} {R : α → β → Prop} : ∀ {l : List α} {m : List β}, All2 R l m → l.length = m.length
  | _, _, .nil => rfl
  | _, _, .cons _ h => by simp [all2_len h]

theorem take_flat {fss : List (List PF)} {k : Nat} {fs : List PF} (h : fss[k]? = some fs) : (fss.take (k + 1)).flatten = (fss.take k).flatten ++ fs := by
  rw [List.take_add_one, h]
  simp
theorem take_flat_room (fss : List (List PF)) (k : Nat) : proom (fss.take k).flatten ≤ proom fss.flatten := by
  have : fss.flatten = (fss.take k).flatten ++ (fss.drop k).flatten := by rw [← List.flatten_append, List.take_append_drop]
  rw [this, proom_append]
  omega
theorem proom_count : ∀ ps : List PF, ps.length * 20 ≤ proom ps
  | [] => by simp [proom]
  | p :: r => by
    have := proom_count r
    simp only [proom, List.map_cons, List.sum_cons, List.length_cons] at *
    omega
theorem room_pf : ∀ (fs : List Fd), (∀ f ∈ fs, f.b.length = f.n) → room fs = proom (fs.map Fd.pf)
  | [], _ => rfl
  | f :: r, h => by
    have := room_pf r fun g hg => h g (by simp [hg])
    have h1 := h f (by simp)
    simp only [room, proom, List.map_cons, List.sum_cons, Fd.pf] at *
    omega
theorem own_same_low {w w' : World} {base e size n : Nat} {v : Value} {xs : List Value} (h : w.ownsRow base e size v n xs) (hk : ∀ g, base ≤ g → g < w.heap.size → w'.heap[g]? = w.heap[g]?) : w'.ownsRow base e size v n xs := by
  refine ⟨h.1, ?_⟩
  rcases h.2 with hn | ⟨g, cap, cur, rfl, hb, hg, rest⟩
  · exact .inl hn
  · exact .inr ⟨g, cap, cur, rfl, hb, (hk g hb (lt_of_block hg)).trans hg, rest⟩
theorem FdOwn.low {w w' : World} {base : Nat} {f : Fd} (h : FdOwn w base f) (hk : ∀ g, base ≤ g → g < w.heap.size → w'.heap[g]? = w.heap[g]?) : FdOwn w' base f := ⟨h.1, h.2.1, h.2.2.1, own_same_low h.2.2.2 hk⟩
end Go.Proofs.YtdkiopajilakcaaGreatDoor
/- A long chain of '&&' over fields of two structs, one conjunct at a time: the frame is known by four of its slots alone. -/
namespace Go.Proofs.YtdkiopajilakcaaGreatDoor
open Go.RowKit

structure Fr (X Y : Value) (k : Nat) (c : Bool) (n : Nat) (a : Act) : Prop where
  x : a.tmps[2]? = some X
  y : a.tmps[3]? = some Y
  c : a.tmps[k]? = some (.bool c)
  n : a.tmps.size = n
  d : a.defers = []
theorem put_tmps (a : Act) (d : Nat) (v : Value) (i : Nat) : (a.put (some d) v).tmps[i]? = if d = i then (if i < a.tmps.size then some v else none) else a.tmps[i]? := by
  show (a.tmps.setIfInBounds d v)[i]? = _
  rw [Array.getElem?_setIfInBounds]
  by_cases h : d = i
  · subst h
    simp
  · simp [h]
theorem put_other (a : Act) (d : Nat) (v : Value) (i : Nat) (h : d ≠ i) : (a.put (some d) v).tmps[i]? = a.tmps[i]? := by rw [put_tmps, if_neg h]
theorem put_size (a : Act) (d : Nat) (v : Value) : (a.put (some d) v).tmps.size = a.tmps.size := by simp [Act.put]
structure Fr0 (X Y : Value) (n : Nat) (a : Act) : Prop where
  x : a.tmps[2]? = some X
  y : a.tmps[3]? = some Y
  n : a.tmps.size = n
  d : a.defers = []
section
variable {X Y : Value} {k n : Nat} {c : Bool} {a : Act}
theorem Fr0.put (h : Fr0 X Y n a) (d : Nat) (v : Value) (h2 : d ≠ 2) (h3 : d ≠ 3) : Fr0 X Y n (a.put (some d) v) := ⟨(put_other a d v 2 h2).trans h.x, (put_other a d v 3 h3).trans h.y, (put_size a d v).trans h.n, h.d⟩
theorem Fr.put (h : Fr X Y k c n a) (d : Nat) (v : Value) (h2 : d ≠ 2) (h3 : d ≠ 3) (hk : d ≠ k) : Fr X Y k c n (a.put (some d) v) :=
  ⟨(put_other a d v 2 h2).trans h.x, (put_other a d v 3 h3).trans h.y, (put_other a d v k hk).trans h.c, (put_size a d v).trans h.n, h.d⟩
variable {P : Program} {ops : Array Oper} {Q : Exit → Act → World → Prop} {rest : List Oper} {w : World}
theorem wpList_val {o : Oper} {d : Nat} {v : Value} {w' : World} (hd : o.dst = some d) (hw : Region.wanted o (yielded ops a.tmps) = true) (hx : (execOp a.eval o).run P w = .ok (.value v) w')
    (h : wpList P ops Q rest (a.put (some d) v) w') : wpList P ops Q (o :: rest) a w := by
  refine wpList_step fun K hK => ?_
  rw [if_pos hw]
  unfold Oper.wp
  rw [hx, Oper.upon_value, hd]
  exact hK _ _ h
end
end Go.Proofs.YtdkiopajilakcaaGreatDoor
/- A record's fields in the making: number, text, and which fields are left out. -/
namespace Go.Proofs.YtdkiopajilakcaaGreatDoor
open Go.RowKit
def fdN (num n : Int) : Fd := ⟨num, false, zig n, none, 0, 0, []⟩
def fdT (num : Int) (A : Option Addr) (n c : Nat) (b : List Nat) : Fd := ⟨num, true, 0, A, n, c, b⟩
def Fd.out (f : Fd) : Bool := decide (f.v = 0) && decide (f.n = 0)
theorem Fd.one (f : Fd) : ∀ u ∈ f.cells.toList, u.oneCell' = true := by
  intro u hu
  simp only [Fd.cells, List.mem_cons, List.not_mem_nil, or_false] at hu
  rcases hu with rfl | rfl | rfl | rfl <;> rfl
def FBox (g : Nat) (f : Fd) (w : World) : Prop := w.heap[g]? = some (.cells f.cells 51 (0, 0))
def fdZ : Fd := ⟨0, false, 0, none, 0, 0, []⟩
section
variable {ops : Array Oper} {rest : List Oper} {op : Oper} {a : Act} {W : World} {Q : Exit → Act → World → Prop} {g : Nat} {f z : Fd}
theorem fd_put (f z : Fd) : putAt z.cells 0 f.cells.toList = f.cells := by simp [putAt, Fd.cells]
theorem wpList_store_fd (hgd : op.guard = none) (x v : Operand) (ho : op.op = .store 51 x v) (hx : a.eval x = .pointer (some ⟨g, 0, none⟩)) (hg : FBox g z W) (hy : a.eval v = f.val)
    (h : ∀ w', FBox g f w' → W.grownBy w' (some g) → wpList Tryz.prog ops Q rest (a.put op.dst undef) w') : wpList Tryz.prog ops Q (op :: rest) a W :=
  wpList_store_box hgd 51 x v ho g 0 f.cells hx hy _ _ hg (by kernel_rfl) (by exact Nat.le_of_ble_eq_true rfl) (by exact f.one) (fun w' hb hg' => h w' (by rw [fd_put] at hb; exact hb) hg')
theorem exec_load_fd (x : Operand) (ho : op.op = .load 51 x) {b off : Nat} (hx : a.eval x = .pointer (some ⟨b, off, none⟩)) (hr : W.rangeAt b off f.cells.toList) : (execOp a.eval op).run Tryz.prog W = .ok (.value f.val) W :=
  exec_load_range 51 x ho b off hx f.cells.toList hr _ Tryz.underlying51 (by rfl) (by kernel_rfl)
theorem FBox.range {g : Nat} {f : Fd} {w : World} (h : FBox g f w) : w.rangeAt g 0 f.cells.toList := fun j u hj => by
  rw [Nat.zero_add]
  have h1 := cell_of_row w g j _ _ _ h
  rw [h1, ← hj]
  simp
theorem FBox.below {g : Nat} {f : Fd} {w w' : World} (h : FBox g f w) (hl : Later w w') : FBox g f w' := (Below.block hl g (lt_of_block h)).trans h
end
section
variable {w : World}
set_option maxHeartbeats 4000000 in
set_option maxRecDepth 100000 in
theorem number_any (num n : Int) (h : I64 n) : Calls Tryz.prog 28 #[.int .i64 num, .int .i64 n] w (fun e w' => e = .returned (fdN num n).val ∧ Later w w') := by
  obtain ⟨W1, hW1⟩ : ∃ W1, W1 = w.alloc (.cells fdZ.cells 51 (0, 0)) := ⟨_, rfl⟩
  obtain ⟨d, hd⟩ : ∃ d, d = w.heap.size := ⟨_, rfl⟩
  have X1 : Hid (FBox d fdZ W1) := by rw [hW1, hd]; exact heap_alloc_new _ _
  have L1 : Hid (Later w W1) := by rw [hW1]; exact (Below.refl _ _).alloc (Nat.le_refl _) _
  have HY : Hid (w.heap.size ≤ d) := Nat.le_of_eq hd.symm
  have C := hide (zig_any n W1 h.1 h.2)
  have HW1 := hide hW1.symm
  have HG := hide hd.symm
  clear hW1 hd h
  go_enter Tryz.func28, Tryz.ntmps28
  go_wp2_with (fail)
  change Hid (w.alloc (.cells #[.int .i64 0, .bool false, .int .u64 0, .slice none 0 0] 51 (0, 0)) = W1) at HW1
  simp only [HW1.out, HG.out]
  refine C.out.mono ?_
  rintro e w2 ⟨rfl, hq⟩
  obtain rfl := hq
  go_wp2_with (refine wpList_store_fd (f := fdN num n) (by rfl) _ _ (by rfl) (by rfl) X1.out (by rfl) ?_)
  intro w9 Z9 G9
  have HZ := hide Z9
  have HLF : Hid (Later w w9) := L1.out.grown G9 (Below.size L1.out) (fun k hk => by have := Option.some.inj hk; have := HY.out; omega)
  clear Z9 G9
  go_wp2
  refine bodyPost_ret (results_cell_row Tryz.results28 _ _ d 51 _ (0, 0) _ (by rfl) HZ.out Tryz.underlying51 (by rfl) (by kernel_rfl)) (by rfl) ?_
  exact ⟨rfl, HLF.out⟩
set_option maxHeartbeats 4000000 in
set_option maxRecDepth 100000 in
theorem text_any17 (num : Int) (A : Option Addr) (n c : Nat) (b : List Nat) : Calls Tryz.prog 26 #[.int .i64 num, .slice A n c] w (fun e w' => e = .returned (fdT num A n c b).val ∧ Later w w') := by
  obtain ⟨W1, hW1⟩ : ∃ W1, W1 = w.alloc (.cells fdZ.cells 51 (0, 0)) := ⟨_, rfl⟩
  have X1 : Hid (FBox w.heap.size fdZ (w.alloc (.cells fdZ.cells 51 (0, 0)))) := heap_alloc_new _ _
  have L1 : Hid (Later w (w.alloc (.cells fdZ.cells 51 (0, 0)))) := (Below.refl _ _).alloc (Nat.le_refl _) _
  clear hW1 W1
  go_enter Tryz.func26, Tryz.ntmps26
  go_wp2_with (refine wpList_store_fd (f := fdT num A n c b) (by rfl) _ _ (by rfl) (by rfl) X1.out (by rfl) ?_)
  intro w9 Z9 G9
  have HZ := hide Z9
  have HLF : Hid (Later w w9) := L1.out.grown G9 (Below.size L1.out) (fun k hk => by have := Option.some.inj hk; omega)
  clear Z9 G9
  go_wp2
  refine bodyPost_ret (results_cell_row Tryz.results26 _ _ w.heap.size 51 _ (0, 0) _ (by rfl) HZ.out Tryz.underlying51 (by rfl) (by kernel_rfl)) (by rfl) ?_
  exact ⟨rfl, HLF.out⟩
set_option maxHeartbeats 4000000 in
set_option maxRecDepth 100000 in
theorem out_any (f : Fd) : Calls Tryz.prog 58 #[f.val] w (fun e w' => e = .returned (.bool f.out) ∧ Later w w') := by
  rw [show f.val = .agg #[.int .i64 f.num, .bool f.text, .int .u64 f.v, .slice f.a f.n f.c] from rfl]
  obtain ⟨W1, hW1⟩ : ∃ W1, W1 = w.alloc (.cells #[.int .i64 f.num, .bool f.text, .int .u64 f.v, .slice f.a f.n f.c] 51 (0, 0)) := ⟨_, rfl⟩
  have X1 : FBox w.heap.size f W1 := by rw [hW1]; exact heap_alloc_new _ _
  have L1 : Hid (Later w W1) := by rw [hW1]; exact (Below.refl _ _).alloc (Nat.le_refl _) _
  have c2 : W1.cell? ⟨w.heap.size, 2, none⟩ = some (.int .u64 f.v) := cell_of_row W1 _ 2 _ _ _ X1
  have c3 : W1.cell? ⟨w.heap.size, 3, none⟩ = some (.slice f.a f.n f.c) := cell_of_row W1 _ 3 _ _ _ X1
  rw [hW1] at c2 c3
  have HW1 := hide hW1.symm
  obtain ⟨q, hq⟩ : ∃ q, f.out = q := ⟨_, rfl⟩
  rw [hq]
  have HQ := hide hq
  clear X1 hW1 hq
  by_cases hv : f.v = 0
  · have e0 : ((f.v : Int) == 0) = true := by simp [hv]
    by_cases hn : f.n = 0
    · have e1 : ((f.n : Int) == 0) = true := by simp [hn]
      have HB : Hid (q = true) := by have := HQ.out; show q = true; rw [← this]; unfold Fd.out; simp [hv, hn]
      clear hv hn
      go_enter Tryz.func58, Tryz.ntmps58
      go_wp2
      go_ret
      rw [HW1.out]
      exact ⟨by rw [HB.out]; rfl, L1.out⟩
    · have e1 : ((f.n : Int) == 0) = false := by simp; omega
      have HB : Hid (q = false) := by have := HQ.out; show q = false; rw [← this]; unfold Fd.out; simp [hn]
      clear hv hn
      go_enter Tryz.func58, Tryz.ntmps58
      go_wp2
      go_ret
      rw [HW1.out]
      exact ⟨by rw [HB.out]; rfl, L1.out⟩
  · have e0 : ((f.v : Int) == 0) = false := by simp; omega
    have HB : Hid (q = false) := by have := HQ.out; show q = false; rw [← this]; unfold Fd.out; simp [hv]
    clear hv
    go_enter Tryz.func58, Tryz.ntmps58
    go_wp2
    go_ret
    rw [HW1.out]
    exact ⟨by rw [HB.out]; rfl, L1.out⟩
end
end Go.Proofs.YtdkiopajilakcaaGreatDoor
/- slices.DeleteFunc at a row of fields: those that are left out go. -/
namespace Go.Proofs.YtdkiopajilakcaaGreatDoor
open Go.RowKit Go.Shelf
def FBlk (g : Nat) (L : List Fd) (rest : List Value) (w : World) : Prop := w.heap[g]? = some (.cells (fcells L ++ rest).toArray 51 (0, 0))
theorem fcells_at : ∀ (L : List Fd) (i : Nat) (f : Fd) (rest : List Value), L[i]? = some f → ∀ j u, f.cells[j]? = some u → (fcells L ++ rest)[i * 4 + j]? = some u
  | [], _, _, _, h, _, _, _ => by cases h
  | x :: r, 0, f, rest, h, j, u, hj => by
    obtain rfl : x = f := Option.some.inj h
    have h4 : j < 4 := by
      have := (Array.getElem?_eq_some_iff.1 hj).1
      simpa [Fd.cells] using this
    rw [Nat.zero_mul, Nat.zero_add]
    unfold fcells
    rw [List.map_cons, List.flatten_cons, List.append_assoc, List.getElem?_append_left (by simp [Fd.cells]; omega), ← hj]
    simp
  | x :: r, i + 1, f, rest, h, j, u, hj => by
    have ih := fcells_at r i f rest (by simpa using h) j u hj
    unfold fcells at ih ⊢
    rw [List.map_cons, List.flatten_cons, List.append_assoc, List.getElem?_append_right (by simp [Fd.cells]; omega)]
    rw [← ih]
    congr 1
    simp [Fd.cells]
    omega
theorem fcells_set : ∀ (L : List Fd) (i : Nat) (f : Fd) (rest : List Value), i < L.length → (fcells L ++ rest).take (i * 4) ++ f.cells.toList ++ (fcells L ++ rest).drop (i * 4 + f.cells.toList.length) = fcells (L.set i f) ++ rest
  | [], _, _, _, h => by cases h
  | x :: r, 0, f, rest, _ => by simp [fcells, Fd.cells]
  | x :: r, i + 1, f, rest, h => by
    have ih := fcells_set r i f rest (by simpa using h)
    unfold fcells at ih ⊢
    rw [List.set_cons_succ, List.map_cons, List.flatten_cons, List.map_cons, List.flatten_cons]
    rw [show (i + 1) * 4 = i * 4 + 4 from by omega]
    simp only [Fd.cells, List.cons_append, List.nil_append, List.take_succ_cons, List.drop_succ_cons, List.length_cons, List.length_nil] at ih ⊢
    simp only [List.cons.injEq, true_and]
    exact ih
theorem FBlk.range {g : Nat} {L : List Fd} {rest : List Value} {w : World} (h : FBlk g L rest w) {i : Nat} {f : Fd} (hf : L[i]? = some f) : w.rangeAt g (i * 4) f.cells.toList := fun j u hj => by
  have h1 := cell_of_row w g (i * 4 + j) _ _ _ h
  rw [h1, List.getElem?_toArray]
  exact fcells_at L i f rest hf j u (by simpa using hj)
theorem FBlk.below {g : Nat} {L : List Fd} {rest : List Value} {w w' : World} (h : FBlk g L rest w) (hl : Later w w') : FBlk g L rest w' := (Below.block hl g (lt_of_block h)).trans h
section
variable {ops : Array Oper} {rest : List Oper} {op : Oper} {a : Act} {W : World} {Q : Exit → Act → World → Prop} {g : Nat} {f : Fd} {L : List Fd} {rs : List Value}
theorem wpList_store_row (hgd : op.guard = none) (x v : Operand) (ho : op.op = .store 51 x v) (i o : Nat) (hi : i < L.length) (hio : o = i * 4) (hx : a.eval x = .pointer (some ⟨g, o, none⟩)) (hg : FBlk g L rs W) (hy : a.eval v = f.val)
    (h : ∀ w', FBlk g (L.set i f) rs w' → W.grownBy w' (some g) → wpList Tryz.prog ops Q rest (a.put op.dst undef) w') : wpList Tryz.prog ops Q (op :: rest) a W := by
  have hsz : o + f.cells.size ≤ (fcells L ++ rs).toArray.size := by
    have := fcells_len L
    simp [Fd.cells]
    omega
  exact wpList_store_box hgd 51 x v ho g o f.cells hx hy _ _ hg (by kernel_rfl) hsz (by exact f.one) (fun w' hb hg' => h w' (by
    have h1 := putAt_toList f.cells.toList o (fcells L ++ rs).toArray (by simpa using hsz)
    rw [List.toList_toArray, hio, fcells_set L i f rs hi] at h1
    show w'.heap[g]? = _
    rw [hb, ← h1, hio]) hg')
end
end Go.Proofs.YtdkiopajilakcaaGreatDoor
/- slices.IndexFunc and slices.DeleteFunc at a row of fields. -/
namespace Go.Proofs.YtdkiopajilakcaaGreatDoor
open Go.RowKit Go.Shelf
theorem zero_row (n : Nat) : (Builtin.zeroCells #[.int .i64 0, .bool false, .int .u64 0, .slice none 0 0] n).toList = fcells (List.replicate n fdZ) := by
  apply List.ext_getElem
  · rw [fcells_len]; simp [Builtin.zeroCells]
  · intro i h1 h2
    have hi : i < n * 4 := by rw [fcells_len] at h2; simpa using h2
    have hr : (List.replicate n fdZ)[i / 4]? = some fdZ := by rw [List.getElem?_replicate, if_pos (by omega)]
    obtain ⟨u, hu⟩ : ∃ u, fdZ.cells[i % 4]? = some u := ⟨fdZ.cells[i % 4]'(by simp [fdZ, Fd.cells]; omega), Array.getElem?_eq_getElem _⟩
    have h3 := fcells_at (List.replicate n fdZ) (i / 4) fdZ [] hr (i % 4) u hu
    rw [List.append_nil, show i / 4 * 4 + i % 4 = i from by omega, List.getElem?_eq_getElem h2] at h3
    rw [Option.some.inj h3]
    simp only [Builtin.zeroCells, Array.toList_map, List.getElem_map, Array.toList_range, List.getElem_range]
    have h4 : i % 4 = 0 ∨ i % 4 = 1 ∨ i % 4 = 2 ∨ i % 4 = 3 := by omega
    show (#[Value.int .i64 0, .bool false, .int .u64 0, .slice none 0 0])[i % 4]! = u
    rcases h4 with e | e | e | e <;> rw [e] at hu ⊢ <;> exact Option.some.inj hu
theorem drop_cells : ∀ (L : List Fd) (i : Nat), (fcells L).take (i * 4) = fcells (L.take i)
  | [], i => by simp [fcells]
  | x :: r, 0 => by simp [fcells]
  | x :: r, i + 1 => by
    have ih := drop_cells r i
    unfold fcells at ih ⊢
    rw [show (i + 1) * 4 = i * 4 + 4 from by omega]
    rw [List.map_take] at ih
    simp [Fd.cells] at ih ⊢
    exact ih
section
variable {ops : Array Oper} {rest : List Oper} {op : Oper} {a : Act} {W : World} {Q : Exit → Act → World → Prop} {g : Nat} {L : List Fd} {rs : List Value}
theorem wpList_clear_row (hgd : op.guard = none) (m : Operand) (hop : op.op = Op.call { callee := Callee.builtin Builtin.clear, args := #[m], argTypes := #[71] }) (i n c o : Nat) (hn : 0 < n) (ho : o = i * 4) (hl : L.length = i + n)
    (hm : a.eval m = .slice (some ⟨g, o, none⟩) n c) (hg : FBlk g L rs W)
    (h : ∀ w', FBlk g (L.take i ++ List.replicate n fdZ) rs w' → W.grownBy w' (some g) → wpList Tryz.prog ops Q rest (a.put op.dst (.tuple #[])) w') : wpList Tryz.prog ops Q (op :: rest) a W := by
  have hzc := zero_row n
  have hlen : (fcells (List.replicate n fdZ)).length = n * 4 := by rw [fcells_len]; simp
  have hsz : o + n * 4 ≤ (fcells L ++ rs).toArray.size := by
    have := fcells_len L
    simp
    omega
  have hst := run_storeCells_cells (P := Tryz.prog) g o (fcells (List.replicate n fdZ)) 0 W (by
    intro j hj
    rw [cell_of_row W g (o + 0 + j) _ _ _ hg]
    simp
    have := fcells_len L
    omega) (fun j _ => frozen_of_row W g _ _ _ hg) (by
    intro v hv
    obtain ⟨y, hy, hv⟩ := List.mem_flatten.1 hv
    obtain ⟨f, hf, rfl⟩ := List.mem_map.1 hy
    exact f.one v hv)
  simp only [Nat.add_zero] at hst
  have hb := heap_setCells g (fcells (List.replicate n fdZ)) o W _ hg
  have hgr := grown_setCells g (fcells (List.replicate n fdZ)) o W
  have h1 := putAt_toList (fcells (List.replicate n fdZ)) o (fcells L ++ rs).toArray (by rw [hlen]; exact hsz)
  have h2 : (putAt (fcells L ++ rs).toArray o (fcells (List.replicate n fdZ))) = (fcells (L.take i ++ List.replicate n fdZ) ++ rs).toArray := by
    apply Array.toList_inj.1
    have hL : (fcells L).length = o + n * 4 := by rw [fcells_len]; omega
    rw [h1, List.toList_toArray, hlen, List.take_append_of_le_length (by omega), ho, drop_cells, ← ho, List.drop_append_of_le_length (by omega), List.drop_of_length_le (by omega), List.nil_append]
    simp [fcells]
  rw [h2] at hb
  refine wpList_plain hgd fun K' hK' => ?_
  unfold Oper.wp
  obtain ⟨k, rfl⟩ : ∃ k, n = k + 1 := ⟨n - 1, by omega⟩
  have hv : ∀ w, (zeroValue 51).run Tryz.prog w = .ok (.agg #[.int .i64 0, .bool false, .int .u64 0, .slice none 0 0]) w := fun w => by kernel_rfl
  have hrun : (Builtin.clear_ #[71] op.type #[.slice (some ⟨g, o, none⟩) (k + 1) c]).run Tryz.prog W = .ok (.tuple #[]) (W.setCells g o (fcells (List.replicate (k + 1) fdZ))) := by
    simp [Builtin.clear_, run_underlying Tryz.underlying71, hv, Value.cells, hzc, hst]
  simp [execOp, hop, resolve, invoke, builtin, hm, hrun, Result.andThen]
  exact hK' _ _ (h _ hb hgr)
end
def keepF (L : List Fd) : List Fd := L.filter fun f => !f.out
section
variable {w : World} {g n c : Nat} {L : List Fd} {rs : List Value}
set_option maxHeartbeats 4000000 in
set_option maxRecDepth 100000 in
theorem index_any (h : FBlk g L rs w) (hL : L.length = n) (hn : n ≤ 1099511627000) :
    Calls Tryz.prog 100 #[.slice (some ⟨g, 0, none⟩) n c, .func (.func 58) #[] #[]] w fun e w' =>
      Later w w' ∧ ((e = .returned (.int .i64 (-1)) ∧ keepF L = L) ∨ ∃ k : Nat, e = .returned (.int .i64 (k : Int)) ∧ k < n ∧ keepF (L.take k) = L.take k ∧ keepF (L.take (k + 1)) = L.take k) := by
  have H := hide h
  have HL := hide hL
  clear h hL
  go_enter Tryz.func100, Tryz.ntmps100
  go_wp2
  go_loopw [8] (fun s wr => ∃ q : Nat, q ≤ n ∧ s = .int .i64 (q : Int) ∧ Hid (keepF (L.take q) = L.take q) ∧ Hid (Later w wr)) (fun s _ => n - (Go.RowKit.intOf s).toNat)
  case atStart => exact ⟨0, by omega, rfl, (by simp [keepF, Hid]), Later.refl _⟩
  case round =>
    obtain ⟨q, hq, rfl, HK, LR⟩ := hrel
    by_cases hqn : q < n
    · obtain ⟨f, hf⟩ : ∃ f, L[q]? = some f := ⟨L[q]'(by rw [HL.out]; exact hqn), List.getElem?_eq_getElem _⟩
      have HR := hide ((H.out.below LR.out).range hf)
      have HT : Hid (L.take (q + 1) = L.take q ++ [f]) := by
        obtain ⟨h1, h2⟩ := List.getElem?_eq_some_iff.1 hf
        show _ = _
        rw [List.take_succ_eq_append_getElem h1, h2]
      obtain ⟨o, ho⟩ : ∃ o, f.out = o := ⟨_, rfl⟩
      have HO := hide ho
      have CC := hide (out_any (w := wr) f)
      rw [ho] at CC
      clear hf ho
      go_wp2_with (refine wpList_val rfl (by rfl) (exec_load_fd _ (by rfl) (by rfl) HR.out) ?_)
      refine CC.out.mono ?_
      rintro e w2 ⟨rfl, hl2⟩
      have L2 : Hid (Later w w2) := Later.trans (show Later w wr from LR.out) hl2
      clear hl2 CC
      cases o with
      | true =>
        go_wp2
        go_ret
        refine ⟨L2.out, .inr ⟨q, rfl, hqn, HK.out, ?_⟩⟩
        rw [HT.out]
        unfold keepF at HK ⊢
        rw [List.filter_append, HK.out]
        simp [HO.out]
      | false =>
        go_wp2
        go_roundw
        case rel => exact ⟨q + 1, by omega, by go_num, (by
          show keepF (L.take (q + 1)) = _
          rw [HT.out]
          have hk := HK.out
          unfold keepF at hk ⊢
          rw [List.filter_append, hk]
          simp [HO.out]), L2⟩
        case measure => simp [Go.RowKit.intOf]; omega
    · obtain rfl : q = n := by omega
      go_wp2
      go_ret
      refine ⟨LR.out, .inl ⟨rfl, ?_⟩⟩
      have hk := HK.out
      rw [List.take_of_length_le (by rw [HL.out]; omega)] at hk
      exact hk
end
end Go.Proofs.YtdkiopajilakcaaGreatDoor
/- Slices of slices: what a[lo:hi:hi] holds, cell by cell, and operation by operation. -/
namespace Go.Proofs.YtdkiopajilakcaaGreatDoor.Sd
open Go.RowKit

theorem flat_take {α : Type} (f : α → List Value) (k : Nat) : ∀ (l : List α) (i : Nat), (∀ y ∈ l, (f y).length = k) → (l.take i).flatMap f = (l.flatMap f).take (i * k)
  | [], i, _ => by simp
  | y :: r, 0, _ => by simp
  | y :: r, i + 1, hk => by
    have h1 := hk y (by simp)
    have ih := flat_take f k r i (fun z hz => hk z (by simp [hz]))
    rw [List.take_succ_cons, List.flatMap_cons, ih, List.flatMap_cons, show (i + 1) * k = (f y).length + i * k from by rw [h1, Nat.add_mul]; omega, List.take_append]
    simp [List.take_of_length_le]
theorem flat_drop {α : Type} (f : α → List Value) (k : Nat) : ∀ (l : List α) (i : Nat), (∀ y ∈ l, (f y).length = k) → (l.drop i).flatMap f = (l.flatMap f).drop (i * k)
  | [], i, _ => by simp
  | y :: r, 0, _ => by simp
  | y :: r, i + 1, hk => by
    have h1 := hk y (by simp)
    have ih := flat_drop f k r i (fun z hz => hk z (by simp [hz]))
    rw [List.drop_succ_cons, ih, List.flatMap_cons, show (i + 1) * k = (f y).length + i * k from by rw [h1, Nat.add_mul]; omega, List.drop_append]
    simp

section
variable {F : Nat → Prop} {w : World} {k n c : Nat} {A : Option Addr} {xs : List Value}
theorem FlatAt.tail (h : FlatAt F w k (.slice A n c) n xs) {lo : Nat} (h1 : lo ≤ n) : FlatAt F w k (sliced A lo n c k) (n - lo) (xs.drop (lo * k)) := by
  obtain ⟨hl, ho, A', c', hv, hc, hm, hn, hr⟩ := h
  obtain ⟨rfl, rfl⟩ : A = A' ∧ c = c' := by injection hv with e1 _ e3; exact ⟨e1, e3⟩
  unfold sliced
  refine ⟨?_, fun u hu => ho u (List.mem_of_mem_drop hu), _, _, rfl, by omega, by omega, ?_, fun h0 => ?_⟩
  · rw [List.length_drop, hl, Nat.sub_mul]
  · intro h0
    by_cases he : c = lo
    · omega
    · rw [if_neg he] at h0
      have : A = none := by cases A with
        | none => rfl
        | some a => cases h0
      have := hn this
      omega
  · rw [if_neg (by omega)]
    obtain ⟨b, off, rfl, hF, hb, hr⟩ := hr (by omega)
    refine ⟨b, off + lo * k, ?_, hF, hb, fun j u hj => ?_⟩
    · simp [Addr.add_lit]
    · rw [List.getElem?_drop] at hj
      rw [Nat.add_assoc]
      exact hr _ _ hj
theorem OpsIn.tail {ps : List (OpD × Value)} (h : OpsIn F w (.slice A n c) ps) {lo : Nat} (h1 : lo ≤ ps.length) : OpsIn F w (sliced A lo n c 10) (ps.drop lo) := by
  have e : ps.length = n := by
    obtain ⟨_, _, hv, _⟩ := FlatAt.shape h.1
    injection hv with _ e2 _
    exact e2.symm
  refine ⟨?_, fun p hp => h.2 p (List.mem_of_mem_drop hp)⟩
  have := FlatAt.tail (e ▸ h.1 : FlatAt F w 10 (.slice A n c) n _) (lo := lo) (by omega)
  rw [flat_drop (fun p : OpD × Value => p.1.cells p.2) 10 _ _ (fun p _ => p.1.len p.2), show (ps.drop lo).length = n - lo from by simp; omega]
  exact this
end
end Go.Proofs.YtdkiopajilakcaaGreatDoor.Sd
