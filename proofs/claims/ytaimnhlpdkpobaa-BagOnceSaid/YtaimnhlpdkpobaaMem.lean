/- What is said of memory: a slice of bytes that holds a list of naturals, nil and empty ones among them; a row of bytes that the call itself made. -/
import Derived.Test.YtaimnhlpdkpobaaMath
import Derived.WalkKit
import Derived.WalkSpells
import Derived.Deep.AppendLies
import Derived.Maps.AppendAt
import Derived.Deep.Draws
namespace Go.Proofs.Ytaimnhlpdkpobaa
open Go.RowKit

/-- A fact put aside, so that the walk doesn't take it for a rule. -/
theorem hide {p : Prop} (h : p) : Hid p := h

theorem ret_int {k : IntKind} {a b : Int} (h : a = b) : Ending.returned (.int k a) = .returned (.int k b) := by rw [h]

theorem ret_bool {a b : Bool} (h : a = b) : Ending.returned (.bool a) = .returned (.bool b) := by rw [h]

/-- A byte as a value. -/
def bv (x : Nat) : Value := .int .u8 (x : Int)
def bvs (l : List Nat) : List Value := l.map bv

theorem bvs_len (l : List Nat) : (bvs l).length = l.length := by simp [bvs]
theorem bvs_append (a b : List Nat) : bvs (a ++ b) = bvs a ++ bvs b := by simp [bvs]
theorem bvs_one (x : Nat) : bvs [x] = [.int .u8 (x : Int)] := rfl
theorem bvs_cell (l : List Nat) : ∀ u ∈ bvs l, u.oneCell' = true := by
  intro u hu
  obtain ⟨_, _, rfl⟩ := List.mem_map.1 hu
  rfl
theorem bvs_get {l : List Nat} {i : Nat} (h : i < l.length) : (bvs l)[i]? = some (.int .u8 (l.getD i 0 : Nat)) := by
  simp [bvs, bv, h]

/-- The slice at 'A', of 'n' bytes, holds the list l, in a block below B. -/
def Holds (w : World) (B : Nat) (A : Option Addr) (n : Nat) (l : List Nat) : Prop :=
  l.length = n ∧ (∀ x ∈ l, x < 256) ∧ (0 < n → ∃ b off, A = some ⟨b, off, none⟩ ∧ b < B ∧ ∀ i, i < n → w.cell? ⟨b, off + i, none⟩ = some (.int .u8 ((l.getD i 0 : Nat) : Int)))

section
variable {w w' : World} {B B' : Nat} {A : Option Addr} {n : Nat} {l : List Nat}

theorem Holds.nil_ (w : World) (B : Nat) : Holds w B none 0 [] := ⟨rfl, by simp, fun h => by omega⟩

theorem Holds.byte (h : Holds w B A n l) {i : Nat} (hi : i < n) : l.getD i 0 < 256 := by
  have hl : i < l.length := by have := h.1; omega
  rw [List.getD_eq_getElem?_getD, List.getElem?_eq_getElem hl]
  exact h.2.1 _ (List.getElem_mem hl)

theorem Holds.keep (h : Holds w B A n l) (hk : ∀ p : Addr, p.block < B → w'.cell? p = w.cell? p) : Holds w' B A n l :=
  ⟨h.1, h.2.1, fun hn => by
    obtain ⟨b, off, e, hb, hc⟩ := h.2.2 hn
    exact ⟨b, off, e, hb, fun i hi => (hk ⟨b, off + i, none⟩ hb).trans (hc i hi)⟩⟩
theorem Holds.below (h : Holds w B A n l) (hb : Below B w w') : Holds w' B A n l := h.keep fun _ hp => hb.cell hp
theorem Holds.more (h : Holds w B A n l) (hB : B ≤ B') : Holds w B' A n l :=
  ⟨h.1, h.2.1, fun hn => by
    obtain ⟨b, off, e, hb, hc⟩ := h.2.2 hn
    exact ⟨b, off, e, by omega, hc⟩⟩
theorem Holds.drew (h : Holds w B A n l) : Holds w.drew B A n l := h
theorem Holds.drewN (h : Holds w B A n l) (k : Nat) : Holds (w.drewN k) B A n l := h

/-- The first k of them. -/
theorem Holds.take (h : Holds w B A n l) {k : Nat} (hk : k ≤ n) : Holds w B A k (l.take k) :=
  ⟨by simp [h.1]; omega, fun x hx => h.2.1 x (List.mem_of_mem_take hx), fun hk0 => by
    obtain ⟨b, off, e, hb, hc⟩ := h.2.2 (by omega)
    refine ⟨b, off, e, hb, fun i hi => ?_⟩
    rw [hc i (by omega)]
    simp [hi]⟩

/-- What lies behind the first k. -/
theorem Holds.drop (h : Holds w B A n l) {k cap : Nat} (hk : k ≤ n) (hc : n ≤ cap) (A' : Option Addr) (hA' : ¬ cap = k → A' = A.map (·.add k)) : Holds w B A' (n - k) (l.drop k) :=
  ⟨by simp [h.1], fun x hx => h.2.1 x (List.mem_of_mem_drop hx), fun hk0 => by
    obtain ⟨b, off, rfl, hb, hcell⟩ := h.2.2 (by omega)
    refine ⟨b, off + k, ?_, hb, fun i hi => ?_⟩
    · rw [hA' (by omega)]
      simp [Addr.add]
    · rw [show off + k + i = off + (k + i) from by omega, hcell (k + i) (by omega)]
      simp⟩

/-- A row of the call's own is such a slice. -/
theorem Holds.of_own {base e : Nat} {v : Value} (h : w.ownsRow base e 1 v n (bvs l)) (hs : ∀ x ∈ l, x < 256) : ∃ A c, v = .slice A n c ∧ n ≤ c ∧ (A = none → c = 0) ∧ Holds w w.heap.size A n l := by
  have hl : l.length = n := by have := h.1; rw [bvs_len] at this; omega
  rcases h.2 with ⟨rfl, rfl⟩ | ⟨g, cap, cur, rfl, _, hg, hnc, _, _, _⟩
  · exact ⟨none, 0, rfl, Nat.le_refl _, fun _ => rfl, hl, hs, fun h => by omega⟩
  · refine ⟨some ⟨g, 0, none⟩, cap, rfl, hnc, (fun h => by cases h), hl, hs, fun hn => ⟨g, 0, rfl, ?_, fun i hi => ?_⟩⟩
    · exact (Array.getElem?_eq_some_iff.1 hg).1
    · have := h.cellAt i (by omega)
      rw [Nat.zero_add, this, bvs_get (by omega)]

end

/-- Below the base of a row that was written nothing has turned. -/
theorem below_of_grown {w w' : World} {base e n : Nat} {v : Value} {xs : List Value} (ho : w.ownsRow base e 1 v n xs) (hb : base ≤ w.heap.size) (hg : w.grownBy w' v.ownBlock) : Below base w w' :=
  (Below.refl _ _).grown hg hb fun k hk => (ho.lt k hk).1

/-- From w to w': nothing that was there has turned, but for block r; and what lay in r lies there, or in a new block, r'. -/
def Went (w : World) (r : Option Nat) (w' : World) (r' : Option Nat) : Prop := w.grownBy w' r ∧ (r' = r ∨ ∃ g, r' = some g ∧ w.heap.size ≤ g)

section
variable {w w1 w2 : World} {r r1 r2 : Option Nat}
theorem Went.refl (w : World) (r : Option Nat) : Went w r w r := ⟨World.grownBy.refl w r, .inl rfl⟩
theorem Went.size (h : Went w r w1 r1) : w.heap.size ≤ w1.heap.size := h.1.size
theorem Went.trans (h : Went w r w1 r1) (k : Went w1 r1 w2 r2) : Went w r w2 r2 := by
  refine ⟨⟨k.1.os.trans h.1.os, k.1.tape.trans h.1.tape, k.1.output.trans h.1.output, Nat.le_trans h.1.size k.1.size, fun i hi hne => ?_⟩, ?_⟩
  · refine (k.1.block i (Nat.lt_of_lt_of_le hi h.1.size) ?_).trans (h.1.block i hi hne)
    rcases h.2 with e | ⟨g, e, hg⟩
    · rw [e]; exact hne
    · rw [e]
      intro e2
      have := Option.some.inj e2
      omega
  · rcases k.2 with e | ⟨g, e, hg⟩
    · rw [e]; exact h.2
    · exact .inr ⟨g, e, Nat.le_trans h.1.size hg⟩
theorem Went.alloc (h : Went w r w1 r1) (o : Obj) : Went w r (w1.alloc o) r1 := h.trans ⟨World.grownBy_alloc w1 o r1, .inl rfl⟩
theorem Went.drew (h : Went w r w1 r1) : Went w r w1.drew r1 := h.trans ⟨⟨rfl, rfl, rfl, Nat.le_refl _, fun _ _ _ => rfl⟩, .inl rfl⟩
theorem Went.of_below (h : Below w.heap.size w w1) (r : Option Nat) : Went w r w1 r := ⟨⟨h.os, h.tape, h.output, h.size, fun k hk _ => h.block k hk⟩, .inl rfl⟩
theorem Went.of_at (hg : w.grownBy w1 r) (ha : r1 = r ∨ r1 = some w.heap.size) : Went w r w1 r1 := ⟨hg, ha.imp id fun e => ⟨_, e, Nat.le_refl _⟩⟩
/-- A block whose elements are of another type than the row's is as it was. -/
theorem Went.other {base e t n : Nat} {v : Value} {xs : List Value} {cs : Array Value} {g : Nat} (h : Went w v.ownBlock w1 r1) (ho : w.ownsRow base e 1 v n xs) (hb : w.heap[g]? = some (.cells cs t (0, 0))) (hne : e ≠ t) :
    w1.heap[g]? = some (.cells cs t (0, 0)) := by
  rw [h.1.block g (Array.getElem?_eq_some_iff.1 hb).1]
  · exact hb
  · rcases ho.2 with ⟨rfl, _⟩ | ⟨g', cap, cur, rfl, _, hh, _⟩
    · simp [Value.ownBlock]
    · intro e2
      have e3 : g = g' := by simpa [Value.ownBlock] using e2
      rw [← e3, hb] at hh
      injection hh with hh
      injection hh with _ ht
      exact hne ht.symm
theorem Went.below {base e n : Nat} {v : Value} {xs : List Value} (h : Went w v.ownBlock w1 r1) (ho : w.ownsRow base e 1 v n xs) (hb : base ≤ w.heap.size) : Below base w w1 := below_of_grown ho hb h.1
end

/-- What is owned stays owned where only new blocks came. -/
theorem own_below {w w1 : World} {base e n : Nat} {v : Value} {xs : List Value} (ho : w.ownsRow base e 1 v n xs) (hb : Below w.heap.size w w1) : w1.ownsRow base e 1 v n xs :=
  ho.kept (Went.of_below hb none).1 (by cases h : v.ownBlock <;> simp)

/-- The shape of a row of the call's own, with a length of a name of its own. -/
theorem row_slice {w : World} {base e n : Nat} {v : Value} {l : List Nat} (h : w.ownsRow base e 1 v n (bvs l)) (hs : ∀ x ∈ l, x < 256) :
    ∃ A m c, v = .slice A m c ∧ m ≤ c ∧ Hid (Holds w w.heap.size A m l) ∧ Hid (m = n) := by
  obtain ⟨A, c, hv, h1, _, h2⟩ := Holds.of_own h hs
  exact ⟨A, n, c, hv, h1, h2, rfl⟩

/-- What a call hands back that makes bytes: a slice of the call's own, that holds l; nothing that was there has turned. -/
def NewBytes (w : World) (l : List Nat) (e : Ending) (w' : World) : Prop :=
  ∃ A n c, e = .returned (.slice A n c) ∧ w'.ownsRow w.heap.size 5 1 (.slice A n c) n (bvs l) ∧ Holds w' w'.heap.size A n l ∧ n ≤ c ∧ Below w.heap.size w w'

theorem newBytes_of {w w' : World} {n : Nat} {v : Value} {l : List Nat} (ho : w'.ownsRow w.heap.size 5 1 v n (bvs l)) (hs : ∀ x ∈ l, x < 256) (hb : Below w.heap.size w w') : NewBytes w l (.returned v) w' := by
  obtain ⟨A, c, rfl, h1, _, h2⟩ := Holds.of_own ho hs
  exact ⟨A, n, c, rfl, ho, h2, h1, hb⟩

section
variable {P : Program} (w : World)

/-- 'append(row, b...)', the row the call's own, b whatever slice of bytes. -/
theorem run_append_bytes (base : Nat) (t ty e : TypeId) (i : TypeInfo) (z : Value) (ht : P.underlying t = some (.slice e)) (hi : P.info? e = some i) (hz : i.zero = some z)
    (hsize : i.size = 1) (hby : i.bytes = 1) (hzs : z.cells.size = 1)
    (v : Value) (n : Nat) (xs : List Value) (hown : w.ownsRow base e 1 v n xs)
    (B : Nat) (A : Option Addr) (m c : Nat) (l : List Nat) (hl : Holds w B A m l) (hroom : n + m ≤ 70368744177664) (hbase : base ≤ w.heap.size) :
    ∃ v' w', (Builtin.append_ #[t, t] ty #[v, .slice A m c]).run P w = .ok v' w' ∧ w'.ownsRow base e 1 v' (n + m) (xs ++ bvs l) ∧ Went w v.ownBlock w' v'.ownBlock := by
  have hlen := hl.1
  rcases A with _ | ad
  · have hm : m = 0 := by
      rcases Nat.eq_zero_or_pos m with h | h
      · exact h
      · obtain ⟨_, _, h, _⟩ := hl.2.2 h
        cases h
    subst hm
    have : l = [] := List.eq_nil_of_length_eq_zero hlen
    subst this
    refine ⟨v, w, ?_, by simpa [bvs] using hown, Went.refl w _⟩
    rcases hown.2 with ⟨rfl, rfl⟩ | ⟨g, cap, cur, rfl, _, _, hnc, _⟩
    · simp [Builtin.append_, run_underlying ht, sizeOf, typeInfo, hi, Builtin.lenOf, Builtin.firstCells]
    · simp [Builtin.append_, run_underlying ht, sizeOf, typeInfo, hi, Builtin.lenOf, Builtin.firstCells, hnc, storeCells]
  · obtain ⟨v', w', h1, h2, h3, _, h5⟩ := run_append_own_at (P := P) w base t ty e i z 1 1 ht hi hz hsize hby hzs (by omega) v n xs hown ad m c (bvs l) (by rw [bvs_len, hlen, Nat.mul_one])
      (fun j u hu => by
        have hj : j < l.length := by
          have := (List.getElem?_eq_some_iff.1 hu).1
          rwa [bvs_len] at this
        obtain ⟨b, off, h, _, hc⟩ := hl.2.2 (by omega)
        obtain rfl := Option.some.inj h
        rw [bvs_get hj] at hu
        rw [Addr.add_lit, hc j (by omega)]
        exact hu) (bvs_cell _) (by simp only [maxLen]; omega) (by omega) hbase
    exact ⟨v', w', h1, h2, .of_at h3 h5⟩

theorem wpList_append_bytes {ops : Array Oper} {rest : List Oper} {o : Oper} {a : Act} {Q : Exit → Act → World → Prop} (hgd : o.guard = none) (s x : Operand) (t : TypeId)
    (ho : o.op = .call { callee := .builtin .append, args := #[s, x], argTypes := #[t, t] })
    (base : Nat) (e : TypeId) (i : TypeInfo) (z : Value) (ht : P.underlying t = some (.slice e)) (hi : P.info? e = some i) (hz : i.zero = some z)
    (hsize : i.size = 1) (hby : i.bytes = 1) (hzs : z.cells.size = 1)
    (v : Value) (n : Nat) (xs : List Value) (hs : a.eval s = v) (hown : w.ownsRow base e 1 v n xs)
    (B : Nat) (A : Option Addr) (m c : Nat) (l : List Nat) (hx : a.eval x = .slice A m c) (hl : Holds w B A m l) (hroom : n + m ≤ 70368744177664) (hbase : base ≤ w.heap.size)
    (h : ∀ v' w', w'.ownsRow base e 1 v' (n + m) (xs ++ bvs l) → Went w v.ownBlock w' v'.ownBlock → wpList P ops Q rest (a.put o.dst v') w') : wpList P ops Q (o :: rest) a w := by
  refine wpList_plain hgd fun K hK => ?_
  obtain ⟨v', w', hr, h2, h3⟩ := run_append_bytes (P := P) w base t o.type e i z ht hi hz hsize hby hzs v n xs hown B A m c l hl hroom hbase
  unfold Oper.wp execOp
  simp only [ho, resolve, invoke, builtin, Sem.run_bind, Sem.run_pure, Result.andThen_ok, List.map_toArray, List.map_cons, List.map_nil, hs, hx, hr]
  exact hK _ _ (h v' w' h2 h3)
end

end Go.Proofs.Ytaimnhlpdkpobaa
