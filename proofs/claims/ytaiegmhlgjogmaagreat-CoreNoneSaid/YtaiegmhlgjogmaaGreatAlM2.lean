/- Texts merged: MapHeld, RefInts, Clock, Stop, Set, Shelf, TickK, Tick, Clk, Msgs, Clone, CutRow, Concat, CopyOp, CopyRel, Copies, Log, LogPut, GoOn, EqS, OrderT, SameDef, SameOp, SameOps, Equal. -/
import Derived.Test.YtaiegmhlgjogmaaGreatAlM1
import Derived.Maps.OwnSet
import Derived.Shelf.SlIterI.Nil
import Derived.Deep.QuietTactic
import Derived.BigQuiet
import Derived.Shelf.SortM.Plain
import Derived.Shelf.SortM.SortNone
import Derived.Ground.GgzProg
import Derived.Ground.SlgmProg
import Derived.Test.YtaiegmhlgjogmaaGreatProg
import Derived.OwnWalk
import Derived.Laws.Slices
import Derived.Lib.AppendZeros
import Derived.Laws.StructEq
/- A map keyed by integers, whatever its elements: what it holds, as the list of its keys, rising, with the values as they stand. -/
namespace Go.Proofs.YtaiegmhlgjogmaaGreat
open Go.RowKit

/-- An element reads as the value that it is. -/
def heldR (v : Value) : Option (DataW Value × List MemPlace) := some (.held v, [])
/-- The datum of a map of these keys and values. -/
def mapD (L : List (Int × Value)) : DataW Value := .map (L.map fun p => (.int .i64 p.1, .held p.2))

theorem has_mapD (L : List (Int × Value)) (a : Int) : Maps.has (mapD L) (.int .i64 a) = L.any (fun p => p.1 == a) := by
  unfold mapD
  rw [Maps.has_eq, List.any_map]
  congr 1
  funext p
  simp [Lit.sameKey, Function.comp]
  rfl
theorem size_mapD (L : List (Int × Value)) : Maps.size (mapD L) = L.length := by simp [mapD, Maps.size]
theorem find_mapD (L : List (Int × Value)) (a : Int) : (L.map fun p : Int × Value => ((.int .i64 p.1, .held p.2) : Lit × DataW Value)).find? (fun p => p.1.sameKey (.int .i64 a)) = (L.find? (fun p => p.1 == a)).map fun p => (.int .i64 p.1, .held p.2) := by
  rw [List.find?_map]
  congr 2
  funext p
  simp [Lit.sameKey, Function.comp]
  rfl
theorem at_mapD (L : List (Int × Value)) (a : Int) (z : DataW Value) : (mapD L).atKey (.int .i64 a) z = match L.find? (fun p => p.1 == a) with | some p => .held p.2 | none => z := by
  unfold mapD DataW.atKey
  simp only [find_mapD]
  cases L.find? (fun p => p.1 == a) <;> rfl
theorem insert_last (x : Lit × DataW Value) : ∀ l : List (Lit × DataW Value), (∀ p ∈ l, x.1.before p.1 = false) → DataW.insert x l = l ++ [x]
  | [], _ => rfl
  | y :: r, h => by
    unfold DataW.insert
    rw [if_neg (by rw [h y (by simp)]; simp), insert_last x r (fun p hp => h p (by simp [hp]))]
    rfl
theorem put_mapD (L : List (Int × Value)) (a : Int) (v : Value) (h : ∀ p ∈ L, p.1 < a) : (mapD L).put (.int .i64 a) (.held v) = mapD (L ++ [(a, v)]) := by
  unfold mapD
  show DataW.map (DataW.insert _ _) = _
  have e : (L.map fun p : Int × Value => ((.int .i64 p.1, .held p.2) : Lit × DataW Value)).filter (fun p => !p.1.sameKey (.int .i64 a)) = L.map fun p => (.int .i64 p.1, .held p.2) := by
    rw [List.filter_eq_self]
    intro p hp
    obtain ⟨q, hq, rfl⟩ := List.mem_map.1 hp
    have := h q hq
    simp [Lit.sameKey]
    omega
  rw [e, insert_last]
  · simp
  · intro p hp
    obtain ⟨q, hq, rfl⟩ := List.mem_map.1 hp
    have := h q hq
    simp [Lit.before]
    omega
theorem del_mapD (L : List (Int × Value)) (a : Int) : (mapD L).del (.int .i64 a) = mapD (L.filter fun p => !(p.1 == a)) := by
  unfold mapD
  show DataW.map _ = _
  rw [List.filter_map]
  congr 2
  congr 1
  funext p
  simp [Lit.sameKey, Function.comp]
  rfl

section
variable {P : Program} {w : World} {ops : Array Oper} {rest : List Oper} {o : Oper} {a : Act} {Q : Exit → Act → World → Prop}
/-- What a look-up finds: the value at that key, or the zero value. -/
def foundIn (L : List (Int × Value)) (z : Value) (key : Int) : Value × Bool := match L.find? (fun p => p.1 == key) with | some p => (p.2, true) | none => (z, false)
theorem look_held (c : Bool) {k e t : TypeId} (K : Maps.Keyed P k) (ht : P.underlying t = some (.map k e)) {z : Value} (hz : (zeroValue e).run P w = .ok z w) {b n : Nat} {L : List (Int × Value)} (hown : w.ownsMap P k heldR b n (mapD L)) {key : Int}
    (hkey : keyOf P k (Value.int .i64 key) = some (Lit.int .i64 key)) :
    (Instr.lookup t (.map (some b)) (.int .i64 key) c).run P w = .ok (if c then .tuple #[(foundIn L z key).1, .bool (foundIn L z key).2] else (foundIn L z key).1) w := by
  have hh := has_mapD L key
  have hat := at_mapD L key (.held z)
  have hf : (L.any fun p => p.1 == key) = (L.find? (fun p => p.1 == key)).isSome := by
    rw [Bool.eq_iff_iff, List.find?_isSome]
    simp [List.any_eq_true]
  cases c with
  | true =>
    obtain ⟨v, ps, hr, hv⟩ := hown.look_ok K ht hz (zd := .held z) (zp := []) rfl hkey
    rw [hat] at hv
    rw [hr, hh, hf]
    unfold foundIn
    cases h : L.find? (fun p => p.1 == key) with
    | some p => rw [h] at hv; simp only [heldR, Option.some.injEq, Prod.mk.injEq, DataW.held.injEq] at hv; simp [hv.1]
    | none => rw [h] at hv; simp only [heldR, Option.some.injEq, Prod.mk.injEq, DataW.held.injEq] at hv; simp [hv.1]
  | false =>
    obtain ⟨v, ps, hr, hv⟩ := hown.lookup K ht hz (zd := .held z) (zp := []) rfl hkey
    rw [hat] at hv
    rw [hr]
    unfold foundIn
    cases h : L.find? (fun p => p.1 == key) with
    | some p => rw [h] at hv; simp only [heldR, Option.some.injEq, Prod.mk.injEq, DataW.held.injEq] at hv; simp [hv.1]
    | none => rw [h] at hv; simp only [heldR, Option.some.injEq, Prod.mk.injEq, DataW.held.injEq] at hv; simp [hv.1]
/-- 'v, ok := m[k]', at the operation. -/
theorem wpList_lookup_held (hg : o.guard = none) (m x : Operand) (t : TypeId) (hop : o.op = Op.lookup t m x true)
    (k e : TypeId) (K : Maps.Keyed P k) (ht : P.underlying t = some (.map k e)) (z : Value) (hz : (zeroValue e).run P w = .ok z w) (b n : Nat) (L : List (Int × Value))
    (hm : a.eval m = .map (some b)) (hown : w.ownsMap P k heldR b n (mapD L)) (key : Int) (hx : a.eval x = .int .i64 key) (hkey : keyOf P k (Value.int .i64 key) = some (Lit.int .i64 key))
    (v : Value) (ok : Bool) (hres : foundIn L z key = (v, ok)) (hK : wpList P ops Q rest (a.put o.dst (.tuple #[v, .bool ok])) w) : wpList P ops Q (o :: rest) a w := by
  refine wpList_plain hg fun K' hK' => ?_
  have hr := look_held true K ht hz hown hkey
  rw [hres] at hr
  unfold Oper.wp
  simp [execOp, hop, hm, hx, hr, Result.andThen]
  exact hK' _ _ hK
/-- 'm[k] = v' at a key above all others, at an operation of a region that draws its order. -/
theorem wp_mapUpdate_held {K : Act → World → Prop} (m x v : Operand) (t : TypeId) (hop : o.op = Op.mapUpdate t m x v) (k e : TypeId) (Kd : Maps.Keyed P k) (ht : P.underlying t = some (.map k e)) (b n : Nat) (L : List (Int × Value))
    (hm : a.eval m = .map (some b)) (hown : w.ownsMap P k heldR b n (mapD L)) (hn : n < maxLen) (key : Int) (val : Value) (hx : a.eval x = .int .i64 key) (hv : a.eval v = val) (hkey : keyOf P k (Value.int .i64 key) = some (Lit.int .i64 key))
    (hL : ∀ p ∈ L, p.1 < key) (hK : ∀ w', w'.ownsMap P k heldR b (n + 1) (mapD (L ++ [(key, val)])) → w.mapTurned w' b → K (a.put o.dst undef) w') : Oper.wp P o a w K Q := by
  obtain ⟨w', hrun, r1, r2⟩ := hown.store Kd ht hn hkey (val := val) (d := .held val) (ps := []) rfl
  rw [put_mapD L key val hL] at r1
  unfold Oper.wp
  simp [execOp, hop, hm, hx, hv, hrun, Result.andThen]
  exact hK w' r1 r2
end
end Go.Proofs.YtaiegmhlgjogmaaGreat
/- The walk over droverref01.Ints: are two lists of ints the same? -/
namespace Go.Proofs.YtaiegmhlgjogmaaGreat
open Go.RowKit

/-- Are they the same? -/
def eqI (l m : List Int) : Bool := decide (l = m)
theorem eqI_self (l : List Int) : eqI l l = true := by simp [eqI]
theorem eqI_len {l m : List Int} (h : l.length ≠ m.length) : false = eqI l m := by
  unfold eqI
  symm
  rw [decide_eq_false_iff_not]
  intro e
  exact h (congrArg List.length e)
theorem eqI_no {l m : List Int} {i : Nat} (h : l.getD i 0 ≠ m.getD i 0) : false = eqI l m := by
  unfold eqI
  symm
  rw [decide_eq_false_iff_not]
  intro e
  exact h (by rw [e])
def SameUp (l m : List Int) (k : Nat) : Prop := ∀ i, i < k → l.getD i 0 = m.getD i 0
theorem SameUp.zero (l m : List Int) : SameUp l m 0 := fun i hi => by omega
theorem SameUp.next {l m : List Int} {k : Nat} (h : SameUp l m k) (he : l.getD k 0 = m.getD k 0) : SameUp l m (k + 1) := fun i hi => by
  by_cases hk : i = k
  · rw [hk, he]
  · exact h i (by omega)
theorem SameUp.all {l m : List Int} {k : Nat} (h : SameUp l m k) (h1 : l.length = k) (h2 : m.length = k) : true = eqI l m := by
  unfold eqI
  symm
  rw [decide_eq_true_eq]
  apply List.ext_getElem (by omega)
  intro i hi1 hi2
  have := h i (by omega)
  simpa [List.getD, hi1, hi2] using this

set_option maxHeartbeats 400000 in
theorem refints_any (A A2 : Option Addr) (n c m c2 B B2 : Nat) (l l2 : List Int) (w : World) (hl : IHolds w B A n l) (hl2 : IHolds w B2 A2 m l2) (hn : n ≤ 1099511627000) (hm : m ≤ 1099511627000) :
    Calls Tryz.prog 40 #[.slice A n c, .slice A2 m c2] w fun e w' => e = .returned (.bool (eqI l l2)) ∧ ∃ q, w' = w.drewN q := by
  have H1 := hide hl
  have H2 := hide hl2
  clear hl hl2
  by_cases hnm : n = m
  · subst hnm
    have ht : ((n : Int) != (n : Int)) = false := by simp
    go_enter Tryz.func40, Tryz.ntmps40
    go_wp2
    go_loopw [13] (fun i wr => ∃ k : Nat, k ≤ n ∧ i = .int .i64 (k : Int) ∧ SameUp l l2 k ∧ ∃ q, wr = w.drewN q) (fun i _ => n - (intOf i).toNat)
    case atStart => exact ⟨0, by omega, rfl, SameUp.zero _ _, 0, rfl⟩
    case round =>
      obtain ⟨k, hk, rfl, hup, q, rfl⟩ := hrel
      have HU := hide hup
      clear hup
      by_cases hkn : k < n
      · obtain ⟨b, off, rfl, _, hc⟩ := H1.out.at_ hkn
        obtain ⟨b2, off2, rfl, _, hc2⟩ := H2.out.at_ hkn
        obtain ⟨x, hx⟩ : ∃ x, x = l.getD k 0 := ⟨_, rfl⟩
        obtain ⟨y, hy⟩ : ∃ y, y = l2.getD k 0 := ⟨_, rfl⟩
        rw [← hx] at hc
        rw [← hy] at hc2
        have HX := hide hx
        have HY := hide hy
        clear hx hy
        by_cases he : x = y
        · subst he
          have ht2 : (x != x) = false := by simp
          go_wp2
          go_quiet (fail)
          go_wp2
          go_roundw
          case rel => exact ⟨k + 1, by omega, by go_num, HU.out.next (by rw [← HX.out, ← HY.out]), _, rfl⟩
          case measure => simp [intOf]; omega
        · have ht2 : (x != y) = true := by simpa using he
          have HE : Hid (l.getD k 0 ≠ l2.getD k 0) := by rw [← HX.out, ← HY.out]; exact he
          clear he
          go_wp2
          go_quiet (fail)
          go_wp2
          go_ret
          exact ⟨ret_bool (eqI_no HE.out), _, World.drewN_drewN _ _ _⟩
      · go_wp2
        go_ret
        exact ⟨ret_bool (HU.out.all (by have := H1.out.1; omega) (by have := H2.out.1; omega)), _, rfl⟩
  · have ht : ((n : Int) != (m : Int)) = true := by simp; omega
    go_enter Tryz.func40, Tryz.ntmps40
    go_wp2
    go_ret
    exact ⟨ret_bool (eqI_len (by rw [H1.out.1, H2.out.1]; exact hnm)), 0, rfl⟩
end Go.Proofs.YtaiegmhlgjogmaaGreat
/- A clock in memory: its ticks, its timers by names in a map, the same ones in a heap; New, made, Now, Left. -/
namespace Go.Proofs.YtaiegmhlgjogmaaGreat.Ck
open Go.RowKit Go.Maps

/-- A timer as an entry of the map. -/
def tpair (p : Int × Int) : Int × Value := (p.2, tagg p)
/-- The timer of that name. -/
def findT (L : List (Int × Int)) (name : Int) : Option (Int × Int) := L.find? (fun p => p.2 == name)
/-- Those of other names. -/
def delT (L : List (Int × Int)) (name : Int) : List (Int × Int) := L.filter (fun p => !(p.2 == name))
/-- One more, at its place. -/
def insT (t : Int × Int) : List (Int × Int) → List (Int × Int)
  | [] => [t]
  | y :: r => if t.2 < y.2 then t :: y :: r else y :: insT t r

theorem found_timer (L : List (Int × Int)) (z : Value) (name : Int) : foundIn (L.map tpair) z name = match findT L name with | some p => (tagg p, true) | none => (z, false) := by
  unfold foundIn findT
  rw [List.find?_map]
  show (match (L.find? (fun p => p.2 == name)).map tpair with | some p => (p.2, true) | none => (z, false)) = _
  cases L.find? (fun p => p.2 == name) <;> rfl
theorem findT_mem {L : List (Int × Int)} {name : Int} {p : Int × Int} (h : findT L name = some p) : p ∈ L ∧ p.2 = name := by
  unfold findT at h
  exact ⟨List.mem_of_find?_eq_some h, by simpa using List.find?_some h⟩
theorem findT_none {L : List (Int × Int)} {name : Int} (h : findT L name = none) : ∀ p ∈ L, p.2 ≠ name := by
  unfold findT at h
  intro p hp
  have := List.find?_eq_none.1 h p hp
  simpa using this
theorem delT_none {L : List (Int × Int)} {name : Int} (h : findT L name = none) : delT L name = L := by
  unfold delT
  rw [List.filter_eq_self]
  intro p hp
  have := findT_none h p hp
  simpa using this
theorem delT_mem {L : List (Int × Int)} {name : Int} {p : Int × Int} : p ∈ delT L name ↔ p ∈ L ∧ p.2 ≠ name := by simp [delT]
theorem insT_perm (t : Int × Int) : ∀ L : List (Int × Int), (insT t L).Perm (L ++ [t])
  | [] => List.Perm.refl _
  | y :: r => by
    unfold insT
    split
    · exact (List.perm_append_comm (l₁ := [t]) (l₂ := y :: r))
    · exact List.Perm.cons y (insT_perm t r)
theorem insT_mem {t p : Int × Int} {L : List (Int × Int)} : p ∈ insT t L ↔ p ∈ L ∨ p = t := by
  rw [(insT_perm t L).mem_iff, List.mem_append, List.mem_singleton]
theorem insT_rise {t : Int × Int} : ∀ {L : List (Int × Int)}, L.Pairwise (fun p q => p.2 < q.2) → (∀ p ∈ L, p.2 ≠ t.2) → (insT t L).Pairwise (fun p q => p.2 < q.2)
  | [], _, _ => by simp [insT]
  | y :: r, h, hn => by
    obtain ⟨h1, h2⟩ := List.pairwise_cons.1 h
    have hy := hn y (by simp)
    unfold insT
    split
    · rename_i hlt
      refine List.pairwise_cons.2 ⟨fun q hq => ?_, h⟩
      rcases List.mem_cons.1 hq with rfl | hq
      · exact hlt
      · have := h1 q hq
        omega
    · refine List.pairwise_cons.2 ⟨fun q hq => ?_, insT_rise h2 fun p hp => hn p (by simp [hp])⟩
      rcases insT_mem.1 hq with hq | rfl
      · exact h1 q hq
      · omega
theorem delT_rise {L : List (Int × Int)} (h : L.Pairwise (fun p q => p.2 < q.2)) (name : Int) : (delT L name).Pairwise (fun p q => p.2 < q.2) := h.filter _
/-- Each name stands once. -/
theorem rise_one {L : List (Int × Int)} (h : L.Pairwise (fun p q => p.2 < q.2)) {p q : Int × Int} (hp : p ∈ L) (hq : q ∈ L) (he : p.2 = q.2) : p = q := by
  induction L with
  | nil => cases hp
  | cons y r ih =>
    obtain ⟨h1, h2⟩ := List.pairwise_cons.1 h
    rcases List.mem_cons.1 hp with rfl | hp' <;> rcases List.mem_cons.1 hq with rfl | hq'
    · rfl
    · have := h1 q hq'; omega
    · have := h1 p hp'; omega
    · exact ih h2 hp' hq'
theorem delT_perm {L : List (Int × Int)} (h : L.Pairwise (fun p q => p.2 < q.2)) {p : Int × Int} (hp : p ∈ L) : (p :: delT L p.2).Perm L := by
  induction L with
  | nil => cases hp
  | cons y r ih =>
    obtain ⟨h1, h2⟩ := List.pairwise_cons.1 h
    unfold delT
    rw [List.filter_cons]
    rcases List.mem_cons.1 hp with rfl | hp'
    · rw [if_neg (by simp)]
      have e : r.filter (fun q => !(q.2 == p.2)) = r := by
        rw [List.filter_eq_self]
        intro q hq
        have := h1 q hq
        simp
        omega
      rw [e]
    · have := h1 p hp'
      rw [if_pos (by simp; omega)]
      exact (List.Perm.swap _ _ _).trans (List.Perm.cons y (ih h2 hp'))

theorem del_timers (L : List (Int × Int)) (name : Int) : (mapD (L.map tpair)).del (.int .i64 name) = mapD ((delT L name).map tpair) := by
  rw [del_mapD]
  congr 1
  unfold delT
  rw [List.filter_map]
  rfl
theorem put_timers (t : Int × Int) (L : List (Int × Int)) (hn : ∀ p ∈ L, p.2 ≠ t.2) : (mapD (L.map tpair)).put (.int .i64 t.2) (.held (tagg t)) = mapD ((insT t L).map tpair) := by
  unfold mapD
  show DataW.map (DataW.insert _ _) = _
  have e : ((L.map tpair).map fun p : Int × Value => ((.int .i64 p.1, .held p.2) : Lit × DataW Value)).filter (fun p => !p.1.sameKey (.int .i64 t.2)) = (L.map tpair).map fun p => (.int .i64 p.1, .held p.2) := by
    rw [List.filter_eq_self]
    intro p hp
    obtain ⟨q, hq, rfl⟩ := List.mem_map.1 hp
    obtain ⟨r, hr, rfl⟩ := List.mem_map.1 hq
    have := hn r hr
    simp [Lit.sameKey, tpair]
    omega
  rw [e]
  congr 1
  clear e
  induction L with
  | nil => rfl
  | cons y r ih =>
    have hy := hn y (by simp)
    have hb : (Lit.int IntKind.i64 t.2).before (.int .i64 y.2) = decide (t.2 < y.2) := rfl
    simp only [List.map_cons, insT]
    unfold DataW.insert
    by_cases hlt : t.2 < y.2
    · rw [if_pos hlt]
      split
      · rfl
      · rename_i hc
        exact absurd (hb.trans (by simpa using hlt)) hc
    · rw [if_neg hlt]
      split
      · rename_i hc
        exact absurd (hb.symm.trans hc) (by simpa using hlt)
      · simp only [List.map_cons]
        congr 1
        exact ih fun p hp => hn p (by simp [hp])

theorem Tryz.int_law : Keyed Tryz.prog 3 := int_keyed Tryz.underlying3
theorem int_key {a : Int} (h1 : -9223372036854775808 ≤ a) (h2 : a < 9223372036854775808) : keyOf Tryz.prog 3 (.int .i64 a) = some (.int .i64 a) := keyOf_int_mk Tryz.underlying3 (WalkArith.wf_i64 (by omega))

/-- The blocks c, k and b hold a clock: S holds of all that it may write. -/
structure ClockAt (S : Nat → Prop) (w : World) (c k b base cnt : Nat) (now : Int) (L : List (Int × Int)) : Prop where
  cell : w.heap[c]? = some (.cells #[.pointer (some ⟨k, 0, none⟩)] 149 (0, 0))
  map : w.ownsMap Tryz.prog 3 heldR b cnt (mapD (L.map tpair))
  heap : ∃ hv hs, HeapAt w base k (.int .i64 now) (.map (some b)) hv hs ∧ hs.Perm L ∧ ∀ q, hv.ownBlock = some q → S q
  rise : L.Pairwise (fun p q => p.2 < q.2)
  inn : S c ∧ S k ∧ S b
  lt : c < base ∧ b < base
  ne : c ≠ k ∧ b ≠ k ∧ c ≠ b
  time : 0 ≤ now ∧ now ≤ 1000000
  ends : ∀ p ∈ L, now ≤ p.1 ∧ p.1 ≤ now + 100000
  len : L.length ≤ 100
section
variable {S T : Nat → Prop} {w w' : World} {c k b base cnt : Nat} {now : Int} {L : List (Int × Int)}
theorem ClockAt.kept (h : ClockAt S w c k b base cnt now L) (hk : Kept S w w') : ClockAt S w' c k b base cnt now L := by
  obtain ⟨hv, hs, h1, h2, h3⟩ := h.heap
  refine ⟨(hk.2 c (lt_of_block h.cell) h.inn.1).trans h.cell, ?_, ⟨hv, hs, h1.kept (hk.mono fun i _ hi => ?_), h2, h3⟩, h.rise, h.inn, h.lt, h.ne, h.time, h.ends, h.len⟩
  · obtain ⟨es, clock, hb, rest⟩ := h.map
    exact ⟨es, clock, (hk.2 b (lt_of_block hb) h.inn.2.2).trans hb, rest⟩
  · rcases hi with rfl | hi
    · exact h.inn.2.1
    · exact h3 i hi
theorem ClockAt.later (h : ClockAt S w c k b base cnt now L) (hb : Below w.heap.size w w') : ClockAt S w' c k b base cnt now L := h.kept (Kept.of_below hb _)
theorem ClockAt.mono (h : ClockAt S w c k b base cnt now L) (hs : ∀ i, S i → T i) : ClockAt T w c k b base cnt now L := by
  obtain ⟨hv, hs', h1, h2, h3⟩ := h.heap
  exact ⟨h.cell, h.map, ⟨hv, hs', h1, h2, fun q e => hs q (h3 q e)⟩, h.rise, ⟨hs _ h.inn.1, hs _ h.inn.2.1, hs _ h.inn.2.2⟩, h.lt, h.ne, h.time, h.ends, h.len⟩
theorem ClockAt.kcell (h : ClockAt S w c k b base cnt now L) : ∃ hv, w.heap[k]? = some (.cells #[.int .i64 now, .map (some b), hv] 154 (0, 0)) := by
  obtain ⟨hv, hs', h1, _⟩ := h.heap
  exact ⟨hv, h1.cell⟩
theorem ClockAt.klt (h : ClockAt S w c k b base cnt now L) : c < w.heap.size ∧ k < w.heap.size ∧ b < w.heap.size := by
  obtain ⟨hv, hc⟩ := h.kcell
  exact ⟨lt_of_block h.cell, lt_of_block hc, h.map.lt⟩
theorem ClockAt.cells (h : ClockAt S w c k b base cnt now L) : w.cell? ⟨c, 0, none⟩ = some (.pointer (some ⟨k, 0, none⟩)) ∧ w.cell? ⟨k, 0, none⟩ = some (.int .i64 now) ∧ w.cell? ⟨k, 1, none⟩ = some (.map (some b)) ∧ w.frozen? ⟨k, 0, none⟩ = false := by
  obtain ⟨hv, hc⟩ := h.kcell
  exact ⟨cell_of_row w c 0 _ _ _ h.cell, cell_of_row w k 0 _ _ _ hc, cell_of_row w k 1 _ _ _ hc, frozen_of_row w k 0 _ _ hc⟩
theorem ClockAt.t64 (h : ClockAt S w c k b base cnt now L) : ∀ p ∈ L, T64 p := by
  obtain ⟨hv, hs, h1, h2, _⟩ := h.heap
  exact fun p hp => h1.t64 p (h2.mem_iff.2 hp)
end

/-- A clock that no call made: nil, or one without its parts. -/
def NoClock (w : World) (p : Value) : Prop := p = .pointer none ∨ ∃ c, p = .pointer (some ⟨c, 0, none⟩) ∧ w.heap[c]? = some (.cells #[.pointer none] 149 (0, 0))
theorem NoClock.later {w w' : World} {p : Value} (h : NoClock w p) (hb : Below w.heap.size w w') : NoClock w' p :=
  h.imp id fun ⟨c, e, hc⟩ => ⟨c, e, (hb.block c (lt_of_block hc)).trans hc⟩

theorem made_no (p : Value) (w : World) (h : NoClock w p) : Calls Tryz.prog 118 #[p] w fun e w' => e = .returned (.bool false) ∧ w = w' := by
  rcases h with rfl | ⟨c, rfl, hc⟩
  · go_enter Tryz.func118, Tryz.ntmps118
    go_wp2
    go_ret
    exact ⟨rfl, rfl⟩
  · have c0 := cell_of_row w c 0 _ _ _ hc
    simp only [List.getElem?_toArray, List.getElem?_cons_zero] at c0
    clear hc
    go_enter Tryz.func118, Tryz.ntmps118
    go_wp2
    go_ret
    exact ⟨rfl, rfl⟩
theorem made_yes {S : Nat → Prop} {c k b base cnt : Nat} {now : Int} {L : List (Int × Int)} (w : World) (h : ClockAt S w c k b base cnt now L) :
    Calls Tryz.prog 118 #[.pointer (some ⟨c, 0, none⟩)] w fun e w' => e = .returned (.bool true) ∧ w = w' := by
  obtain ⟨c0, _, _, _⟩ := h.cells
  clear h
  go_enter Tryz.func118, Tryz.ntmps118
  go_wp2
  go_ret
  exact ⟨rfl, rfl⟩

theorem heap_at {w : World} {n : Nat} (o : Obj) (h : n = w.heap.size) : (w.alloc o).heap[n]? = some o := by
  subst h
  exact heap_alloc_new _ _
/-- What New hands back. -/
def NewClock (w : World) (e : Ending) (w' : World) : Prop :=
  ∃ c k b, e = .returned (.pointer (some ⟨c, 0, none⟩)) ∧ Below w.heap.size w w' ∧ ClockAt (fun i => w.heap.size ≤ i ∧ i < w'.heap.size) w' c k b w'.heap.size 0 0 []
theorem new_any (w : World) : Calls Tryz.prog 83 #[] w (NewClock w) := by
  have hmm := @run_makeMap Tryz.prog
  go_enter Tryz.func83, Tryz.ntmps83
  go_wp2
  go_ret
  refine ⟨w.heap.size + 2, w.heap.size + 1, w.heap.size, rfl, (((Below.refl _ _).alloc (Nat.le_refl _) _).alloc (by simp) _).alloc (by simp; omega) _, ?_⟩
  have hsz : ∀ o1 o2 o3 : Obj, (((w.alloc o1).alloc o2).alloc o3).heap.size = w.heap.size + 3 := fun _ _ _ => by simp
  refine ⟨?_, ?_, ⟨.slice none 0 0, [], ⟨?_, ?_, Nat.le_refl _, World.ownsRow_nil _ _ _ _, fun k hk => by simp at hk, by simp, by simp⟩, List.Perm.refl _, fun q e => by simp [Value.ownBlock] at e⟩, List.Pairwise.nil, ?_, ?_, by omega, by omega, by simp, by simp⟩
  · exact heap_at _ (by simp)
  · exact ((World.ownsMap_made w Tryz.prog 3 heldR).alloc _).alloc _
  · exact (heap_alloc_old _ _ (by simp)).trans (heap_at _ (by simp))
  · rw [hsz]; omega
  · simp only [hsz]; omega
  · simp only [hsz]; omega

end Go.Proofs.YtaiegmhlgjogmaaGreat.Ck
/- Left and Stop of package clock. -/
namespace Go.Proofs.YtaiegmhlgjogmaaGreat.Ck
open Go.RowKit Go.Maps

def zeroT : Value := .agg #[.int .i64 0, .int .i64 0]
theorem found_none {L : List (Int × Int)} {name : Int} (h : findT L name = none) : foundIn (L.map tpair) zeroT name = (.agg #[.int .i64 0, .int .i64 0], false) := by rw [found_timer, h]; rfl
theorem found_some {L : List (Int × Int)} {name e : Int} (h : findT L name = some (e, name)) : foundIn (L.map tpair) zeroT name = (.agg #[.int .i64 e, .int .i64 name], true) := by rw [found_timer, h]; rfl
theorem findT_pair {L : List (Int × Int)} {name : Int} {p : Int × Int} (h : findT L name = some p) : ∃ e, p = (e, name) := ⟨p.1, by have := (findT_mem h).2; rw [← this]⟩

/-- What is left of a timer. -/
def leftOf (L : List (Int × Int)) (now name : Int) : Int := match findT L name with | some p => p.1 - now | none => 0

section
variable {S : Nat → Prop} {c k b base cnt : Nat} {now : Int} {L : List (Int × Int)}
end

theorem stop_no (p : Value) (name : Int) (w : World) (h : NoClock w p) : Calls Tryz.prog 119 #[p, .int .i64 name] w fun e w' => e = .returned (.bool false) ∧ w = w' := by
  have C := hide (made_no p w h)
  have hp : ∃ a, p = .pointer a := by rcases h with rfl | ⟨g, rfl, _⟩ <;> exact ⟨_, rfl⟩
  obtain ⟨a, rfl⟩ := hp
  clear h
  go_enter Tryz.func119, Tryz.ntmps119
  go_wp2_with (fail)
  refine C.out.mono ?_
  rintro e w1 ⟨rfl, rfl⟩
  go_wp2
  go_ret
  exact ⟨rfl, rfl⟩

/-- What Stop leaves: no timer of that name. -/
def Stopped (S : Nat → Prop) (w : World) (c k b base cnt : Nat) (now : Int) (L : List (Int × Int)) (name : Int) (e : Ending) (w' : World) : Prop :=
  e = .returned (.bool (findT L name).isSome) ∧ ClockAt S w' c k b base cnt now (delT L name) ∧ Turned S w w'

section
variable {S : Nat → Prop} {c k b base cnt : Nat} {now : Int} {L : List (Int × Int)}
theorem HeapAt.drew {w : World} {base k : Nat} {now mp hv : Value} {hs : List (Int × Int)} (h : HeapAt w base k now mp hv hs) : HeapAt w.drew base k now mp hv hs := h.kept (Kept.drew _ _)
/-- The map has turned, and the heap may: the blocks are apart. -/
theorem ClockAt.foot {w : World} (h : ClockAt S w c k b base cnt now L) {hv : Value} {hs : List (Int × Int)} (hh : HeapAt w base k (.int .i64 now) (.map (some b)) hv hs) : ¬ Foot k hv c ∧ ¬ Foot k hv b := by
  have h1 := h.ne
  have h2 := h.lt
  constructor
  · rintro (e | e)
    · exact h1.1 e
    · have := hh.own.lt c e
      omega
  · rintro (e | e)
    · exact h1.2.1 e
    · have := hh.own.lt b e
      omega
theorem ClockAt.stopped {w w2 w3 : World} {e name : Int} {hv : Value} {hs : List (Int × Int)} (h : ClockAt S w c k b base cnt now L) (hf : (e, name) ∈ L) (hh : HeapAt w base k (.int .i64 now) (.map (some b)) hv hs) (hp : hs.Perm L) (hq : ∀ q, hv.ownBlock = some q → S q)
    (ho : w2.ownsMap Tryz.prog 3 heldR b cnt ((mapD (L.map tpair)).del (.int .i64 name))) (ht : Turned (fun i => i = b) w w2)
    (hr : Removed w2.drew base k (.int .i64 now) (.map (some b)) hv hs (e, name) w3) :
    ClockAt S w3 c k b base cnt now (delT L name) ∧ Turned S w w3 := by
  obtain ⟨hv', hs', a1, a2, a3, a4⟩ := hr
  obtain ⟨n1, n2⟩ := h.foot hh
  have a3' : Turned (Foot k hv) w2 w3 := a3.of_drew
  have hcb := h.ne.2.2
  refine ⟨⟨?_, ?_, ⟨hv', hs', a1, ?_, fun q e => hq q (by rw [← a4]; exact e)⟩, delT_rise h.rise name, h.inn, h.lt, h.ne, h.time, fun p hp' => h.ends p (delT_mem.1 hp').1, Nat.le_trans (List.length_filter_le _ _) h.len⟩, ?_⟩
  · rw [a3'.block c (Nat.lt_of_lt_of_le h.klt.1 ht.size) n1, ht.block c h.klt.1 hcb]
    exact h.cell
  · rw [del_timers] at ho
    obtain ⟨es, clock, hb, rest⟩ := ho
    exact ⟨es, clock, (a3'.block b (lt_of_block hb) n2).trans hb, rest⟩
  · have h1 := delT_perm h.rise hf
    exact (List.perm_cons _).1 (a2.trans (hp.trans h1.symm))
  · refine (ht.mono fun i hi => ?_).trans (a3'.mono fun i hi => ?_)
    · subst hi; exact h.inn.2.2
    · rcases hi with rfl | hi
      · exact h.inn.2.1
      · exact hq i hi
set_option maxHeartbeats 1000000 in
set_option maxRecDepth 100000 in
theorem stop_yes (name : Int) (w : World) (h : ClockAt S w c k b base cnt now L) (h1 : -9223372036854775808 ≤ name) (h2 : name < 9223372036854775808) :
    Calls Tryz.prog 119 #[.pointer (some ⟨c, 0, none⟩), .int .i64 name] w (Stopped S w c k b base cnt now L name) := by
  have C := hide (made_yes w h)
  have HI := hide (int_key h1 h2)
  have HMAP := hide h.map
  have H := hide h
  obtain ⟨c0, k0, k1, kf⟩ := h.cells
  obtain ⟨hcl, hkl, hbl⟩ := h.klt
  obtain ⟨hv, hs, hh, hp, hq⟩ := h.heap
  have HH := hide hh
  have HP := hide hp
  have HQ := hide hq
  clear hh hp hq
  rcases hf : findT L name with _ | p
  · have HR := hide (found_none hf)
    have HF := hide hf
    clear h hf
    go_enter Tryz.func119, Tryz.ntmps119
    go_wp2_with (fail)
    refine C.out.mono ?_
    rintro e w1 ⟨rfl, rfl⟩
    go_wp2_with (at_lookup; refine wpList_lookup_held rfl _ _ 150 rfl 3 156 Tryz.int_law Tryz.underlying150 zeroT (by kernel_rfl) b cnt _ rfl HMAP.out name rfl HI.out _ false HR.out ?_)
    go_ret
    have hb : Below w.heap.size w (w.alloc (.cells #[.int .i64 0, .int .i64 0] 156 (0, 0))) := (Below.refl _ _).alloc (Nat.le_refl _) _
    refine ⟨by rw [HF.out]; rfl, ?_, Turned.of_below hb _⟩
    rw [delT_none HF.out]
    exact H.out.later hb
  · obtain ⟨e, rfl⟩ := findT_pair hf
    have HR := hide (found_some hf)
    have HF := hide hf
    clear h hf
    go_enter Tryz.func119, Tryz.ntmps119
    go_wp2_with (fail)
    refine C.out.mono ?_
    rintro e w1 ⟨rfl, rfl⟩
    go_wp2_with (first
      | (at_lookup; refine wpList_lookup_held rfl _ _ 150 rfl 3 156 Tryz.int_law Tryz.underlying150 zeroT (by kernel_rfl) b cnt _ rfl HMAP.out name rfl HI.out _ true HR.out ?_)
      | (at_delete; refine wpList_delete_own _ rfl _ _ 150 3 rfl 156 Tryz.int_law Tryz.underlying150 heldR b cnt (mapD (L.map tpair)) rfl (HMAP.out.alloc _) _ _ rfl HI.out ?_; intro w2 ho2 ht2))
    have L1 : Below w.heap.size w (w.alloc (.cells #[.int .i64 e, .int .i64 name] 156 (0, 0))) := (Below.refl _ _).alloc (Nat.le_refl _) _
    have T2 : Hid (Turned (fun i => i = b) w w2) := (Turned.of_below L1 _).trans (Turned.of_grown ht2.grown fun q e => (Option.some.inj e).symm)
    have HH2 : Hid (HeapAt w2 base k (.int .i64 now) (.map (some b)) hv hs) := HH.out.kept (T2.out.kept fun i hi e => (H.out.foot HH.out).2 (e ▸ hi))
    have X2 : Hid (w2.heap[w.heap.size]? = some (.cells #[.int .i64 e, .int .i64 name] 156 (0, 0))) := (ht2.grown.block w.heap.size (by simp) (by intro e; have := Option.some.inj e; omega)).trans (heap_alloc_new _ _)
    have C2 : Hid (w2.heap[c]? = some (.cells #[.pointer (some ⟨k, 0, none⟩)] 149 (0, 0))) := (T2.out.block c hcl H.out.ne.2.2).trans H.out.cell
    have O2 := hide ho2
    clear L1 ho2 ht2 C HI HMAP HR
    refine wp_region_S (fun j => j == 7) (by kernel_rfl) ?_
    refine wpAnyS_take (i := 0) (d := some 31) (v := ?vaa0) rfl rfl (by kernel_rfl) (by kernel_rfl) (by kernel_rfl) (by kernel_rfl) (by kernel_rfl) (fun _ _ _ h => h) (by rfl) ?yaa0 ?_
    case yaa0 => (intro w' hw'; go_simp; try (with_reducible rfl))
    simp only [Act.put]; try simp only [List.setIfInBounds_toArray]; try simp only [List.set_cons_zero, List.set_cons_succ]
    refine wpAnyS_take (i := 1) (d := some 32) (v := ?vaa1) rfl rfl (by kernel_rfl) (by kernel_rfl) (by kernel_rfl) (by kernel_rfl) (by kernel_rfl) (fun _ _ _ h => h) (by rfl) ?yaa1 ?_
    case yaa1 => (intro w' hw'; go_simp; try (with_reducible rfl))
    simp only [Act.put]; try simp only [List.setIfInBounds_toArray]; try simp only [List.set_cons_zero, List.set_cons_succ]
    refine wpAnyS_take (i := 2) (d := some 33) (v := ?vaa2) rfl rfl (by kernel_rfl) (by kernel_rfl) (by kernel_rfl) (by kernel_rfl) (by kernel_rfl) (fun _ _ _ h => h) (by rfl) ?yaa2 ?_
    case yaa2 => (intro w' hw'; go_simp; try (with_reducible rfl))
    simp only [Act.put]; try simp only [List.setIfInBounds_toArray]; try simp only [List.set_cons_zero, List.set_cons_succ]
    refine wpAnyS_take (i := 3) (d := some 34) (v := ?vaa3) rfl rfl (by kernel_rfl) (by kernel_rfl) (by kernel_rfl) (by kernel_rfl) (by kernel_rfl) (fun _ _ _ h => h) (by rfl) ?yaa3 ?_
    case yaa3 => (intro w' hw'; have hc : w'.heap[c]? = _ := (Below.block hw' c (lt_of_block C2.out)).trans C2.out; have hc0 := cell_of_row w' c 0 _ _ _ hc; simp only [List.getElem?_toArray, List.getElem?_cons_zero] at hc0; clear hc; go_simp; try (with_reducible rfl))
    simp only [Act.put]; try simp only [List.setIfInBounds_toArray]; try simp only [List.set_cons_zero, List.set_cons_succ]
    refine wpAnyS_take (i := 4) (d := some 35) (v := ?vaa4) rfl rfl (by kernel_rfl) (by kernel_rfl) (by kernel_rfl) (by kernel_rfl) (by kernel_rfl) (fun _ _ _ h => h) (by rfl) ?yaa4 ?_
    case yaa4 => (intro w' hw'; go_simp; try (with_reducible rfl))
    simp only [Act.put]; try simp only [List.setIfInBounds_toArray]; try simp only [List.set_cons_zero, List.set_cons_succ]
    refine wpAnyS_take (i := 5) (d := some 36) (v := ?vaa5) rfl rfl (by kernel_rfl) (by kernel_rfl) (by kernel_rfl) (by kernel_rfl) (by kernel_rfl) (fun _ _ _ h => h) (by rfl) ?yaa5 ?_
    case yaa5 => (intro w' hw'; go_simp; try (with_reducible rfl))
    simp only [Act.put]; try simp only [List.setIfInBounds_toArray]; try simp only [List.set_cons_zero, List.set_cons_succ]
    refine wpAnyS_take (i := 6) (d := some 37) (v := .agg #[.int .i64 e, .int .i64 name]) rfl rfl (by kernel_rfl) (by kernel_rfl) (by kernel_rfl) (by kernel_rfl) (by kernel_rfl) (fun _ _ _ h => h) (by rfl) ?yaa6 ?_
    case yaa6 => (intro w' hw'; exact exec_load_box 156 _ (by rfl) w.heap.size 0 (by rfl) 156 _ ((Below.block hw' w.heap.size (lt_of_block X2.out)).trans X2.out) 2 _ Tryz.underlying156 (by rfl) (by kernel_rfl) (tcell (e, name)) (by rfl) (by rfl))
    simp only [Act.put]; try simp only [List.setIfInBounds_toArray]; try simp only [List.set_cons_zero, List.set_cons_succ]
    refine wpAnyS_write (i := 7) rfl rfl (by kernel_rfl) (by rfl) fun K hK => ?_
    go_simp
    refine (remove_any base k _ _ hv hs (e, name) w2.drew HH2.out.drew (HP.out.mem_iff.2 (findT_mem HF.out).1)).mono ?_
    rintro e w3 ⟨rfl, hr3⟩
    have HR3 := hide hr3
    clear hr3
    refine hK.out _ _ ?_
    clear hK K
    try (simp only [Act.put]; try simp only [List.setIfInBounds_toArray]; try simp only [List.set_cons_zero, List.set_cons_succ])
    refine wpAnyS_done (by kernel_rfl) ?_ _
    have HE := hide (H.out.stopped (findT_mem HF.out).1 HH.out HP.out HQ.out O2.out T2.out HR3.out)
    go_wp2
    go_ret
    exact ⟨by rw [HF.out]; rfl, HE.out.1, HE.out.2⟩
end
end Go.Proofs.YtaiegmhlgjogmaaGreat.Ck
/- Set of package clock. -/
namespace Go.Proofs.YtaiegmhlgjogmaaGreat.Ck
open Go.RowKit Go.Maps

theorem set_no (p : Value) (name after : Int) (w : World) (h : NoClock w p) : Calls Tryz.prog 166 #[p, .int .i64 name, .int .i64 after] w fun e w' => e = .returned (.int .i64 1) ∧ w = w' := by
  have C := hide (made_no p w h)
  have hp : ∃ a, p = .pointer a := by rcases h with rfl | ⟨g, rfl, _⟩ <;> exact ⟨_, rfl⟩
  obtain ⟨a, rfl⟩ := hp
  clear h
  go_enter Tryz.func166, Tryz.ntmps166
  go_wp2_with (fail)
  refine C.out.mono ?_
  rintro e w1 ⟨rfl, rfl⟩
  go_wp2
  go_ret
  exact ⟨rfl, rfl⟩

section
variable {S : Nat → Prop} {c k b base cnt : Nat} {now : Int} {L : List (Int × Int)}
theorem set_range (name after : Int) (w : World) (h : ClockAt S w c k b base cnt now L) (ha : after < 1 ∨ 100000 < after) :
    Calls Tryz.prog 166 #[.pointer (some ⟨c, 0, none⟩), .int .i64 name, .int .i64 after] w fun e w' => e = .returned (.int .i64 15) ∧ w = w' := by
  have C := hide (made_yes w h)
  clear h
  by_cases h1 : after < 1
  · clear ha
    go_enter Tryz.func166, Tryz.ntmps166
    go_wp2_with (fail)
    refine C.out.mono ?_
    rintro e w1 ⟨rfl, rfl⟩
    go_wp2
    go_ret
    exact ⟨rfl, rfl⟩
  · have h2 : 100000 < after := by omega
    clear ha
    go_enter Tryz.func166, Tryz.ntmps166
    go_wp2_with (fail)
    refine C.out.mono ?_
    rintro e w1 ⟨rfl, rfl⟩
    go_wp2
    go_ret
    exact ⟨rfl, rfl⟩

theorem clock_size {w : World} (h : ClockAt S w c k b base cnt now L) (W : World) (hW : W.heap[b]? = w.heap[b]?) (ty : TypeId) :
    (Builtin.len_ #[150] ty #[.map (some b)]).run Tryz.prog W = .ok (.int .i64 (L.length : Int)) W := by
  have h1 : W.ownsMap Tryz.prog 3 heldR b cnt (mapD (L.map tpair)) := by
    obtain ⟨es, clock, hb, rest⟩ := h.map
    exact ⟨es, clock, hW.trans hb, rest⟩
  have := h1.len Tryz.underlying150 ty
  rw [size_mapD] at this
  simpa using this

set_option maxHeartbeats 1000000 in
set_option maxRecDepth 100000 in
theorem set_full (name after : Int) (w : World) (h : ClockAt S w c k b base cnt now L) (h1 : -9223372036854775808 ≤ name) (h2 : name < 9223372036854775808) (ha1 : 1 ≤ after) (ha2 : after ≤ 100000)
    (hf : findT L name = none) (hl : L.length = 100) :
    Calls Tryz.prog 166 #[.pointer (some ⟨c, 0, none⟩), .int .i64 name, .int .i64 after] w fun e w' => e = .returned (.int .i64 7) ∧ Below w.heap.size w w' := by
  have C := hide (made_yes w h)
  have HI := hide (int_key h1 h2)
  have HMAP := hide h.map
  obtain ⟨c0, k0, k1, kf⟩ := h.cells
  obtain ⟨hcl, hkl, hbl⟩ := h.klt
  have hlen : ∀ ty, (Builtin.len_ #[150] ty #[.map (some b)]).run Tryz.prog (w.alloc (.cells #[.int .i64 0, .int .i64 0] 156 (0, 0))) = .ok (.int .i64 100) (w.alloc (.cells #[.int .i64 0, .int .i64 0] 156 (0, 0))) := fun ty => by
    have := clock_size h (w.alloc (.cells #[.int .i64 0, .int .i64 0] 156 (0, 0))) (heap_alloc_old _ _ hbl) ty
    rw [hl] at this
    exact this
  have HR := hide (found_none hf)
  clear h hf hl
  go_enter Tryz.func166, Tryz.ntmps166
  go_wp2_with (fail)
  refine C.out.mono ?_
  rintro e w1 ⟨rfl, rfl⟩
  go_wp2_with (at_lookup; refine wpList_lookup_held rfl _ _ 150 rfl 3 156 Tryz.int_law Tryz.underlying150 zeroT (by kernel_rfl) b cnt _ rfl HMAP.out name rfl HI.out _ false HR.out ?_)
  go_ret
  exact ⟨rfl, (Below.refl _ _).alloc (Nat.le_refl _) _⟩

/-- A timer into the map. -/
theorem wp_mapUpdate_timer {w : World} {o : Oper} {a : Act} {Q : Exit → Act → World → Prop} {K : Act → World → Prop} (m x v : Operand) (hop : o.op = Op.mapUpdate 150 m x v) (b n : Nat) (L : List (Int × Int))
    (hm : a.eval m = .map (some b)) (hown : w.ownsMap Tryz.prog 3 heldR b n (mapD (L.map tpair))) (hn : n < maxLen) (t : Int × Int) (hx : a.eval x = .int .i64 t.2) (hv : a.eval v = tagg t) (hkey : keyOf Tryz.prog 3 (.int .i64 t.2) = some (.int .i64 t.2))
    (hL : ∀ p ∈ L, p.2 ≠ t.2) (hK : ∀ w', w'.ownsMap Tryz.prog 3 heldR b (n + 1) (mapD ((insT t L).map tpair)) → w.mapTurned w' b → K (a.put o.dst undef) w') : Oper.wp Tryz.prog o a w K Q := by
  obtain ⟨w', hrun, r1, r2⟩ := hown.store Tryz.int_law Tryz.underlying150 hn hkey (val := tagg t) (d := .held (tagg t)) (ps := []) rfl
  rw [put_timers t L hL] at r1
  unfold Oper.wp
  simp [execOp, hop, hm, hx, hv, hrun, Result.andThen]
  exact hK w' r1 r2

/-- What Set leaves. -/
def SetTo (S : Nat → Prop) (w : World) (c k b base cnt : Nat) (now : Int) (L : List (Int × Int)) (name after : Int) (e : Ending) (w' : World) : Prop :=
  e = .returned (.int .i64 0) ∧ ClockAt (fun i => S i ∨ (w.heap.size ≤ i ∧ i < w'.heap.size)) w' c k b base (cnt + 1) now (insT (now + after, name) (delT L name)) ∧ Turned S w w'

theorem delT_short {w : World} {name : Int} (h : ClockAt S w c k b base cnt now L) (hl : findT L name ≠ none ∨ L.length < 100) : (delT L name).length < 100 := by
  rcases hl with hl | hl
  · rcases hf : findT L name with _ | p
    · exact absurd hf hl
    · have hm := findT_mem hf
      have := (delT_perm h.rise hm.1).length_eq
      rw [hm.2] at this
      simp at this
      have := h.len
      omega
  · exact Nat.lt_of_le_of_lt (List.length_filter_le _ _) hl

theorem ClockAt.set_ {w w4 w5 : World} {L1 : List (Int × Int)} {name after : Int} {hv : Value} {hs : List (Int × Int)} {w2 : World} (h : ClockAt S w2 c k b base cnt now L1) (hno : ∀ p ∈ L1, p.2 ≠ name) (hl : L1.length < 100) (ha1 : 1 ≤ after) (ha2 : after ≤ 100000)
    (hh : HeapAt w2 base k (.int .i64 now) (.map (some b)) hv hs) (hp : hs.Perm L1) (hq : ∀ q, hv.ownBlock = some q → S q) (hT : Turned S w w2)
    (ho : w4.ownsMap Tryz.prog 3 heldR b (cnt + 1) (mapD ((insT (now + after, name) L1).map tpair))) (ht : Turned (fun i => i = b) w2 w4)
    (hr : Pushed w4.drew base k (.int .i64 now) (.map (some b)) hv hs (now + after, name) w5) :
    ClockAt (fun i => S i ∨ (w.heap.size ≤ i ∧ i < w5.heap.size)) w5 c k b base (cnt + 1) now (insT (now + after, name) L1) ∧ Turned S w w5 := by
  obtain ⟨hv', hs', a1, a2, a3, a4⟩ := hr
  obtain ⟨n1, n2⟩ := h.foot hh
  have a3' : Turned (Foot k hv) w4 w5 := a3.of_drew
  have hcb := h.ne.2.2
  have hS : Turned S w2 w5 := (ht.mono fun i hi => by subst hi; exact h.inn.2.2).trans (a3'.mono fun i hi => by
    rcases hi with rfl | hi
    · exact h.inn.2.1
    · exact hq i hi)
  refine ⟨⟨?_, ?_, ⟨hv', hs', a1, a2.trans ((hp.append_right _).trans (insT_perm _ L1).symm), fun q e => ?_⟩, insT_rise h.rise hno, ⟨.inl h.inn.1, .inl h.inn.2.1, .inl h.inn.2.2⟩, h.lt, h.ne, h.time, fun p hp' => ?_, ?_⟩, hT.trans hS⟩
  · rw [a3'.block c (Nat.lt_of_lt_of_le h.klt.1 ht.size) n1, ht.block c h.klt.1 hcb]
    exact h.cell
  · obtain ⟨es, clock, hb, rest⟩ := ho
    exact ⟨es, clock, (a3'.block b (lt_of_block hb) n2).trans hb, rest⟩
  · rcases a4 with e1 | ⟨q', e1, hq'⟩
    · exact .inl (hq q (by rw [← e1]; exact e))
    · have e2 := Option.some.inj (e1.symm.trans e)
      subst e2
      have h1 := a1.own.lt q' e1
      have h2 := hT.size
      have h3 := ht.size
      have h4 : w4.heap.size ≤ q' := hq'
      exact .inr ⟨by omega, h1.2⟩
  · rcases insT_mem.1 hp' with hp' | rfl
    · exact h.ends p hp'
    · simp only
      omega
  · rw [(insT_perm _ L1).length_eq]
    simp
    omega

set_option maxHeartbeats 2000000 in
set_option maxRecDepth 100000 in
theorem set_ok (name after : Int) (w : World) (h : ClockAt S w c k b base cnt now L) (h1 : -9223372036854775808 ≤ name) (h2 : name < 9223372036854775808) (ha1 : 1 ≤ after) (ha2 : after ≤ 100000)
    (hl : findT L name ≠ none ∨ L.length < 100) (hcnt : cnt ≤ 1000000) :
    Calls Tryz.prog 166 #[.pointer (some ⟨c, 0, none⟩), .int .i64 name, .int .i64 after] w (SetTo S w c k b base cnt now L name after) := by
  have C := hide (made_yes w h)
  have HI := hide (int_key h1 h2)
  have HMAP := hide h.map
  have H := hide h
  have HSH := hide (delT_short h hl)
  obtain ⟨c0, k0, k1, kf⟩ := h.cells
  obtain ⟨hcl, hkl, hbl⟩ := h.klt
  obtain ⟨ht0, ht1⟩ := h.time
  obtain ⟨r, hr⟩ : ∃ r : Bool, (findT L name).isSome = r := ⟨_, rfl⟩
  have hres : ∃ e n, foundIn (L.map tpair) zeroT name = (.agg #[.int .i64 e, .int .i64 n], r) := by
    rcases hf : findT L name with _ | p
    · rw [hf] at hr
      subst hr
      exact ⟨0, 0, found_none hf⟩
    · obtain ⟨e, rfl⟩ := findT_pair hf
      rw [hf] at hr
      subst hr
      exact ⟨e, name, found_some hf⟩
  obtain ⟨e0, n0, hres⟩ := hres
  have HR := hide hres
  have L1 : Hid (Below w.heap.size w (w.alloc (.cells #[.int .i64 e0, .int .i64 n0] 156 (0, 0)))) := (Below.refl _ _).alloc (Nat.le_refl _) _
  have CS := hide (stop_yes name _ (h.later L1.out) h1 h2)
  have hlen := fun ty => clock_size h (w.alloc (.cells #[.int .i64 e0, .int .i64 n0] 156 (0, 0))) (heap_alloc_old _ _ hbl) ty
  have hcase : r = true ∨ (r = false ∧ (L.length : Int) < 100) := by
    cases r with
    | true => exact .inl rfl
    | false =>
      refine .inr ⟨rfl, ?_⟩
      rcases hl with hl | hl
      · exact absurd (by simpa using hr) hl
      · omega
  have HKEY := hide h1
  have HKEY2 := hide h2
  clear h hl hr hres h1 h2
  rcases hcase with rfl | ⟨rfl, hlt⟩
  all_goals
    go_enter Tryz.func166, Tryz.ntmps166
    go_wp2_with (fail)
    refine C.out.mono ?_
    rintro e w1 ⟨rfl, rfl⟩
    go_wp2_with (at_lookup; refine wpList_lookup_held rfl _ _ 150 rfl 3 156 Tryz.int_law Tryz.underlying150 zeroT (by kernel_rfl) b cnt _ rfl HMAP.out name rfl HI.out _ _ HR.out ?_)
    refine CS.out.mono ?_
    rintro e w2 ⟨rfl, hc2, ht2⟩
    have HC2 := hide hc2
    have HT2 : Hid (Turned S w w2) := (Turned.of_below L1.out S).trans ht2
    obtain ⟨c0', k0', k1', _⟩ := hc2.cells
    obtain ⟨hcl2, hkl2, hbl2⟩ := hc2.klt
    obtain ⟨hv, hs, hh, hp, hq⟩ := hc2.heap
    have HH := hide hh
    have HP := hide hp
    have HQ := hide hq
    clear hc2 ht2 hh hp hq c0 k0 k1 kf hlen
    have hnow : IntKind.i64.wrap (now + after) = now + after := IntWalk.i64_in _ (by omega)
    go_wp2
    obtain ⟨w3, hw3⟩ : ∃ w3, w3 = w2.alloc (.cells #[.int .i64 (now + after), .int .i64 name] 156 (0, 0)) := ⟨_, rfl⟩
    have L3 : Hid (Below w2.heap.size w2 w3) := by
      rw [hw3]
      exact (Below.refl _ _).alloc (Nat.le_refl _) _
    have X3 : Hid (w3.heap[w2.heap.size]? = some (.cells #[.int .i64 (now + after), .int .i64 name] 156 (0, 0))) := by
      rw [hw3]
      exact heap_alloc_new _ _
    have C3 : Hid (ClockAt S w3 c k b base cnt now (delT L name)) := HC2.out.later L3.out
    rw [← hw3]
    clear hw3 c0' k0' k1'
    refine wp_region_S (fun j => j == 9) (by kernel_rfl) ?_
    refine wpAnyS_take (i := 0) (d := some 58) (v := ?vaa0) rfl rfl (by kernel_rfl) (by kernel_rfl) (by kernel_rfl) (by kernel_rfl) (by kernel_rfl) (fun _ _ _ h => h) (by rfl) ?yaa0 ?_
    case yaa0 => (intro w' hw'; go_simp; try (with_reducible rfl))
    simp only [Act.put]; try simp only [List.setIfInBounds_toArray]; try simp only [List.set_cons_zero, List.set_cons_succ]
    refine wpAnyS_take (i := 1) (d := some 59) (v := ?vaa1) rfl rfl (by kernel_rfl) (by kernel_rfl) (by kernel_rfl) (by kernel_rfl) (by kernel_rfl) (fun _ _ _ h => h) (by rfl) ?yaa1 ?_
    case yaa1 => (intro w' hw'; go_simp; try (with_reducible rfl))
    simp only [Act.put]; try simp only [List.setIfInBounds_toArray]; try simp only [List.set_cons_zero, List.set_cons_succ]
    refine wpAnyS_take (i := 2) (d := some 60) (v := ?vaa2) rfl rfl (by kernel_rfl) (by kernel_rfl) (by kernel_rfl) (by kernel_rfl) (by kernel_rfl) (fun _ _ _ h => h) (by rfl) ?yaa2 ?_
    case yaa2 => (intro w' hw'; go_simp; try (with_reducible rfl))
    simp only [Act.put]; try simp only [List.setIfInBounds_toArray]; try simp only [List.set_cons_zero, List.set_cons_succ]
    refine wpAnyS_take (i := 3) (d := some 61) (v := ?vaa3) rfl rfl (by kernel_rfl) (by kernel_rfl) (by kernel_rfl) (by kernel_rfl) (by kernel_rfl) (fun _ _ _ h => h) (by rfl) ?yaa3 ?_
    case yaa3 => (intro w' hw'; have hc : w'.heap[c]? = _ := (Below.block hw' c (lt_of_block C3.out.cell)).trans C3.out.cell; have hc0 := cell_of_row w' c 0 _ _ _ hc; simp only [List.getElem?_toArray, List.getElem?_cons_zero] at hc0; clear hc; go_simp; try (with_reducible rfl))
    simp only [Act.put]; try simp only [List.setIfInBounds_toArray]; try simp only [List.set_cons_zero, List.set_cons_succ]
    refine wpAnyS_take (i := 4) (d := some 62) (v := ?vaa4) rfl rfl (by kernel_rfl) (by kernel_rfl) (by kernel_rfl) (by kernel_rfl) (by kernel_rfl) (fun _ _ _ h => h) (by rfl) ?yaa4 ?_
    case yaa4 => (intro w' hw'; go_simp; try (with_reducible rfl))
    simp only [Act.put]; try simp only [List.setIfInBounds_toArray]; try simp only [List.set_cons_zero, List.set_cons_succ]
    refine wpAnyS_take (i := 5) (d := some 63) (v := ?vaa5) rfl rfl (by kernel_rfl) (by kernel_rfl) (by kernel_rfl) (by kernel_rfl) (by kernel_rfl) (fun _ _ _ h => h) (by rfl) ?yaa5 ?_
    case yaa5 => (intro w' hw'; go_simp; try (with_reducible rfl))
    simp only [Act.put]; try simp only [List.setIfInBounds_toArray]; try simp only [List.set_cons_zero, List.set_cons_succ]
    refine wpAnyS_take (i := 6) (d := some 64) (v := ?vaa6) rfl rfl (by kernel_rfl) (by kernel_rfl) (by kernel_rfl) (by kernel_rfl) (by kernel_rfl) (fun _ _ _ h => h) (by rfl) ?yaa6 ?_
    case yaa6 => (intro w' hw'; have hck := (C3.out.later ((Below.refl w3.heap.size w3).drew.trans hw')).cells.2.2.1; go_simp; try (with_reducible rfl))
    simp only [Act.put]; try simp only [List.setIfInBounds_toArray]; try simp only [List.set_cons_zero, List.set_cons_succ]
    refine wpAnyS_take (i := 7) (d := some 65) (v := ?vaa7) rfl rfl (by kernel_rfl) (by kernel_rfl) (by kernel_rfl) (by kernel_rfl) (by kernel_rfl) (fun _ _ _ h => h) (by rfl) ?yaa7 ?_
    case yaa7 => (intro w' hw'; go_simp; try (with_reducible rfl))
    simp only [Act.put]; try simp only [List.setIfInBounds_toArray]; try simp only [List.set_cons_zero, List.set_cons_succ]
    refine wpAnyS_take (i := 8) (d := some 66) (v := .agg #[.int .i64 (now + after), .int .i64 name]) rfl rfl (by kernel_rfl) (by kernel_rfl) (by kernel_rfl) (by kernel_rfl) (by kernel_rfl) (fun _ _ _ h => h) (by rfl) ?yaa8 ?_
    case yaa8 => (intro w' hw'; exact exec_load_box 156 _ (by rfl) w2.heap.size 0 (by rfl) 156 _ ((Below.block hw' w2.heap.size (lt_of_block X3.out)).trans X3.out) 2 _ Tryz.underlying156 (by rfl) (by kernel_rfl) (tcell (now + after, name)) (by rfl) (by rfl))
    simp only [Act.put]; try simp only [List.setIfInBounds_toArray]; try simp only [List.set_cons_zero, List.set_cons_succ]
    refine wpAnyS_write (i := 9) rfl rfl (by kernel_rfl) (by rfl) fun K hK => ?_
    refine wp_mapUpdate_timer _ _ _ (by rfl) b cnt (delT L name) (by rfl) (by exact C3.out.map) (by unfold maxLen; omega) (now + after, name) (by rfl) (by rfl) HI.out (fun p hp => (delT_mem.1 hp).2) ?_
    intro w4 ho4 ht4
    refine hK.out _ _ ?_
    clear hK K
    try simp only [Act.put]
    refine wpAnyS_done (by kernel_rfl) ?_ _
    have T4 : Hid (Turned (fun i => i = b) w2 w4) := (Turned.of_below L3.out _).trans (Turned.of_grown (grown_of_drew ht4.grown) fun q e => (Option.some.inj e).symm)
    have O4 := hide ho4
    have X4 : Hid (w4.heap[w2.heap.size]? = some (.cells #[.int .i64 (now + after), .int .i64 name] 156 (0, 0))) := (ht4.grown.block w2.heap.size (lt_of_block X3.out) (by intro e; have := Option.some.inj e; omega)).trans X3.out
    have C4 : Hid (w4.heap[c]? = some (.cells #[.pointer (some ⟨k, 0, none⟩)] 149 (0, 0))) := (T4.out.block c hcl2 HC2.out.ne.2.2).trans HC2.out.cell
    have HH4 : Hid (HeapAt w4 base k (.int .i64 now) (.map (some b)) hv hs) := HH.out.kept (T4.out.kept fun i hi e => (HC2.out.foot HH.out).2 (e ▸ hi))
    have hlen4 : hs.length < 1000 := by
      have h1 := HP.out.length_eq
      have h2 := HSH.out
      omega
    have ht64 : T64 (now + after, name) := by
      have := HKEY.out
      have := HKEY2.out
      refine ⟨⟨?_, ?_⟩, ?_, ?_⟩ <;> simp only <;> omega
    have HT64 := hide ht64
    clear ho4 ht4 ht64
    go_wp2
    refine wp_region_S (fun j => j == 7) (by kernel_rfl) ?_
    refine wpAnyS_take (i := 0) (d := some 67) (v := ?vab0) rfl rfl (by kernel_rfl) (by kernel_rfl) (by kernel_rfl) (by kernel_rfl) (by kernel_rfl) (fun _ _ _ h => h) (by rfl) ?yab0 ?_
    case yab0 => (intro w' hw'; go_simp; try (with_reducible rfl))
    simp only [Act.put]; try simp only [List.setIfInBounds_toArray]; try simp only [List.set_cons_zero, List.set_cons_succ]
    refine wpAnyS_take (i := 1) (d := some 68) (v := ?vab1) rfl rfl (by kernel_rfl) (by kernel_rfl) (by kernel_rfl) (by kernel_rfl) (by kernel_rfl) (fun _ _ _ h => h) (by rfl) ?yab1 ?_
    case yab1 => (intro w' hw'; go_simp; try (with_reducible rfl))
    simp only [Act.put]; try simp only [List.setIfInBounds_toArray]; try simp only [List.set_cons_zero, List.set_cons_succ]
    refine wpAnyS_take (i := 2) (d := some 69) (v := ?vab2) rfl rfl (by kernel_rfl) (by kernel_rfl) (by kernel_rfl) (by kernel_rfl) (by kernel_rfl) (fun _ _ _ h => h) (by rfl) ?yab2 ?_
    case yab2 => (intro w' hw'; go_simp; try (with_reducible rfl))
    simp only [Act.put]; try simp only [List.setIfInBounds_toArray]; try simp only [List.set_cons_zero, List.set_cons_succ]
    refine wpAnyS_take (i := 3) (d := some 70) (v := ?vab3) rfl rfl (by kernel_rfl) (by kernel_rfl) (by kernel_rfl) (by kernel_rfl) (by kernel_rfl) (fun _ _ _ h => h) (by rfl) ?yab3 ?_
    case yab3 => (intro w' hw'; have hc : w'.heap[c]? = _ := (Below.block hw' c (lt_of_block C4.out)).trans C4.out; have hc0 := cell_of_row w' c 0 _ _ _ hc; simp only [List.getElem?_toArray, List.getElem?_cons_zero] at hc0; clear hc; go_simp; try (with_reducible rfl))
    simp only [Act.put]; try simp only [List.setIfInBounds_toArray]; try simp only [List.set_cons_zero, List.set_cons_succ]
    refine wpAnyS_take (i := 4) (d := some 71) (v := ?vab4) rfl rfl (by kernel_rfl) (by kernel_rfl) (by kernel_rfl) (by kernel_rfl) (by kernel_rfl) (fun _ _ _ h => h) (by rfl) ?yab4 ?_
    case yab4 => (intro w' hw'; go_simp; try (with_reducible rfl))
    simp only [Act.put]; try simp only [List.setIfInBounds_toArray]; try simp only [List.set_cons_zero, List.set_cons_succ]
    refine wpAnyS_take (i := 5) (d := some 72) (v := ?vab5) rfl rfl (by kernel_rfl) (by kernel_rfl) (by kernel_rfl) (by kernel_rfl) (by kernel_rfl) (fun _ _ _ h => h) (by rfl) ?yab5 ?_
    case yab5 => (intro w' hw'; go_simp; try (with_reducible rfl))
    simp only [Act.put]; try simp only [List.setIfInBounds_toArray]; try simp only [List.set_cons_zero, List.set_cons_succ]
    refine wpAnyS_take (i := 6) (d := some 73) (v := .agg #[.int .i64 (now + after), .int .i64 name]) rfl rfl (by kernel_rfl) (by kernel_rfl) (by kernel_rfl) (by kernel_rfl) (by kernel_rfl) (fun _ _ _ h => h) (by rfl) ?yab6 ?_
    case yab6 => (intro w' hw'; exact exec_load_box 156 _ (by rfl) w2.heap.size 0 (by rfl) 156 _ ((Below.block hw' w2.heap.size (lt_of_block X4.out)).trans X4.out) 2 _ Tryz.underlying156 (by rfl) (by kernel_rfl) (tcell (now + after, name)) (by rfl) (by rfl))
    simp only [Act.put]; try simp only [List.setIfInBounds_toArray]; try simp only [List.set_cons_zero, List.set_cons_succ]
    refine wpAnyS_write (i := 7) rfl rfl (by kernel_rfl) (by rfl) fun K hK => ?_
    go_simp
    refine (push_any base k _ _ hv hs (now + after, name) w4.drew HH4.out.drew HT64.out hlen4).mono ?_
    rintro e w5 ⟨rfl, hr5⟩
    have HR5 := hide hr5
    clear hr5
    refine hK.out _ _ ?_
    clear hK K
    try (simp only [Act.put]; try simp only [List.setIfInBounds_toArray]; try simp only [List.set_cons_zero, List.set_cons_succ])
    refine wpAnyS_done (by kernel_rfl) ?_ _
    have HE := hide (HC2.out.set_ (fun p hp => (delT_mem.1 hp).2) HSH.out ha1 ha2 HH.out HP.out HQ.out HT2.out O4.out T4.out HR5.out)
    go_wp2
    go_ret
    exact ⟨rfl, HE.out.1, HE.out.2⟩
end
end Go.Proofs.YtaiegmhlgjogmaaGreat.Ck
/- Contracts of the library laid at this program: its numbers, and that its bodies are the ones that the contracts speak of. -/
namespace Go.Proofs.YtaiegmhlgjogmaaGreat
open Go.Shelf
def Tryz.keysA_ren : Go.Shelf.Ren := ⟨fun | 7 => 170 | 10 => 192 | n => n, fun | 23 => 150 | 26 => 3 | 3 => 156 | 28 => 192 | 0 => 0 | 27 => 191 | 33 => 96 | 4 => 4 | n => n, fun | n => n⟩
theorem Tryz.keysA : Go.Proofs.SlLaysZI.n7 Tryz.prog Tryz.keysA_ren := {
  mixed := by kernel_rfl
  f7 := ⟨Tryz.f170.name, by decide, Tryz.func170.trans (congrArg some (by kernel_rfl))⟩
  f10 := ⟨Tryz.f192.name, by decide, Tryz.func192.trans (congrArg some (by kernel_rfl))⟩
  t0 := Tryz.underlying0
  a0 := Tryz.isAgg0
  z0 := Tryz.sizeOf0
  v0 := Tryz.zeroValue0
  t4 := Tryz.underlying4
  a4 := Tryz.isAgg4
  z4 := Tryz.sizeOf4
  v4 := Tryz.zeroValue4
  t23 := Tryz.underlying150
  a23 := Tryz.isAgg150
  z23 := Tryz.sizeOf150
  v23 := Tryz.zeroValue150
  t26 := Tryz.underlying3
  a26 := Tryz.isAgg3
  z26 := Tryz.sizeOf3
  v26 := Tryz.zeroValue3
  t27 := Tryz.underlying191
  a27 := Tryz.isAgg191
  z27 := Tryz.sizeOf191
  v27 := Tryz.zeroValue191
  t28 := Tryz.underlying192
  a28 := Tryz.isAgg192
  z28 := Tryz.sizeOf192
  v28 := Tryz.zeroValue192
  t33 := Tryz.underlying96
  a33 := Tryz.isAgg96
  z33 := Tryz.sizeOf96
  v33 := Tryz.zeroValue96 }
def Tryz.sortedA_ren : Go.Shelf.Ren := ⟨fun | 6 => 169 | 8 => 190 | 9 => 191 | 11 => 203 | 13 => 194 | 12 => 204 | 23 => 213 | 24 => 214 | 14 => 217 | 15 => 218 | 16 => 219 | 17 => 220 | 18 => 221 | 19 => 222 | 20 => 223 | 21 => 224 | 22 => 225 | 25 => 232 | 26 => 227 | 27 => 228 | 28 => 233 | 29 => 234 | 30 => 195 | 31 => 237 | n => n, fun | 26 => 3 | 28 => 192 | 24 => 40 | 0 => 0 | 3 => 3 | 37 => 48 | 48 => 218 | 50 => 220 | 4 => 4 | 40 => 212 | 39 => 211 | 45 => 159 | 5 => 5 | 9 => 9 | 51 => 227 | 55 => 231 | 57 => 235 | 58 => 133 | 33 => 96 | n => n, fun | n => n⟩
theorem Tryz.sortedA : Go.Proofs.SlLaysZI.n6 Tryz.prog Tryz.sortedA_ren := {
  mixed := by kernel_rfl
  f6 := ⟨Tryz.f169.name, by decide, Tryz.func169.trans (congrArg some (by kernel_rfl))⟩
  f8 := ⟨Tryz.f190.name, by decide, Tryz.func190.trans (congrArg some (by kernel_rfl))⟩
  f11 := ⟨Tryz.f203.name, by decide, Tryz.func203.trans (congrArg some (by kernel_rfl))⟩
  t0 := Tryz.underlying0
  a0 := Tryz.isAgg0
  z0 := Tryz.sizeOf0
  v0 := Tryz.zeroValue0
  t24 := Tryz.underlying40
  a24 := Tryz.isAgg40
  z24 := Tryz.sizeOf40
  v24 := Tryz.zeroValue40
  t26 := Tryz.underlying3
  a26 := Tryz.isAgg3
  z26 := Tryz.sizeOf3
  v26 := Tryz.zeroValue3
  t28 := Tryz.underlying192
  a28 := Tryz.isAgg192
  z28 := Tryz.sizeOf192
  v28 := Tryz.zeroValue192
  i26 := by kernel_rfl }
def Tryz.sortA_ren : Go.Shelf.Ren := ⟨fun | 5 => 191 | 8 => 194 | 7 => 204 | 19 => 213 | 20 => 214 | 10 => 217 | 11 => 218 | 12 => 219 | 13 => 220 | 14 => 221 | 15 => 222 | 16 => 223 | 17 => 224 | 18 => 225 | 30 => 232 | 31 => 227 | 32 => 228 | 33 => 233 | 34 => 234 | 35 => 195 | 40 => 237 | n => n, fun | 23 => 40 | 25 => 3 | 3 => 3 | 32 => 48 | 22 => 40 | 0 => 0 | 44 => 218 | 46 => 220 | 4 => 4 | 36 => 212 | 35 => 211 | 41 => 159 | 5 => 5 | 9 => 9 | 53 => 227 | 57 => 231 | 63 => 235 | 64 => 133 | n => n, fun | n => n⟩
theorem Tryz.sortA : Go.Proofs.SlLaysM.n5 Tryz.prog Tryz.sortA_ren := {
  mixed := by kernel_rfl
  f5 := ⟨Tryz.f191.name, by decide, Tryz.func191.trans (congrArg some (by kernel_rfl))⟩
  f7 := ⟨Tryz.f204.name, by decide, Tryz.func204.trans (congrArg some (by kernel_rfl))⟩
  f8 := Tryz.func194.trans (congrArg some (by kernel_rfl))
  f10 := ⟨Tryz.f217.name, by decide, Tryz.func217.trans (congrArg some (by kernel_rfl))⟩
  f11 := ⟨Tryz.f218.name, by decide, Tryz.func218.trans (congrArg some (by kernel_rfl))⟩
  f12 := ⟨Tryz.f219.name, by decide, Tryz.func219.trans (congrArg some (by kernel_rfl))⟩
  f13 := ⟨Tryz.f220.name, by decide, Tryz.func220.trans (congrArg some (by kernel_rfl))⟩
  f14 := ⟨Tryz.f221.name, by decide, Tryz.func221.trans (congrArg some (by kernel_rfl))⟩
  f15 := ⟨Tryz.f222.name, by decide, Tryz.func222.trans (congrArg some (by kernel_rfl))⟩
  f16 := ⟨Tryz.f223.name, by decide, Tryz.func223.trans (congrArg some (by kernel_rfl))⟩
  f17 := ⟨Tryz.f224.name, by decide, Tryz.func224.trans (congrArg some (by kernel_rfl))⟩
  f18 := ⟨Tryz.f225.name, by decide, Tryz.func225.trans (congrArg some (by kernel_rfl))⟩
  f19 := Tryz.func213.trans (congrArg some (by kernel_rfl))
  f20 := Tryz.func214.trans (congrArg some (by kernel_rfl))
  f30 := ⟨Tryz.f232.name, by decide, Tryz.func232.trans (congrArg some (by kernel_rfl))⟩
  f31 := Tryz.func227.trans (congrArg some (by kernel_rfl))
  f32 := Tryz.func228.trans (congrArg some (by kernel_rfl))
  f33 := ⟨Tryz.f233.name, by decide, Tryz.func233.trans (congrArg some (by kernel_rfl))⟩
  f34 := ⟨Tryz.f234.name, by decide, Tryz.func234.trans (congrArg some (by kernel_rfl))⟩
  f35 := ⟨Tryz.f195.name, by decide, Tryz.func195.trans (congrArg some (by kernel_rfl))⟩
  f40 := ⟨Tryz.f237.name, by decide, Tryz.func237.trans (congrArg some (by kernel_rfl))⟩
  t0 := Tryz.underlying0
  a0 := Tryz.isAgg0
  z0 := Tryz.sizeOf0
  v0 := Tryz.zeroValue0
  t3 := Tryz.underlying3
  a3 := Tryz.isAgg3
  z3 := Tryz.sizeOf3
  v3 := Tryz.zeroValue3
  t4 := Tryz.underlying4
  a4 := Tryz.isAgg4
  z4 := Tryz.sizeOf4
  v4 := Tryz.zeroValue4
  t5 := Tryz.underlying5
  a5 := Tryz.isAgg5
  z5 := Tryz.sizeOf5
  v5 := Tryz.zeroValue5
  t9 := Tryz.underlying9
  a9 := Tryz.isAgg9
  z9 := Tryz.sizeOf9
  v9 := Tryz.zeroValue9
  t22 := Tryz.underlying40
  a22 := Tryz.isAgg40
  z22 := Tryz.sizeOf40
  v22 := Tryz.zeroValue40
  t23 := Tryz.underlying40
  a23 := Tryz.isAgg40
  z23 := Tryz.sizeOf40
  v23 := Tryz.zeroValue40
  t25 := Tryz.underlying3
  a25 := Tryz.isAgg3
  z25 := Tryz.sizeOf3
  v25 := Tryz.zeroValue3
  t32 := Tryz.underlying48
  a32 := Tryz.isAgg48
  z32 := Tryz.sizeOf48
  v32 := Tryz.zeroValue48
  t35 := Tryz.underlying211
  a35 := Tryz.isAgg211
  z35 := Tryz.sizeOf211
  v35 := Tryz.zeroValue211
  t36 := Tryz.underlying212
  a36 := Tryz.isAgg212
  z36 := Tryz.sizeOf212
  v36 := Tryz.zeroValue212
  t41 := Tryz.underlying159
  a41 := Tryz.isAgg159
  z41 := Tryz.sizeOf159
  v41 := Tryz.zeroValue159
  t44 := Tryz.underlying218
  a44 := Tryz.isAgg218
  z44 := Tryz.sizeOf218
  v44 := Tryz.zeroValue218
  t46 := Tryz.underlying220
  a46 := Tryz.isAgg220
  z46 := Tryz.sizeOf220
  v46 := Tryz.zeroValue220
  t53 := Tryz.underlying227
  a53 := Tryz.isAgg227
  z53 := Tryz.sizeOf227
  v53 := Tryz.zeroValue227
  t57 := Tryz.underlying231
  a57 := Tryz.isAgg231
  z57 := Tryz.sizeOf231
  v57 := Tryz.zeroValue231
  t63 := Tryz.underlying235
  a63 := Tryz.isAgg235
  z63 := Tryz.sizeOf235
  v63 := Tryz.zeroValue235
  t64 := Tryz.underlying133
  a64 := Tryz.isAgg133
  z64 := Tryz.sizeOf133
  v64 := Tryz.zeroValue133 }
end Go.Proofs.YtaiegmhlgjogmaaGreat
/- Names and Tick of package clock. -/
namespace Go.Proofs.YtaiegmhlgjogmaaGreat.Ck
open Go.RowKit Go.Maps Go.Sort Go.Shelf

/-- The names of timers. -/
def namesT (L : List (Int × Int)) : List Int := L.map (·.2)
theorem namesT_len (L : List (Int × Int)) : (namesT L).length = L.length := by simp [namesT]
theorem keys_timers (L : List (Int × Int)) : intKeys (mapD (L.map tpair)) = namesT L := by
  simp [mapD, intKeys, namesT, tpair, Function.comp_def]
  intro a b _
  rfl
theorem sort_perm {l m : List Int} (hp : l.Perm m) (hm : m.Pairwise (· < ·)) : l.mergeSort (fun x y => decide (x ≤ y)) = m := by
  have tr : ∀ a b c : Int, decide (a ≤ b) = true → decide (b ≤ c) = true → decide (a ≤ c) = true := fun a b c h1 h2 => by simp only [decide_eq_true_eq] at *; omega
  have to : ∀ a b : Int, (decide (a ≤ b) || decide (b ≤ a)) = true := fun a b => by simp only [Bool.or_eq_true, decide_eq_true_eq]; omega
  refine List.Perm.eq_of_pairwise (le := fun a b => decide (a ≤ b) = true) (fun a b _ _ h1 h2 => ?_) (List.pairwise_mergeSort tr to l) (hm.imp fun {a b} h => by simp only [decide_eq_true_eq]; omega) ((List.mergeSort_perm l _).trans hp)
  simp only [decide_eq_true_eq] at h1 h2
  omega
theorem names_fit {L : List (Int × Int)} (h : ∀ p ∈ L, T64 p) : Fit (namesT L) := by
  intro x hx
  obtain ⟨p, hp, rfl⟩ := List.mem_map.1 hx
  exact (h p hp).2
theorem names_rise {L : List (Int × Int)} (h : L.Pairwise (fun p q => p.2 < q.2)) : (namesT L).Pairwise (· < ·) := List.pairwise_map.2 h

/-- The library's Sort at this program. -/
theorem Tryz.sorts (m : Nat) : AnyZI.SortsIn Tryz.prog Tryz.sortedA_ren Fence.wide m :=
  ⟨fun blk off cap ss W hH hblk hsz => callsIn_wide.2 (AnyM.slices_Sort_int Tryz.sortA blk off cap ss W hH hblk hsz),
   fun p cap W => callsIn_wide.2 (AnyM.slices_Sort_int_none Tryz.sortA p cap W)⟩
theorem keys_any (mb : Option Nat) (W : World) : Calls Tryz.prog 170 #[.map mb] W fun e w' => e = .returned (.func (.func 192) #[] #[.pointer (some ⟨W.heap.size, 0, none⟩)]) ∧ w' = W.alloc (.cells #[.map mb] 150) :=
  callsIn_wide.1 (AnyZI.keys_in Tryz.keysA Fence.wide 5 trivial rfl mb W)
theorem sorted_any (b nn : Nat) (L : List (Int × Int)) (w : World) (hown : w.ownsMap Tryz.prog 3 heldR b nn (mapD (L.map tpair))) (hr : (namesT L).Pairwise (· < ·)) (hf : Fit (namesT L)) (hlen : L.length ≤ 1000000) :
    Calls Tryz.prog 169 #[.func (.func 192) #[] #[.pointer (some ⟨w.heap.size, 0, none⟩)]] (w.alloc (.cells #[.map (some b)] 150)) (NewInts w (namesT L)) := by
  have hbl := hown.lt
  have hsz : Maps.size (mapD (L.map tpair)) = L.length := by rw [size_mapD, List.length_map]
  have hseq : SeqGives Fence.wide 2 Tryz.prog 192 #[.pointer (some ⟨w.heap.size, 0, none⟩)] encZ (fun ss => ss.Perm (intKeys (mapD (L.map tpair)))) (Maps.size (mapD (L.map tpair))) (w.alloc (.cells #[.map (some b)] 150)) :=
    AnyZI.keys_gives (ρ := Tryz.keysA_ren) { Tryz.keysA with } Fence.wide _ trivial rfl (by omega) w.heap.size b nn (mapD (L.map tpair)) _ (by simp) (by simp) (by
      obtain ⟨es, clock, hb, Ft, hs, hD⟩ := hown
      exact ⟨es, clock, (Below.heap_alloc _ _ b hbl).trans hb, Ft, hs, hD⟩)
  have cS := AnyZI.sorted_in Tryz.sortedA Fence.wide 5 trivial trivial trivial trivial rfl (by omega) (Tryz.sorts _) (enters_of Tryz.func191 (by kernel_rfl) rfl) 192 #[.pointer (some ⟨w.heap.size, 0, none⟩)] trivial (enters_of Tryz.func192 (by kernel_rfl) rfl) _ _ (by rw [hsz]; unfold maxLen; omega) (by rw [hsz]; omega) _ hseq
  change CallsIn _ _ Tryz.prog 169 _ _ _ at cS
  refine (callsIn_wide.1 cS).mono ?_
  rintro e w' ⟨v, ss, rfl, hS, hrow, hnil, hb⟩
  rw [keys_timers] at hS
  rw [sort_perm hS hr] at hrow
  have hl : ss.length = (namesT L).length := hS.length_eq
  rw [hl] at hrow
  have hrow' : w'.ownsRow w.heap.size 3 1 v (namesT L).length (ivs (namesT L)) := ownsRow_base_a hrow (by simp)
  obtain ⟨A, c, rfl, h1, _, h2⟩ := IHolds.of_own hrow' hf
  exact ⟨A, _, c, rfl, hrow', h2, h1, ((Below.refl _ w).alloc (Nat.le_refl _) _).trans (hb.mono (by simp))⟩

theorem newInts_nil {w w' : World} (hb : Below w.heap.size w w') : NewInts w [] (.returned (.slice none 0 0)) w' :=
  ⟨none, 0, 0, rfl, World.ownsRow_nil _ _ _ _, IHolds.nil_ _ _, Nat.le_refl _, hb⟩

theorem names_no (p : Value) (w : World) (h : NoClock w p) : Calls Tryz.prog 134 #[p] w fun e w' => e = .returned (.slice none 0 0) ∧ w = w' := by
  have C := hide (made_no p w h)
  have hp : ∃ a, p = .pointer a := by rcases h with rfl | ⟨g, rfl, _⟩ <;> exact ⟨_, rfl⟩
  obtain ⟨a, rfl⟩ := hp
  clear h
  go_enter Tryz.func134, Tryz.ntmps134
  go_wp2_with (fail)
  refine C.out.mono ?_
  rintro e w1 ⟨rfl, rfl⟩
  go_wp2
  go_ret
  exact ⟨rfl, rfl⟩

section
variable {S : Nat → Prop} {c k b base cnt : Nat} {now : Int} {L : List (Int × Int)}
set_option maxHeartbeats 1000000 in
theorem names_yes (w : World) (h : ClockAt S w c k b base cnt now L) : Calls Tryz.prog 134 #[.pointer (some ⟨c, 0, none⟩)] w (NewInts w (namesT L)) := by
  have C := hide (made_yes w h)
  have CK := hide (fun W => keys_any (some b) W)
  have CS := hide (sorted_any b cnt L w h.map (names_rise h.rise) (names_fit h.t64) (by have := h.len; omega))
  obtain ⟨c0, _, k1, _⟩ := h.cells
  clear h
  go_enter Tryz.func134, Tryz.ntmps134
  go_wp2_with (fail)
  refine C.out.mono ?_
  rintro e w1 ⟨rfl, rfl⟩
  go_wp2_with (fail)
  refine (CK.out _).mono ?_
  rintro e w1 ⟨rfl, rfl⟩
  go_wp2_with (fail)
  refine CS.out.mono ?_
  rintro e w2 ⟨A, n, c, rfl, h1, h2, h3, h4⟩
  have H : Hid (NewInts w (namesT L) (.returned (.slice A n c)) w2) := ⟨A, n, c, rfl, h1, h2, h3, h4⟩
  clear h1 h2 h3 h4
  go_wp2
  go_ret
  exact H.out
end

theorem tick_no (p : Value) (w : World) (h : NoClock w p) : Calls Tryz.prog 58 #[p] w fun e w' => e = .returned (.slice none 0 0) ∧ w = w' := by
  have C := hide (made_no p w h)
  have hp : ∃ a, p = .pointer a := by rcases h with rfl | ⟨g, rfl, _⟩ <;> exact ⟨_, rfl⟩
  obtain ⟨a, rfl⟩ := hp
  clear h
  go_enter Tryz.func58, Tryz.ntmps58
  go_wp2_with (fail)
  refine C.out.mono ?_
  rintro e w1 ⟨rfl, rfl⟩
  go_wp2
  go_ret
  exact ⟨rfl, rfl⟩

/-- Those whose time is over at that tick, and those whose is not. -/
def dueT (L : List (Int × Int)) (at_ : Int) : List (Int × Int) := L.filter (fun p => decide (p.1 ≤ at_))
def restT (L : List (Int × Int)) (at_ : Int) : List (Int × Int) := L.filter (fun p => !decide (p.1 ≤ at_))
/-- Of those that are due the first one by the heap is the first one by names. -/
theorem due_step {at_ : Int} {p : Int × Int} : ∀ {L : List (Int × Int)}, L.Pairwise (fun p q => p.2 < q.2) → (∀ q ∈ L, T64 q) → (∀ q ∈ L, at_ ≤ q.1) → p ∈ L → p.1 ≤ at_ → (∀ q ∈ L, tkey p ≤ tkey q) →
    dueT L at_ = p :: dueT (delT L p.2) at_ ∧ restT (delT L p.2) at_ = restT L at_
  | [], _, _, _, h, _, _ => by cases h
  | y :: r, hr, ht, hlo, hp, hd, hmin => by
    obtain ⟨h1, h2⟩ := List.pairwise_cons.1 hr
    rcases List.mem_cons.1 hp with rfl | hp'
    · have e : delT (p :: r) p.2 = r := by
        unfold delT
        rw [List.filter_cons, if_neg (by simp), List.filter_eq_self]
        intro q hq
        have := h1 q hq
        simp
        omega
      rw [e]
      refine ⟨?_, ?_⟩
      · simp [dueT, hd]
      · simp [restT, hd]
    · have hlt := h1 p hp'
      have hy : ¬ y.1 ≤ at_ := fun hy => by
        have a1 := hlo y (by simp)
        have a2 := hlo p hp
        have a3 := hmin y (by simp)
        have a4 := (tkey_lt (ht y (by simp)) (ht p hp)).2 (.inr ⟨by omega, hlt⟩)
        omega
      obtain ⟨i1, i2⟩ := due_step h2 (fun q hq => ht q (by simp [hq])) (fun q hq => hlo q (by simp [hq])) hp' hd (fun q hq => hmin q (by simp [hq]))
      have e : delT (y :: r) p.2 = y :: delT r p.2 := by
        unfold delT
        rw [List.filter_cons, if_pos (by simp; omega)]
      have hd1 : ∀ l, dueT (y :: l) at_ = dueT l at_ := fun l => by simp [dueT, hy]
      have hd2 : ∀ l, restT (y :: l) at_ = y :: restT l at_ := fun l => by
        unfold restT
        rw [List.filter_cons, if_pos (by simpa using hy)]
      rw [e, hd1, hd1, hd2, hd2, i2]
      exact ⟨i1, rfl⟩
theorem due_none {L : List (Int × Int)} {at_ : Int} (h : ∀ q ∈ L, at_ < q.1) : dueT L at_ = [] ∧ restT L at_ = L := by
  unfold dueT restT
  constructor
  · rw [List.filter_eq_nil_iff]
    intro q hq
    have := h q hq
    simp
    omega
  · rw [List.filter_eq_self]
    intro q hq
    have := h q hq
    simp
    omega
end Go.Proofs.YtaiegmhlgjogmaaGreat.Ck
/- Tick of package clock. -/
namespace Go.Proofs.YtaiegmhlgjogmaaGreat.Ck
open Go.RowKit Go.Maps

def slen : Value → Nat
  | .slice _ n _ => n
  | _ => 0
theorem ints_lit (w : World) (T : TypeId) (a : Int) (h1 : -9223372036854775808 ≤ a) (h2 : a < 9223372036854775808) : IHolds (w.alloc (.cells #[.int .i64 a] T (0, 0))) (w.heap.size + 1) (some ⟨w.heap.size, 0, none⟩) 1 [a] :=
  ⟨rfl, fun x hx => by
    obtain rfl : x = a := by simpa using hx
    exact ⟨h1, h2⟩, fun _ => ⟨w.heap.size, 0, rfl, by omega, fun i hi => by
    rw [Nat.zero_add, cell_of_row _ _ _ _ _ _ (heap_alloc_new w _)]
    match i, hi with
    | 0, _ => rfl⟩⟩

/-- Where the loop of Tick stands. -/
structure Ticking (S : Nat → Prop) (w wr : World) (c k b base cnt : Nat) (now1 : Int) (L Lj : List (Int × Int)) (ns : List Int) (v : Value) : Prop where
  clock : ClockAt S wr c k b base cnt now1 Lj
  own : wr.ownsRow w.heap.size 3 1 v ns.length (ivs ns)
  turned : Turned S w wr
  due : ns ++ namesT (dueT Lj now1) = namesT (dueT L now1)
  rest : restT Lj now1 = restT L now1
  fit : ∀ p ∈ L, T64 p

/-- What Tick hands back: the names of those whose time is over, in new memory, and the clock without them. -/
def TickTo (S : Nat → Prop) (w : World) (c k b base cnt : Nat) (now : Int) (L : List (Int × Int)) (e : Ending) (w' : World) : Prop :=
  ∃ A n cp, e = .returned (.slice A n cp) ∧ w'.ownsRow w.heap.size 3 1 (.slice A n cp) n (ivs (namesT (dueT L (now + 1)))) ∧ IHolds w' w'.heap.size A n (namesT (dueT L (now + 1))) ∧ n ≤ cp ∧
    ClockAt S w' c k b base cnt (now + 1) (restT L (now + 1)) ∧ Turned S w w'

section
variable {S : Nat → Prop} {c k b base cnt : Nat} {now : Int} {L : List (Int × Int)}
theorem Ticking.over {w wr w' : World} {Lj : List (Int × Int)} {ns : List Int} {v : Value} (h : Ticking S w wr c k b base cnt (now + 1) L Lj ns v) (hb : Below wr.heap.size wr w') (hn : ∀ q ∈ Lj, now + 1 < q.1) :
    TickTo S w c k b base cnt now L (.returned v) w' := by
  obtain ⟨d1, d2⟩ := due_none hn
  have h1 := h.due
  rw [d1] at h1
  have h2 := h.rest
  rw [d2] at h2
  have e1 : ns = namesT (dueT L (now + 1)) := by simpa [namesT] using h1
  have hfit : Fit ns := by
    rw [e1]
    exact names_fit fun p hp => h.fit p (List.mem_filter.1 hp).1
  have ho := own_below h.own hb
  obtain ⟨A, cp, hv, h3, _, h4⟩ := IHolds.of_own ho hfit
  subst hv
  rw [e1] at ho h4 h3
  refine ⟨A, _, cp, by rw [e1], ho, h4, h3, ?_, h.turned.trans (Turned.of_below hb S)⟩
  rw [← h2]
  exact h.clock.later hb
theorem HeapAt.first {w : World} {now1 mp hv : Value} {hs : List (Int × Int)} (h : HeapAt w base k now1 mp hv hs) (hpos : 0 < hs.length) :
    ∃ g cp p, hv = .slice (some ⟨g, 0, none⟩) hs.length cp ∧ hs.length ≤ cp ∧ cp ≤ maxLen ∧ p ∈ hs ∧ (∀ q ∈ hs, tkey p ≤ tkey q) ∧ w.cell? ⟨g, 0, none⟩ = some (.int .i64 p.1) ∧ w.cell? ⟨g, 1, none⟩ = some (.int .i64 p.2) := by
  obtain ⟨g, cp, rfl, _, _, h1, h2⟩ := own_place h.own hpos
  have hr : TRow w base g hs.length cp hs := h.own
  have hg := hr.range (i := 0) hpos
  refine ⟨g, cp, hs.getD 0 (0, 0), rfl, h1, h2, ?_, fun q hq => ?_, hg 0 _ rfl, hg 1 _ rfl⟩
  · rw [List.getD_eq_getElem?_getD, List.getElem?_eq_getElem hpos]
    exact List.getElem_mem hpos
  · obtain ⟨i, hi, rfl⟩ := List.getElem_of_mem hq
    have := h.heap.least hi
    unfold kf at this
    rw [List.getD_eq_getElem?_getD (i := i), List.getElem?_eq_getElem hi] at this
    exact this
theorem Ticking.step {w wr w3 w5 : World} {Lj : List (Int × Int)} {ns : List Int} {v v5 : Value} {p : Int × Int} (h : Ticking S w wr c k b base cnt (now + 1) L Lj ns v) (hS : ∀ i, S i → i < w.heap.size)
    (hp : p ∈ Lj) (hd : p.1 ≤ now + 1) (hmin : ∀ q ∈ Lj, tkey p ≤ tkey q) (hc : ClockAt S w3 c k b base cnt (now + 1) (delT Lj p.2)) (ht : Turned S wr w3)
    (ho : w5.ownsRow w.heap.size 3 1 v5 (ns.length + 1) (ivs ns ++ ivs [p.2])) (hg : (w3.alloc (.cells #[.int .i64 p.2] 3 (0, 0))).grownBy w5 v.ownBlock) :
    Ticking S w w5 c k b base cnt (now + 1) L (delT Lj p.2) (ns ++ [p.2]) v5 := by
  obtain ⟨s1, s2⟩ := due_step h.clock.rise h.clock.t64 (fun q hq => (h.clock.ends q hq).1) hp hd hmin
  have hv : ∀ q, v.ownBlock = some q → w.heap.size ≤ q := fun q e => (h.own.lt q e).1
  have h4 := hc.later ((Below.refl w3.heap.size w3).alloc (Nat.le_refl _) (.cells #[.int .i64 p.2] 3 (0, 0)))
  have T4 : Turned S wr (w3.alloc (.cells #[.int .i64 p.2] 3 (0, 0))) := ht.trans (Turned.of_below ((Below.refl w3.heap.size w3).alloc (Nat.le_refl _) _) S)
  refine ⟨h4.kept (Kept.of_grown hg fun g e hs => ?_), ?_, ?_, ?_, s2.trans h.rest, h.fit⟩
  · have := hv g e
    have := hS g hs
    omega
  · rw [ivs_append, List.length_append]
    exact ho
  · refine h.turned.trans ?_ |>.onto (T := fun i => w.heap.size ≤ i) (Turned.of_grown hg fun g e => hv g e) fun i hi => .inr hi
    exact T4
  · rw [← h.due, s1]
    simp [namesT]
theorem ClockAt.ticked {w : World} (h : ClockAt S w c k b base cnt now L) (hlt : ∀ p ∈ L, now < p.1) (hnow : now < 1000000) :
    ClockAt S (w.setCell ⟨k, 0, none⟩ (.int .i64 (now + 1))) c k b base cnt (now + 1) L ∧ Turned S w (w.setCell ⟨k, 0, none⟩ (.int .i64 (now + 1))) := by
  obtain ⟨hv, hs, hh, hp, hq⟩ := h.heap
  have hT : Turned (fun i => i = k) w (w.setCell ⟨k, 0, none⟩ (.int .i64 (now + 1))) := Turned.of_grown (grown_set w k 0 _) fun g e => (Option.some.inj e).symm
  have hne := h.ne
  refine ⟨⟨(hT.block c h.klt.1 hne.1).trans h.cell, ?_, ⟨hv, hs, ⟨heap_setCell_same w k 0 _ _ _ hh.cell, hh.kb, Nat.le_trans hh.bw hT.size, ?_, hh.heap, hh.t64, hh.len⟩, hp, hq⟩, h.rise, h.inn, h.lt, hne, ?_, fun p hp' => ?_, h.len⟩, hT.mono fun i hi => by subst hi; exact h.inn.2.1⟩
  · obtain ⟨es, clock, hb, rest⟩ := h.map
    exact ⟨es, clock, (hT.block b (lt_of_block hb) hne.2.1).trans hb, rest⟩
  · refine ⟨hh.own.1, ?_⟩
    rcases hh.own.2 with h0 | ⟨g, cap, cur, e, h1, h2, h3⟩
    · exact .inl h0
    · exact .inr ⟨g, cap, cur, e, h1, (hT.block g (lt_of_block h2) (by have := hh.kb; omega)).trans h2, h3⟩
  · have := h.time
    omega
  · have := hlt p hp'
    have := h.ends p hp'
    omega

set_option maxHeartbeats 2000000 in
set_option maxRecDepth 100000 in
theorem tick_yes (w : World) (h : ClockAt S w c k b base cnt now L) (hS : ∀ i, S i → i < w.heap.size) (hlt : ∀ p ∈ L, now < p.1) (hnow : now < 1000000) :
    Calls Tryz.prog 58 #[.pointer (some ⟨c, 0, none⟩)] w (TickTo S w c k b base cnt now L) := by
  obtain ⟨i0, hi, hz0, hz1, hz2⟩ := info_parts Tryz.infoI64
  have HI := hide hi
  have HZ0 := hide hz0
  have HZ1 := hide hz1
  have HZ2 := hide hz2
  have C := hide (made_yes w h)
  have HT := hide (h.ticked hlt hnow)
  have HFIT := hide h.t64
  have HSS := hide hS
  obtain ⟨ht0, ht1⟩ := h.time
  have hlen := h.len
  obtain ⟨c0, k0, k1, kf⟩ := h.cells
  have hwr : IntKind.i64.wrap (now + 1) = now + 1 := IntWalk.i64_in _ (by omega)
  clear h hlt hi hz0 hz1 hz2 hS
  go_enter Tryz.func58, Tryz.ntmps58
  go_wp2_with (fail)
  refine C.out.mono ?_
  rintro e w1 ⟨rfl, rfl⟩
  go_wp2
  obtain ⟨w1, hw1⟩ : ∃ w1, w1 = w.setCell ⟨k, 0, none⟩ (.int .i64 (now + 1)) := ⟨_, rfl⟩
  rw [← hw1] at HT ⊢
  clear hw1 c0 k0 k1 kf hwr C
  go_loopw [3] (fun v wr => ∃ A n cp ns Lj, v = .slice A n cp ∧ n = ns.length ∧ Ticking S w wr c k b base cnt (now + 1) L Lj ns (.slice A n cp)) (fun v _ => L.length - slen v)
  case atStart => exact ⟨none, 0, 0, [], L, rfl, rfl, HT.out.1, World.ownsRow_nil _ _ _ _, HT.out.2, rfl, rfl, HFIT.out⟩
  case round =>
    obtain ⟨A, n, cp, ns, Lj, rfl, hn, htk⟩ := hrel
    have HTK := hide htk
    have HN := hide hn
    have hns : n + (dueT Lj (now + 1)).length = (dueT L (now + 1)).length := by
      have := congrArg List.length htk.due
      simp [namesT] at this
      omega
    have hdl : (dueT L (now + 1)).length ≤ L.length := List.length_filter_le _ _
    obtain ⟨c0, k0, k1, kf⟩ := htk.clock.cells
    obtain ⟨hv, hs, hh, hp, hq⟩ := htk.clock.heap
    have k2 := cell_of_row wr k 2 _ _ _ hh.cell
    simp only [List.getElem?_toArray, List.getElem?_cons_zero, List.getElem?_cons_succ] at k2
    have HP := hide hp
    by_cases hpos : 0 < hs.length
    · obtain ⟨g, cq, p, rfl, hc1, hc2, hmem, hmin, g0, g1⟩ := hh.first hpos
      obtain ⟨m, hm⟩ : ∃ m, m = hs.length := ⟨_, rfl⟩
      rw [← hm] at k2 hc1 hpos
      unfold maxLen at hc2
      have hpm : (0 : Int) < (m : Int) := by omega
      have HMEM := hide (hp.mem_iff.1 hmem)
      have HMIN : Hid (∀ q ∈ Lj, tkey p ≤ tkey q) := fun q hq => hmin q (hp.mem_iff.2 hq)
      have ht64 := htk.clock.t64 p HMEM.out
      obtain ⟨⟨t1, t2⟩, t3, t4⟩ := ht64
      have hdue : p.1 ≤ now + 1 → 0 < (dueT Lj (now + 1)).length := fun hd => List.length_pos_of_mem (List.mem_filter.2 ⟨HMEM.out, by simpa using hd⟩)
      obtain ⟨e1, nm⟩ := p
      simp only at g0 g1 t1 t2 t3 t4 hdue
      have HDUE := hide hdue
      clear htk hn hh hp hq hm hmem hmin hdue
      by_cases hd : e1 ≤ now + 1
      · have hroom : n + 1 ≤ L.length := by
          have := HDUE.out hd
          omega
        have HD := hide hd
        go_wp2
        go_quiet (fail)
        go_wp2_with (fail)
        have hcl : ClockAt S (wr.drewN nq) c k b base cnt (now + 1) Lj := HTK.out.clock.kept (Kept.drewN _ _ _)
        refine (stop_yes nm _ hcl t3 t4).mono ?_
        clear hcl
        rintro e w3 ⟨rfl, hc3, ht3⟩
        have HC3 := hide hc3
        have HT3 : Hid (Turned S wr w3) := (Turned.drewN S wr nq).trans ht3
        have HO : Hid ((w3.alloc (.cells #[.int .i64 nm] 3 (0, 0))).ownsRow w.heap.size 3 1 (.slice A n cp) n (ivs ns)) := by
          have h1 : w3.ownsRow w.heap.size 3 1 (.slice A n cp) ns.length (ivs ns) := by
            refine ⟨HTK.out.own.1, ?_⟩
            rcases HTK.out.own.2 with h0 | ⟨g', cap, cur, e', a1, a2, a3⟩
            · exact .inl h0
            · exact .inr ⟨g', cap, cur, e', a1, (HT3.out.block g' (lt_of_block a2) (fun hs' => by have := HSS.out g' hs'; omega)).trans a2, a3⟩
          rw [← HN.out] at h1
          exact h1.alloc _
        have HLOW : Hid (w.heap.size ≤ (w3.alloc (.cells #[.int .i64 nm] 3 (0, 0))).heap.size) := by
          have h1 := HTK.out.turned.size
          have h2 := HT3.out.size
          show _ ≤ _
          simp
          omega
        clear hc3 ht3 c0 k0 k1 kf k2 g0 g1
        go_wp2_with (at_builtin; refine wpList_append_ints _ rfl (.tmp 60) (.tmp 62) 40 rfl w.heap.size 3 i0 (.int .i64 0) Tryz.underlying40 HI.out HZ0.out HZ1.out HZ2.out rfl (.slice A n cp) n (ivs ns) rfl HO.out _ (some ⟨w3.heap.size, 0, none⟩) 1 1 [nm] rfl (ints_lit w3 3 nm t3 t4) (by omega) (by exact HLOW.out) ?_; intro v5 w5 o5 g5)
        have HS5 : Hid (Ticking S w w5 c k b base cnt (now + 1) L (delT Lj nm) (ns ++ [nm]) v5) := HTK.out.step (p := (e1, nm)) HSS.out HMEM.out HD.out HMIN.out HC3.out HT3.out (by rw [← HN.out]; exact o5) g5.1
        obtain ⟨A5, c5, hv5, _, _, _⟩ := IHolds.of_own HS5.out.own (by
          have hfit : Fit (namesT L) := names_fit HFIT.out
          have hd5 := HS5.out.due
          intro x hx
          have hx2 : x ∈ namesT (dueT L (now + 1)) := by
            rw [← hd5]
            exact List.mem_append_left _ hx
          obtain ⟨q, hq, rfl⟩ := List.mem_map.1 hx2
          exact (HFIT.out q (List.mem_filter.1 hq).1).2)
        subst hv5
        clear o5 g5 HO
        go_wp2
        go_roundw
        case rel => exact ⟨A5, _, c5, ns ++ [nm], delT Lj nm, rfl, by simp, HS5.out⟩
        case measure => have := HN.out; simp [slen]; omega
      · have hd' : now + 1 < e1 := by omega
        have HD : Hid (∀ q ∈ Lj, now + 1 < q.1) := fun q hq => by
          have h1 := HMIN.out q hq
          have h2 := HTK.out.clock.t64 q hq
          have h3 := HTK.out.clock.t64 _ HMEM.out
          by_cases h4 : q.1 ≤ now + 1
          · have := (tkey_lt h2 h3).2 (.inl (by simp only; omega))
            omega
          · omega
        clear hd
        go_wp2
        go_quiet (fail)
        go_wp2
        go_ret
        exact HTK.out.over (below_drewN _ _ _) HD.out
    · have hnil : hs = [] := List.eq_nil_of_length_eq_zero (by omega)
      have hl : Lj = [] := by
        have := HP.out.length_eq
        rw [hnil] at this
        exact List.eq_nil_of_length_eq_zero this.symm
      have HD : Hid (∀ q ∈ Lj, now + 1 < q.1) := by
        show ∀ q ∈ Lj, now + 1 < q.1
        rw [hl]
        simp
      have hvs : ∃ A' c', hv = .slice A' 0 c' := by
        rcases hh.own.2 with ⟨e, _⟩ | ⟨g, cap, cur, e, _⟩
        · exact ⟨none, 0, e⟩
        · rw [hnil] at e
          exact ⟨_, cap, e⟩
      obtain ⟨A', c', rfl⟩ := hvs
      clear htk hn hh hp hq hpos hnil hl
      go_wp2
      go_quiet (fail)
      go_wp2
      go_ret
      exact HTK.out.over (below_drewN _ _ _) HD.out
end
end Go.Proofs.YtaiegmhlgjogmaaGreat.Ck
/- A clock as the statements see it: its ticks, its timers, and the blocks that it may write, all of the call's own. -/
namespace Go.Proofs.YtaiegmhlgjogmaaGreat.Ck
open Go.RowKit Go.Maps

/-- The clock at c: S holds of the blocks that it may write, all from B on. -/
def Clk (B : Nat) (S : Nat → Prop) (w : World) (c : Nat) (now : Int) (L : List (Int × Int)) (N : Nat) : Prop :=
  (∀ i, S i → B ≤ i ∧ i < w.heap.size) ∧ ∃ k b base cnt, cnt ≤ N ∧ ClockAt S w c k b base cnt now L
section
variable {B c N : Nat} {S : Nat → Prop} {w w' : World} {now : Int} {L : List (Int × Int)}
theorem Clk.kept (h : Clk B S w c now L N) (hk : Kept S w w') : Clk B S w' c now L N :=
  ⟨fun i hi => ⟨(h.1 i hi).1, Nat.lt_of_lt_of_le (h.1 i hi).2 hk.1⟩, let ⟨k, b, base, cnt, hc, hh⟩ := h.2; ⟨k, b, base, cnt, hc, hh.kept hk⟩⟩
theorem Clk.later (h : Clk B S w c now L N) (hb : Below w.heap.size w w') : Clk B S w' c now L N := h.kept (Kept.of_below hb _)
theorem Clk.more (h : Clk B S w c now L N) {M : Nat} (hm : N ≤ M) : Clk B S w c now L M := ⟨h.1, let ⟨k, b, base, cnt, hc, hh⟩ := h.2; ⟨k, b, base, cnt, Nat.le_trans hc hm, hh⟩⟩
theorem Clk.low (h : Clk B S w c now L N) : B ≤ w.heap.size := by
  obtain ⟨h1, k, b, base, cnt, _, hh⟩ := h
  have := h1 c hh.inn.1
  omega
theorem Clk.below (h : Clk B S w c now L N) (ht : Turned S w w') : Below B w w' := ht.below (fun i hi => (h.1 i hi).1) h.low
theorem Clk.len (h : Clk B S w c now L N) : L.length ≤ 100 := let ⟨_, _, _, _, _, _, hh⟩ := h; hh.len
theorem Clk.t64 (h : Clk B S w c now L N) : ∀ p ∈ L, T64 p := let ⟨_, _, _, _, _, _, hh⟩ := h; hh.t64
theorem Clk.rise (h : Clk B S w c now L N) : L.Pairwise (fun p q => p.2 < q.2) := let ⟨_, _, _, _, _, _, hh⟩ := h; hh.rise
theorem Clk.time (h : Clk B S w c now L N) : 0 ≤ now ∧ now ≤ 1000000 := let ⟨_, _, _, _, _, _, hh⟩ := h; hh.time
/-- What lies in blocks that it may not write is as it was. -/
theorem own_apart {base e size n : Nat} {v : Value} {xs : List Value} (ho : w.ownsRow base e size v n xs) (ht : Turned S w w') (hS : ∀ q, v.ownBlock = some q → ¬ S q) : w'.ownsRow base e size v n xs := by
  refine ⟨ho.1, ?_⟩
  rcases ho.2 with h0 | ⟨g, cap, cur, e', a1, a2, a3⟩
  · exact .inl h0
  · exact .inr ⟨g, cap, cur, e', a1, (ht.block g (lt_of_block a2) (hS g (by rw [e']; rfl))).trans a2, a3⟩

/-- What New hands back. -/
def ClkNew (w : World) (e : Ending) (w' : World) : Prop := ∃ c S, e = .returned (.pointer (some ⟨c, 0, none⟩)) ∧ Below w.heap.size w w' ∧ Clk w.heap.size S w' c 0 [] 0
theorem clk_new (w : World) : Calls Tryz.prog 83 #[] w (ClkNew w) :=
  (new_any w).mono fun _ _ ⟨c, k, b, he, hb, hc⟩ => ⟨c, _, he, hb, fun _ hi => hi, k, b, _, 0, Nat.le_refl _, hc⟩

/-- What Set hands back where the time is one. -/
def ClkSet (B : Nat) (S : Nat → Prop) (w : World) (c : Nat) (now : Int) (L' : List (Int × Int)) (N : Nat) (e : Ending) (w' : World) : Prop :=
  ∃ S', e = .returned (.int .i64 0) ∧ Clk B S' w' c now L' (N + 1) ∧ Turned S w w' ∧ ∀ i, S' i → S i ∨ w.heap.size ≤ i
theorem clk_set (name after : Int) (h : Clk B S w c now L N) (h1 : -9223372036854775808 ≤ name) (h2 : name < 9223372036854775808) (ha1 : 1 ≤ after) (ha2 : after ≤ 100000) (hl : findT L name ≠ none ∨ L.length < 100) (hN : N ≤ 1000000) :
    Calls Tryz.prog 166 #[.pointer (some ⟨c, 0, none⟩), .int .i64 name, .int .i64 after] w (ClkSet B S w c now (insT (now + after, name) (delT L name)) N) := by
  have hlow := h.low
  obtain ⟨hS, k, b, base, cnt, hc, hh⟩ := h
  refine (set_ok name after w hh h1 h2 ha1 ha2 hl (by omega)).mono fun e w' ⟨he, hc', ht⟩ => ⟨_, he, ⟨fun i hi => ?_, k, b, base, cnt + 1, by omega, hc'⟩, ht, fun i hi => hi.imp id fun h => h.1⟩
  have hsz := ht.size
  rcases hi with hi | hi
  · have := hS i hi
    exact ⟨this.1, by omega⟩
  · exact ⟨by omega, hi.2⟩
theorem clk_range (name after : Int) (h : Clk B S w c now L N) (ha : after < 1 ∨ 100000 < after) :
    Calls Tryz.prog 166 #[.pointer (some ⟨c, 0, none⟩), .int .i64 name, .int .i64 after] w fun e w' => e = .returned (.int .i64 15) ∧ w = w' := by
  obtain ⟨hS, k, b, base, cnt, hc, hh⟩ := h
  exact set_range name after w hh ha
theorem clk_full (name after : Int) (h : Clk B S w c now L N) (h1 : -9223372036854775808 ≤ name) (h2 : name < 9223372036854775808) (ha1 : 1 ≤ after) (ha2 : after ≤ 100000) (hf : findT L name = none) (hl : L.length = 100) :
    Calls Tryz.prog 166 #[.pointer (some ⟨c, 0, none⟩), .int .i64 name, .int .i64 after] w fun e w' => e = .returned (.int .i64 7) ∧ Below w.heap.size w w' := by
  obtain ⟨hS, k, b, base, cnt, hc, hh⟩ := h
  exact set_full name after w hh h1 h2 ha1 ha2 hf hl
def ClkStop (B : Nat) (S : Nat → Prop) (w : World) (c : Nat) (now : Int) (L : List (Int × Int)) (N : Nat) (name : Int) (e : Ending) (w' : World) : Prop :=
  e = .returned (.bool (findT L name).isSome) ∧ Clk B S w' c now (delT L name) N ∧ Turned S w w'
theorem clk_stop (name : Int) (h : Clk B S w c now L N) (h1 : -9223372036854775808 ≤ name) (h2 : name < 9223372036854775808) :
    Calls Tryz.prog 119 #[.pointer (some ⟨c, 0, none⟩), .int .i64 name] w (ClkStop B S w c now L N name) := by
  obtain ⟨hS, k, b, base, cnt, hc, hh⟩ := h
  exact (stop_yes name w hh h1 h2).mono fun e w' ⟨he, hc', ht⟩ => ⟨he, ⟨fun i hi => ⟨(hS i hi).1, Nat.lt_of_lt_of_le (hS i hi).2 ht.size⟩, k, b, base, cnt, hc, hc'⟩, ht⟩
/-- What Tick hands back. -/
def ClkTick (B : Nat) (S : Nat → Prop) (w : World) (c : Nat) (now : Int) (L : List (Int × Int)) (N : Nat) (e : Ending) (w' : World) : Prop :=
  ∃ A n cp, e = .returned (.slice A n cp) ∧ w'.ownsRow w.heap.size 3 1 (.slice A n cp) n (ivs (namesT (dueT L (now + 1)))) ∧ IHolds w' w'.heap.size A n (namesT (dueT L (now + 1))) ∧ n ≤ cp ∧
    Clk B S w' c (now + 1) (restT L (now + 1)) N ∧ Turned S w w'
theorem clk_tick (h : Clk B S w c now L N) (hlt : ∀ p ∈ L, now < p.1) (hnow : now < 1000000) : Calls Tryz.prog 58 #[.pointer (some ⟨c, 0, none⟩)] w (ClkTick B S w c now L N) := by
  obtain ⟨hS, k, b, base, cnt, hc, hh⟩ := h
  exact (tick_yes w hh (fun i hi => (hS i hi).2) hlt hnow).mono fun e w' ⟨A, n, cp, he, ho, hi', hn, hc', ht⟩ =>
    ⟨A, n, cp, he, ho, hi', hn, ⟨fun i hi => ⟨(hS i hi).1, Nat.lt_of_lt_of_le (hS i hi).2 ht.size⟩, k, b, base, cnt, hc, hc'⟩, ht⟩
theorem clk_names (h : Clk B S w c now L N) : Calls Tryz.prog 134 #[.pointer (some ⟨c, 0, none⟩)] w (NewInts w (namesT L)) := by
  obtain ⟨hS, k, b, base, cnt, hc, hh⟩ := h
  exact names_yes w hh
/-- Those that a tick leaves are over later. -/
theorem rest_later {L : List (Int × Int)} {at_ : Int} : ∀ p ∈ restT L at_, at_ < p.1 := by
  intro p hp
  have := (List.mem_filter.1 hp).2
  simp at this
  omega
end
end Go.Proofs.YtaiegmhlgjogmaaGreat.Ck
/- Steps, operations and messages: what they say, and how they lie in memory. -/
namespace Go.Proofs.YtaiegmhlgjogmaaGreat
open Go.RowKit

/-- A step. -/
structure StepD where
  name : ByteArray
  stub : Int
  retry : Int
  wait : Int
  undo : Bool
  pivot : Bool
  deriving DecidableEq
namespace StepD
def cells (s : StepD) : List Value := [.string s.name, .int .i64 s.stub, .int .i64 s.retry, .int .i64 s.wait, .bool s.undo, .bool s.pivot]
theorem len (s : StepD) : s.cells.length = 6 := rfl
theorem one (s : StepD) : ∀ u ∈ s.cells, u.oneCell' = true := by simp [cells, Value.oneCell']
end StepD

def I64 (x : Int) : Prop := -9223372036854775808 ≤ x ∧ x < 9223372036854775808
def StepD.wf (s : StepD) : Prop := s.name.size ≤ 140737488355328 ∧ I64 s.stub ∧ I64 s.retry ∧ I64 s.wait

/-- An operation. -/
structure OpD where
  kind : Int
  client : Int
  request : Int
  name : ByteArray
  steps : List StepD
  saga : Int
  step : Int
  try_ : Int
  back : Bool
  good : Bool
  deriving DecidableEq
namespace OpD
/-- Its cells, its steps' slice being s. -/
def cells (o : OpD) (s : Value) : List Value := [.int .i64 o.kind, .int .i64 o.client, .int .i64 o.request, .string o.name, s, .int .i64 o.saga, .int .i64 o.step, .int .i64 o.try_, .bool o.back, .bool o.good]
theorem len (o : OpD) (s : Value) : (o.cells s).length = 10 := rfl
def wf (o : OpD) : Prop := I64 o.kind ∧ I64 o.client ∧ I64 o.request ∧ o.name.size ≤ 140737488355328 ∧ (∀ s ∈ o.steps, s.wf) ∧ I64 o.saga ∧ I64 o.step ∧ I64 o.try_
def zero : OpD := ⟨0, 0, 0, ⟨#[]⟩, [], 0, 0, 0, false, false⟩
end OpD

/-- The slice v holds these steps. -/
def StepsAt (F : Nat → Prop) (w : World) (v : Value) (l : List StepD) : Prop := FlatAt F w 6 v l.length (l.flatMap StepD.cells)
/-- The value v is this operation. -/
def OpAt (F : Nat → Prop) (w : World) (v : Value) (o : OpD) : Prop := ∃ s, v = .agg (o.cells s).toArray ∧ StepsAt F w s o.steps ∧ s.oneCell' = true
/-- The slice v holds these operations, their steps' slices beside them. -/
def OpsIn (F : Nat → Prop) (w : World) (v : Value) (ps : List (OpD × Value)) : Prop :=
  FlatAt F w 10 v ps.length (ps.flatMap fun p => p.1.cells p.2) ∧ ∀ p ∈ ps, StepsAt F w p.2 p.1.steps
def OpsAt (F : Nat → Prop) (w : World) (v : Value) (l : List OpD) : Prop := ∃ ps, ps.map (·.1) = l ∧ OpsIn F w v ps
/-- The slice v holds these integers. -/
def IncsAt (F : Nat → Prop) (w : World) (v : Value) (l : List Int) : Prop := FlatAt F w 1 v l.length (l.map fun x => .int .i64 x)

section
variable {F G : Nat → Prop} {w w' : World} {v : Value}
theorem StepsAt.kept {l : List StepD} (h : StepsAt F w v l) (hk : Kept F w w') : StepsAt F w' v l := FlatAt.kept h hk
theorem StepsAt.mono {l : List StepD} (h : StepsAt F w v l) (hg : ∀ i, i < w.heap.size → F i → G i) : StepsAt G w v l := FlatAt.mono h hg
theorem IncsAt.kept {l : List Int} (h : IncsAt F w v l) (hk : Kept F w w') : IncsAt F w' v l := FlatAt.kept h hk
theorem IncsAt.mono {l : List Int} (h : IncsAt F w v l) (hg : ∀ i, i < w.heap.size → F i → G i) : IncsAt G w v l := FlatAt.mono h hg
theorem OpsIn.kept {ps : List (OpD × Value)} (h : OpsIn F w v ps) (hk : Kept F w w') : OpsIn F w' v ps := ⟨h.1.kept hk, fun p hp => (h.2 p hp).kept hk⟩
theorem OpsIn.mono {ps : List (OpD × Value)} (h : OpsIn F w v ps) (hg : ∀ i, i < w.heap.size → F i → G i) : OpsIn G w v ps := ⟨h.1.mono hg, fun p hp => (h.2 p hp).mono hg⟩
theorem OpsAt.kept {l : List OpD} (h : OpsAt F w v l) (hk : Kept F w w') : OpsAt F w' v l := let ⟨ps, e, h'⟩ := h; ⟨ps, e, h'.kept hk⟩
theorem OpsAt.mono {l : List OpD} (h : OpsAt F w v l) (hg : ∀ i, i < w.heap.size → F i → G i) : OpsAt G w v l := let ⟨ps, e, h'⟩ := h; ⟨ps, e, h'.mono hg⟩
theorem OpAt.kept {o : OpD} (h : OpAt F w v o) (hk : Kept F w w') : OpAt F w' v o := let ⟨s, e, h', h1⟩ := h; ⟨s, e, h'.kept hk, h1⟩
theorem OpAt.mono {o : OpD} (h : OpAt F w v o) (hg : ∀ i, i < w.heap.size → F i → G i) : OpAt G w v o := let ⟨s, e, h', h1⟩ := h; ⟨s, e, h'.mono hg, h1⟩
theorem FlatAt.oneCell {k n : Nat} {xs : List Value} (h : FlatAt F w k v n xs) : v.oneCell' = true := by
  obtain ⟨_, _, _, _, rfl, _⟩ := h
  rfl
theorem StepsAt.nil_ (F : Nat → Prop) (w : World) : StepsAt F w (.slice none 0 0) [] := FlatAt.nil_ F w 6
theorem IncsAt.nil_ (F : Nat → Prop) (w : World) : IncsAt F w (.slice none 0 0) [] := FlatAt.nil_ F w 1
theorem OpsAt.nil_ (F : Nat → Prop) (w : World) : OpsAt F w (.slice none 0 0) [] := ⟨[], rfl, FlatAt.nil_ F w 10, by simp⟩
theorem OpsIn.one {ps : List (OpD × Value)} (h : OpsIn F w v ps) : ∀ u ∈ ps.flatMap (fun p => p.1.cells p.2), u.oneCell' = true := h.1.2.1

/-- The step at i, and its cells. -/
theorem StepsAt.at_ {l : List StepD} (h : StepsAt F w v l) {i : Nat} (hi : i < l.length) : ∃ s b off c, l[i]? = some s ∧ v = .slice (some ⟨b, off, none⟩) l.length c ∧ l.length ≤ c ∧ F b ∧ b < w.heap.size ∧ w.rangeAt b (off + i * 6) s.cells := by
  obtain ⟨b, off, c, hv, hc, hf, hb, hr⟩ := FlatAt.elem h hi
  have hs : l[i]? = some l[i] := List.getElem?_eq_getElem hi
  refine ⟨l[i], b, off, c, hs, hv, hc, hf, hb, ?_⟩
  rwa [flat_get StepD.cells 6 l i _ (fun y _ => y.len) hs] at hr
theorem OpsIn.at_ {ps : List (OpD × Value)} (h : OpsIn F w v ps) {i : Nat} (hi : i < ps.length) : ∃ o s b off c, ps[i]? = some (o, s) ∧ v = .slice (some ⟨b, off, none⟩) ps.length c ∧ ps.length ≤ c ∧ F b ∧ b < w.heap.size ∧ w.rangeAt b (off + i * 10) (o.cells s) ∧ StepsAt F w s o.steps := by
  obtain ⟨b, off, c, hv, hc, hf, hb, hr⟩ := FlatAt.elem h.1 hi
  have hs : ps[i]? = some ps[i] := List.getElem?_eq_getElem hi
  refine ⟨ps[i].1, ps[i].2, b, off, c, hs, hv, hc, hf, hb, ?_, h.2 _ (List.getElem_mem hi)⟩
  rwa [flat_get (fun p : OpD × Value => p.1.cells p.2) 10 ps i _ (fun y _ => y.1.len y.2) hs] at hr
theorem IncsAt.at_ {l : List Int} (h : IncsAt F w v l) {i : Nat} (hi : i < l.length) : ∃ x b off c, l[i]? = some x ∧ v = .slice (some ⟨b, off, none⟩) l.length c ∧ l.length ≤ c ∧ F b ∧ b < w.heap.size ∧ w.cell? ⟨b, off + i, none⟩ = some (.int .i64 x) := by
  obtain ⟨b, off, c, hv, hc, hf, hb, hr⟩ := FlatAt.elem h hi
  have hs : l[i]? = some l[i] := List.getElem?_eq_getElem hi
  refine ⟨l[i], b, off, c, hs, hv, hc, hf, hb, ?_⟩
  have := hr 0 (.int .i64 l[i]) (by simp [List.getElem?_drop, hs])
  simpa using this
end

/-- A message. -/
structure MsgD where
  kind : Int
  src : Int
  dst : Int
  view : Int
  last : Int
  num : Int
  commit : Int
  nonce : Int
  request : Int
  lead : Bool
  good : Bool
  fenced : Bool
  op : OpD
  rerr : Int
  rsaga : Int
  rstate : Int
  rstep : Int
  cview : Int
  cstub : Int
  csaga : Int
  cstep : Int
  ctry : Int
  cback : Bool
  ops : List OpD
  incs : List Int
  deriving DecidableEq
namespace MsgD
/-- Its cells ahead of its operation, and behind it. -/
def front (m : MsgD) : List Value := [.int .i64 m.kind, .int .i64 m.src, .int .i64 m.dst, .int .i64 m.view, .int .i64 m.last, .int .i64 m.num, .int .i64 m.commit, .int .i64 m.nonce, .int .i64 m.request, .bool m.lead, .bool m.good, .bool m.fenced]
def middle (m : MsgD) : List Value := [.int .i64 m.rerr, .int .i64 m.rsaga, .int .i64 m.rstate, .int .i64 m.rstep, .int .i64 m.cview, .int .i64 m.cstub, .int .i64 m.csaga, .int .i64 m.cstep, .int .i64 m.ctry, .bool m.cback]
/-- Its cells: s its operation's steps, o its operations, i its incarnations. -/
def cells (m : MsgD) (s o i : Value) : List Value :=
  [.int .i64 m.kind, .int .i64 m.src, .int .i64 m.dst, .int .i64 m.view, .int .i64 m.last, .int .i64 m.num, .int .i64 m.commit, .int .i64 m.nonce, .int .i64 m.request, .bool m.lead, .bool m.good, .bool m.fenced,
   .int .i64 m.op.kind, .int .i64 m.op.client, .int .i64 m.op.request, .string m.op.name, s, .int .i64 m.op.saga, .int .i64 m.op.step, .int .i64 m.op.try_, .bool m.op.back, .bool m.op.good,
   .int .i64 m.rerr, .int .i64 m.rsaga, .int .i64 m.rstate, .int .i64 m.rstep, .int .i64 m.cview, .int .i64 m.cstub, .int .i64 m.csaga, .int .i64 m.cstep, .int .i64 m.ctry, .bool m.cback, o, i]
theorem len (m : MsgD) (s o i : Value) : (m.cells s o i).length = 34 := rfl
def wf (m : MsgD) : Prop :=
  I64 m.kind ∧ I64 m.src ∧ I64 m.dst ∧ I64 m.view ∧ I64 m.last ∧ I64 m.num ∧ I64 m.commit ∧ I64 m.nonce ∧ I64 m.request ∧ m.op.wf ∧ I64 m.rerr ∧ I64 m.rsaga ∧ I64 m.rstate ∧ I64 m.rstep ∧
  I64 m.cview ∧ I64 m.cstub ∧ I64 m.csaga ∧ I64 m.cstep ∧ I64 m.ctry ∧ (∀ o ∈ m.ops, o.wf) ∧ (∀ x ∈ m.incs, I64 x)
def zero : MsgD := ⟨0, 0, 0, 0, 0, 0, 0, 0, 0, false, false, false, .zero, 0, 0, 0, 0, 0, 0, 0, 0, 0, false, [], []⟩
end MsgD

/-- The lists of a message's value: its operation's steps, its operations, its incarnations. -/
def Lists (F : Nat → Prop) (w : World) (m : MsgD) (s o i : Value) : Prop := StepsAt F w s m.op.steps ∧ OpsAt F w o m.ops ∧ IncsAt F w i m.incs
/-- The value v is this message. -/
def MsgAt (F : Nat → Prop) (w : World) (v : Value) (m : MsgD) : Prop := ∃ s o i, v = .agg (m.cells s o i).toArray ∧ Lists F w m s o i
section
variable {F G : Nat → Prop} {w w' : World} {v s o i : Value} {m : MsgD}
theorem Lists.kept (h : Lists F w m s o i) (hk : Kept F w w') : Lists F w' m s o i := ⟨h.1.kept hk, h.2.1.kept hk, h.2.2.kept hk⟩
theorem Lists.mono (h : Lists F w m s o i) (hg : ∀ i, i < w.heap.size → F i → G i) : Lists G w m s o i := ⟨h.1.mono hg, h.2.1.mono hg, h.2.2.mono hg⟩
theorem MsgAt.kept (h : MsgAt F w v m) (hk : Kept F w w') : MsgAt F w' v m := let ⟨s, o, i, e, h'⟩ := h; ⟨s, o, i, e, h'.kept hk⟩
theorem MsgAt.mono (h : MsgAt F w v m) (hg : ∀ i, i < w.heap.size → F i → G i) : MsgAt G w v m := let ⟨s, o, i, e, h'⟩ := h; ⟨s, o, i, e, h'.mono hg⟩
theorem Lists.cell (h : Lists F w m s o i) : s.oneCell' = true ∧ o.oneCell' = true ∧ i.oneCell' = true := by
  obtain ⟨h1, ⟨ps, _, h2⟩, h3⟩ := h
  exact ⟨FlatAt.oneCell h1, FlatAt.oneCell h2.1, FlatAt.oneCell h3⟩
theorem MsgD.one (m : MsgD) (h1 : s.oneCell' = true) (h2 : o.oneCell' = true) (h3 : i.oneCell' = true) : ∀ u ∈ m.cells s o i, u.oneCell' = true := by
  simp [MsgD.cells, h1, h2, h3]
  simp [Value.oneCell']
theorem OpD.one (x : OpD) (h1 : s.oneCell' = true) : ∀ u ∈ x.cells s, u.oneCell' = true := by
  simp [OpD.cells, h1]
  simp [Value.oneCell']
theorem MsgAt.zero (F : Nat → Prop) (w : World) : MsgAt F w (.agg (MsgD.zero.cells (.slice none 0 0) (.slice none 0 0) (.slice none 0 0)).toArray) .zero :=
  ⟨_, _, _, rfl, StepsAt.nil_ F w, OpsAt.nil_ F w, IncsAt.nil_ F w⟩
end

/-- The cells of a block that is known whole. -/
theorem box10 {w : World} {g t : Nat} {c0 c1 c2 c3 c4 c5 c6 c7 c8 c9 : Value} (h : w.heap[g]? = some (.cells #[c0, c1, c2, c3, c4, c5, c6, c7, c8, c9] t (0, 0))) :
    w.cell? ⟨g, 0, none⟩ = some c0 ∧ w.cell? ⟨g, 1, none⟩ = some c1 ∧ w.cell? ⟨g, 2, none⟩ = some c2 ∧ w.cell? ⟨g, 3, none⟩ = some c3 ∧ w.cell? ⟨g, 4, none⟩ = some c4 ∧ w.cell? ⟨g, 5, none⟩ = some c5 ∧ w.cell? ⟨g, 6, none⟩ = some c6 ∧ w.cell? ⟨g, 7, none⟩ = some c7 ∧ w.cell? ⟨g, 8, none⟩ = some c8 ∧ w.cell? ⟨g, 9, none⟩ = some c9 :=
  ⟨cell_of_row w g 0 _ t (0, 0) h, cell_of_row w g 1 _ t (0, 0) h, cell_of_row w g 2 _ t (0, 0) h, cell_of_row w g 3 _ t (0, 0) h, cell_of_row w g 4 _ t (0, 0) h, cell_of_row w g 5 _ t (0, 0) h, cell_of_row w g 6 _ t (0, 0) h, cell_of_row w g 7 _ t (0, 0) h, cell_of_row w g 8 _ t (0, 0) h, cell_of_row w g 9 _ t (0, 0) h⟩
theorem box34 {w : World} {g t : Nat} {c0 c1 c2 c3 c4 c5 c6 c7 c8 c9 c10 c11 c12 c13 c14 c15 c16 c17 c18 c19 c20 c21 c22 c23 c24 c25 c26 c27 c28 c29 c30 c31 c32 c33 : Value} (h : w.heap[g]? = some (.cells #[c0, c1, c2, c3, c4, c5, c6, c7, c8, c9, c10, c11, c12, c13, c14, c15, c16, c17, c18, c19, c20, c21, c22, c23, c24, c25, c26, c27, c28, c29, c30, c31, c32, c33] t (0, 0))) :
    w.cell? ⟨g, 0, none⟩ = some c0 ∧ w.cell? ⟨g, 1, none⟩ = some c1 ∧ w.cell? ⟨g, 2, none⟩ = some c2 ∧ w.cell? ⟨g, 3, none⟩ = some c3 ∧ w.cell? ⟨g, 4, none⟩ = some c4 ∧ w.cell? ⟨g, 5, none⟩ = some c5 ∧ w.cell? ⟨g, 6, none⟩ = some c6 ∧ w.cell? ⟨g, 7, none⟩ = some c7 ∧ w.cell? ⟨g, 8, none⟩ = some c8 ∧ w.cell? ⟨g, 9, none⟩ = some c9 ∧ w.cell? ⟨g, 10, none⟩ = some c10 ∧ w.cell? ⟨g, 11, none⟩ = some c11 ∧ w.cell? ⟨g, 12, none⟩ = some c12 ∧ w.cell? ⟨g, 13, none⟩ = some c13 ∧ w.cell? ⟨g, 14, none⟩ = some c14 ∧ w.cell? ⟨g, 15, none⟩ = some c15 ∧ w.cell? ⟨g, 16, none⟩ = some c16 ∧ w.cell? ⟨g, 17, none⟩ = some c17 ∧ w.cell? ⟨g, 18, none⟩ = some c18 ∧ w.cell? ⟨g, 19, none⟩ = some c19 ∧ w.cell? ⟨g, 20, none⟩ = some c20 ∧ w.cell? ⟨g, 21, none⟩ = some c21 ∧ w.cell? ⟨g, 22, none⟩ = some c22 ∧ w.cell? ⟨g, 23, none⟩ = some c23 ∧ w.cell? ⟨g, 24, none⟩ = some c24 ∧ w.cell? ⟨g, 25, none⟩ = some c25 ∧ w.cell? ⟨g, 26, none⟩ = some c26 ∧ w.cell? ⟨g, 27, none⟩ = some c27 ∧ w.cell? ⟨g, 28, none⟩ = some c28 ∧ w.cell? ⟨g, 29, none⟩ = some c29 ∧ w.cell? ⟨g, 30, none⟩ = some c30 ∧ w.cell? ⟨g, 31, none⟩ = some c31 ∧ w.cell? ⟨g, 32, none⟩ = some c32 ∧ w.cell? ⟨g, 33, none⟩ = some c33 :=
  ⟨cell_of_row w g 0 _ t (0, 0) h, cell_of_row w g 1 _ t (0, 0) h, cell_of_row w g 2 _ t (0, 0) h, cell_of_row w g 3 _ t (0, 0) h, cell_of_row w g 4 _ t (0, 0) h, cell_of_row w g 5 _ t (0, 0) h, cell_of_row w g 6 _ t (0, 0) h, cell_of_row w g 7 _ t (0, 0) h, cell_of_row w g 8 _ t (0, 0) h, cell_of_row w g 9 _ t (0, 0) h, cell_of_row w g 10 _ t (0, 0) h, cell_of_row w g 11 _ t (0, 0) h, cell_of_row w g 12 _ t (0, 0) h, cell_of_row w g 13 _ t (0, 0) h, cell_of_row w g 14 _ t (0, 0) h, cell_of_row w g 15 _ t (0, 0) h, cell_of_row w g 16 _ t (0, 0) h, cell_of_row w g 17 _ t (0, 0) h, cell_of_row w g 18 _ t (0, 0) h, cell_of_row w g 19 _ t (0, 0) h, cell_of_row w g 20 _ t (0, 0) h, cell_of_row w g 21 _ t (0, 0) h, cell_of_row w g 22 _ t (0, 0) h, cell_of_row w g 23 _ t (0, 0) h, cell_of_row w g 24 _ t (0, 0) h, cell_of_row w g 25 _ t (0, 0) h, cell_of_row w g 26 _ t (0, 0) h, cell_of_row w g 27 _ t (0, 0) h, cell_of_row w g 28 _ t (0, 0) h, cell_of_row w g 29 _ t (0, 0) h, cell_of_row w g 30 _ t (0, 0) h, cell_of_row w g 31 _ t (0, 0) h, cell_of_row w g 32 _ t (0, 0) h, cell_of_row w g 33 _ t (0, 0) h⟩
theorem box_free {w : World} {g t : Nat} {cs : Array Value} (h : w.heap[g]? = some (.cells cs t (0, 0))) (j : Nat) : w.frozen? ⟨g, j, none⟩ = false := frozen_of_row w g j cs t h
/-- The cells of a range, one by one. -/
theorem range_step {w : World} {b o : Nat} {s : StepD} (h : w.rangeAt b o s.cells) :
    w.cell? ⟨b, o, none⟩ = some (.string s.name) ∧ w.cell? ⟨b, o + 1, none⟩ = some (.int .i64 s.stub) ∧ w.cell? ⟨b, o + 2, none⟩ = some (.int .i64 s.retry) ∧ w.cell? ⟨b, o + 3, none⟩ = some (.int .i64 s.wait) ∧
    w.cell? ⟨b, o + 4, none⟩ = some (.bool s.undo) ∧ w.cell? ⟨b, o + 5, none⟩ = some (.bool s.pivot) :=
  ⟨h 0 _ rfl, h 1 _ rfl, h 2 _ rfl, h 3 _ rfl, h 4 _ rfl, h 5 _ rfl⟩
theorem range_op {w : World} {b p : Nat} {o : OpD} {s : Value} (h : w.rangeAt b p (o.cells s)) :
    w.cell? ⟨b, p, none⟩ = some (.int .i64 o.kind) ∧ w.cell? ⟨b, p + 1, none⟩ = some (.int .i64 o.client) ∧ w.cell? ⟨b, p + 2, none⟩ = some (.int .i64 o.request) ∧ w.cell? ⟨b, p + 3, none⟩ = some (.string o.name) ∧
    w.cell? ⟨b, p + 4, none⟩ = some s ∧ w.cell? ⟨b, p + 5, none⟩ = some (.int .i64 o.saga) ∧ w.cell? ⟨b, p + 6, none⟩ = some (.int .i64 o.step) ∧ w.cell? ⟨b, p + 7, none⟩ = some (.int .i64 o.try_) ∧
    w.cell? ⟨b, p + 8, none⟩ = some (.bool o.back) ∧ w.cell? ⟨b, p + 9, none⟩ = some (.bool o.good) :=
  ⟨h 0 _ rfl, h 1 _ rfl, h 2 _ rfl, h 3 _ rfl, h 4 _ rfl, h 5 _ rfl, h 6 _ rfl, h 7 _ rfl, h 8 _ rfl, h 9 _ rfl⟩
end Go.Proofs.YtaiegmhlgjogmaaGreat
/- slices.Clone at steps and operations. -/
namespace Go.Proofs.YtaiegmhlgjogmaaGreat
open Go.RowKit

theorem Tryz.infoStep : (Tryz.prog.info? 166).map (fun i => (i.zero, i.size, i.bytes)) = some (some (.agg #[.string ⟨#[]⟩, .int .i64 0, .int .i64 0, .int .i64 0, .bool false, .bool false]), 6, 48) := by kernel_rfl
theorem Tryz.infoOp : (Tryz.prog.info? 33).map (fun i => (i.zero, i.size, i.bytes)) = some (some (.agg #[.int .i64 0, .int .i64 0, .int .i64 0, .string ⟨#[]⟩, .slice none 0 0, .int .i64 0, .int .i64 0, .int .i64 0, .bool false, .bool false]), 10, 96) := by kernel_rfl

/-- What Clone hands back: a slice of the call's own, that holds the same cells. -/
def Cloned (E k : Nat) (n : Nat) (xs : List Value) (w : World) (e : Ending) (w' : World) : Prop :=
  ∃ v, e = .returned v ∧ w'.ownsRow w.heap.size E k v n xs ∧ Below w.heap.size w w'

set_option maxHeartbeats 1000000 in
set_option maxRecDepth 100000 in
theorem clone_steps (F : Nat → Prop) (v : Value) (n : Nat) (xs : List Value) (w : World) (h : FlatAt F w 6 v n xs) (hn : n ≤ 1000000) :
    Calls Tryz.prog 138 #[v] w (Cloned 166 6 n xs w) := by
  obtain ⟨i0, hi, hz0, hz1, hz2⟩ := info_parts Tryz.infoStep
  obtain ⟨A, c, rfl, h1, h2, h3⟩ := h.shape
  have H := hide h
  rcases A with _ | a
  · have hc := h3 rfl
    subst hc
    obtain rfl : n = 0 := by omega
    have hxs : xs = [] := List.eq_nil_of_length_eq_zero (by have := h.len; simpa using this)
    subst hxs
    have hq := fun w => Lib.run_eql_slice_nil (P := Tryz.prog) w 29 _ none 0 0 0 0 Tryz.underlying29
    clear h h3
    go_enter Tryz.func138, Tryz.ntmps138
    go_wp2
    go_ret
    exact ⟨_, rfl, World.ownsRow_nil _ _ _ _, Below.refl _ _⟩
  · have hq := fun w => Lib.run_eql_slice_nil (P := Tryz.prog) w 29 _ (some a) n c 0 0 Tryz.underlying29
    clear h h3
    go_enter Tryz.func138, Tryz.ntmps138
    go_wp2_with (at_builtin; refine wpList_append_flat _ rfl _ _ 29 rfl w.heap.size 166 i0 _ 6 48 Tryz.underlying29 hi hz0 hz1 hz2 rfl (by decide) _ 0 [] rfl (ownsRow_lit w _ 6) F _ n c xs rfl (H.out.kept (Kept.of_below ((Below.refl _ _).alloc (Nat.le_refl _) _) F)) (by unfold maxLen; omega) (by omega) (by simp) ?_; intro v' w1 ho hg)
    go_ret
    exact ⟨_, rfl, by simpa using ho, ((Below.refl _ _).alloc (Nat.le_refl _) _).trans (later_own (ownsRow_lit w _ 6) (by simp) hg)⟩

set_option maxHeartbeats 1000000 in
set_option maxRecDepth 100000 in
theorem clone_ops (F : Nat → Prop) (v : Value) (n : Nat) (xs : List Value) (w : World) (h : FlatAt F w 10 v n xs) (hn : n ≤ 1000000) :
    Calls Tryz.prog 171 #[v] w (Cloned 33 10 n xs w) := by
  obtain ⟨i0, hi, hz0, hz1, hz2⟩ := info_parts Tryz.infoOp
  obtain ⟨A, c, rfl, h1, h2, h3⟩ := h.shape
  have H := hide h
  rcases A with _ | a
  · have hc := h3 rfl
    subst hc
    obtain rfl : n = 0 := by omega
    have hxs : xs = [] := List.eq_nil_of_length_eq_zero (by have := h.len; simpa using this)
    subst hxs
    have hq := fun w => Lib.run_eql_slice_nil (P := Tryz.prog) w 39 _ none 0 0 0 0 Tryz.underlying39
    clear h h3
    go_enter Tryz.func171, Tryz.ntmps171
    go_wp2
    go_ret
    exact ⟨_, rfl, World.ownsRow_nil _ _ _ _, Below.refl _ _⟩
  · have hq := fun w => Lib.run_eql_slice_nil (P := Tryz.prog) w 39 _ (some a) n c 0 0 Tryz.underlying39
    clear h h3
    go_enter Tryz.func171, Tryz.ntmps171
    go_wp2_with (at_builtin; refine wpList_append_flat _ rfl _ _ 39 rfl w.heap.size 33 i0 _ 10 96 Tryz.underlying39 hi hz0 hz1 hz2 rfl (by decide) _ 0 [] rfl (ownsRow_lit w _ 10) F _ n c xs rfl (H.out.kept (Kept.of_below ((Below.refl _ _).alloc (Nat.le_refl _) _) F)) (by unfold maxLen; omega) (by omega) (by simp) ?_; intro v' w1 ho hg)
    go_ret
    exact ⟨_, rfl, by simpa using ho, ((Below.refl _ _).alloc (Nat.le_refl _) _).trans (later_own (ownsRow_lit w _ 10) (by simp) hg)⟩

end Go.Proofs.YtaiegmhlgjogmaaGreat
/- Slices of slices: what a[lo:hi:hi] holds, cell by cell, and operation by operation. -/
namespace Go.Proofs.YtaiegmhlgjogmaaGreat
open Go.RowKit

theorem flat_take {α : Type} (f : α → List Value) (k : Nat) : ∀ (l : List α) (i : Nat), (∀ y ∈ l, (f y).length = k) → (l.take i).flatMap f = (l.flatMap f).take (i * k)
  | [], i, _ => by simp
  | y :: r, 0, _ => by simp
  | y :: r, i + 1, hk => by
    have h1 := hk y (by simp)
    have ih := flat_take f k r i (fun z hz => hk z (by simp [hz]))
    rw [List.take_succ_cons, List.flatMap_cons, ih, List.flatMap_cons, show (i + 1) * k = (f y).length + i * k from by rw [h1, Nat.add_mul]; omega, List.take_append]
    simp [List.take_of_length_le]
theorem flat_drop {α : Type} (f : α → List Value) (k : Nat) : ∀ (l : List α) (i : Nat), (∀ y ∈ l, (f y).length = k) → (l.drop i).flatMap f = (l.flatMap f).drop (i * k)
  | [], i, _ => by simp
  | y :: r, 0, _ => by simp
  | y :: r, i + 1, hk => by
    have h1 := hk y (by simp)
    have ih := flat_drop f k r i (fun z hz => hk z (by simp [hz]))
    rw [List.drop_succ_cons, ih, List.flatMap_cons, show (i + 1) * k = (f y).length + i * k from by rw [h1, Nat.add_mul]; omega, List.drop_append]
    simp

section
variable {F : Nat → Prop} {w : World} {k n c : Nat} {A : Option Addr} {xs : List Value}
theorem FlatAt.cut (h : FlatAt F w k (.slice A n c) n xs) {lo hi : Nat} (h1 : lo ≤ hi) (h2 : hi ≤ n) : FlatAt F w k (sliced A lo hi hi k) (hi - lo) ((xs.take (hi * k)).drop (lo * k)) := by
  obtain ⟨hl, ho, A', c', hv, hc, hm, hn, hr⟩ := h
  obtain ⟨rfl, rfl⟩ : A = A' ∧ c = c' := by injection hv with e1 _ e3; exact ⟨e1, e3⟩
  unfold sliced
  have hk : hi * k ≤ n * k := Nat.mul_le_mul_right _ h2
  refine ⟨?_, fun u hu => ho u (List.mem_of_mem_take (List.mem_of_mem_drop hu)), _, _, rfl, Nat.le_refl _, by omega, ?_, fun h0 => ?_⟩
  · rw [List.length_drop, List.length_take, hl, Nat.min_eq_left hk, Nat.sub_mul]
  · intro h0
    by_cases he : hi = lo
    · omega
    · rw [if_neg he] at h0
      have : A = none := by cases A with
        | none => rfl
        | some a => cases h0
      have := hn this
      omega
  · rw [if_neg (by omega)]
    obtain ⟨b, off, rfl, hF, hb, hr⟩ := hr (by omega)
    refine ⟨b, off + lo * k, ?_, hF, hb, fun j u hj => ?_⟩
    · simp [Addr.add_lit]
    · rw [List.getElem?_drop] at hj
      have hlt : lo * k + j < hi * k := by
        have := (List.getElem?_eq_some_iff.1 hj).1
        rw [List.length_take] at this
        omega
      rw [List.getElem?_take_of_lt hlt] at hj
      rw [Nat.add_assoc]
      exact hr _ _ hj
theorem OpsIn.cut {ps : List (OpD × Value)} (h : OpsIn F w (.slice A n c) ps) {lo hi : Nat} (h1 : lo ≤ hi) (h2 : hi ≤ ps.length) : OpsIn F w (sliced A lo hi hi 10) ((ps.take hi).drop lo) := by
  have e : ps.length = n := by
    obtain ⟨_, _, hv, _⟩ := FlatAt.shape h.1
    injection hv with _ e2 _
    exact e2.symm
  refine ⟨?_, fun p hp => h.2 p (List.mem_of_mem_take (List.mem_of_mem_drop hp))⟩
  have := FlatAt.cut (e ▸ h.1 : FlatAt F w 10 (.slice A n c) n _) h1 (by omega)
  rw [flat_drop (fun p : OpD × Value => p.1.cells p.2) 10 _ _ (fun p _ => p.1.len p.2), flat_take (fun p : OpD × Value => p.1.cells p.2) 10 _ _ (fun p _ => p.1.len p.2), show ((ps.take hi).drop lo).length = hi - lo from by simp; omega]
  exact this
theorem FlatAt.tail (h : FlatAt F w k (.slice A n c) n xs) {lo : Nat} (h1 : lo ≤ n) : FlatAt F w k (sliced A lo n c k) (n - lo) (xs.drop (lo * k)) := by
  obtain ⟨hl, ho, A', c', hv, hc, hm, hn, hr⟩ := h
  obtain ⟨rfl, rfl⟩ : A = A' ∧ c = c' := by injection hv with e1 _ e3; exact ⟨e1, e3⟩
  unfold sliced
  refine ⟨?_, fun u hu => ho u (List.mem_of_mem_drop hu), _, _, rfl, by omega, by omega, ?_, fun h0 => ?_⟩
  · rw [List.length_drop, hl, Nat.sub_mul]
  · intro h0
    by_cases he : c = lo
    · omega
    · rw [if_neg he] at h0
      have : A = none := by cases A with
        | none => rfl
        | some a => cases h0
      have := hn this
      omega
  · rw [if_neg (by omega)]
    obtain ⟨b, off, rfl, hF, hb, hr⟩ := hr (by omega)
    refine ⟨b, off + lo * k, ?_, hF, hb, fun j u hj => ?_⟩
    · simp [Addr.add_lit]
    · rw [List.getElem?_drop] at hj
      rw [Nat.add_assoc]
      exact hr _ _ hj
theorem OpsIn.tail {ps : List (OpD × Value)} (h : OpsIn F w (.slice A n c) ps) {lo : Nat} (h1 : lo ≤ ps.length) : OpsIn F w (sliced A lo n c 10) (ps.drop lo) := by
  have e : ps.length = n := by
    obtain ⟨_, _, hv, _⟩ := FlatAt.shape h.1
    injection hv with _ e2 _
    exact e2.symm
  refine ⟨?_, fun p hp => h.2 p (List.mem_of_mem_drop hp)⟩
  have := FlatAt.tail (e ▸ h.1 : FlatAt F w 10 (.slice A n c) n _) (lo := lo) (by omega)
  rw [flat_drop (fun p : OpD × Value => p.1.cells p.2) 10 _ _ (fun p _ => p.1.len p.2), show (ps.drop lo).length = n - lo from by simp; omega]
  exact this
end
end Go.Proofs.YtaiegmhlgjogmaaGreat
/- slices.Grow of nothing, slices.Concat of two lists of operations. -/
namespace Go.Proofs.YtaiegmhlgjogmaaGreat.Ol
open Go.RowKit

set_option maxHeartbeats 1000000 in
set_option maxRecDepth 100000 in
theorem grow_nil (n : Nat) (w : World) (hn : n ≤ 1000000) :
    Calls Tryz.prog 216 #[.slice none 0 0, .int .i64 (n : Int)] w (Cloned 33 10 0 [] w) := by
  obtain ⟨i0, hi, hz0, hz1, hz2⟩ := info_parts Tryz.infoOp
  by_cases h0 : n = 0
  · subst h0
    go_enter Tryz.func216, Tryz.ntmps216
    go_wp2
    go_ret
    exact ⟨_, rfl, World.ownsRow_nil _ _ _ _, Below.refl _ _⟩
  · have happ := Lib.run_append_nil_zeros (P := Tryz.prog) w 39 3 39 33 i0 _ .i64 .i64 Tryz.underlying39 Tryz.underlying3 hi hz0 n (by omega) (by rw [hz1]; decide) (by omega) (by rw [hz2]; omega)
    generalize hcap : grownCap w n 0 33 = cap2 at happ
    have hcapge : n ≤ cap2 := by rw [← hcap]; exact grownCap_ge w _ 0 33
    have hcaple : cap2 ≤ maxLen := by rw [← hcap]; exact grownCap_le_maxLen w _ 0 33 (by unfold maxLen; omega)
    generalize hZ : (Builtin.zeroCells _ n ++ Builtin.zeroCells _ (cap2 - n)) = Z at happ
    have hZs : Z.size = cap2 * 10 := by rw [← hZ]; simp [size_zeroCells, Value.cells]; omega
    have hc63 : (cap2 : Int) ≤ 9223372036854775807 := by unfold maxLen at hcaple; omega
    clear hcap hZ
    go_enter Tryz.func216, Tryz.ntmps216
    go_wp2_with (at_builtin; refine Lib.wpList_append_run _ rfl _ _ _ _ rfl _ _ rfl rfl _ _ happ ?_)
    go_ret
    refine ⟨_, rfl, ⟨by simp, .inr ⟨w.heap.size, cap2, Z, ?_, Nat.le_refl _, ?_, by omega, hcaple, by rw [hZs], by simp⟩⟩, ?_⟩
    · simp
    · exact heap_alloc_new w _
    · exact ((Below.refl _ _).alloc (Nat.le_refl _) _).drew

/-- How much Concat holds behind k lists. -/
def upto (k n m : Nat) : Nat := if k = 0 then 0 else if k = 1 then n else n + m
def rowOf (k : Nat) (xs ys : List Value) : List Value := if k = 0 then [] else if k = 1 then xs else xs ++ ys

set_option maxHeartbeats 2000000 in
set_option maxRecDepth 100000 in
theorem concat_two (F : Nat → Prop) (g n m : Nat) (v1 v2 : Value) (xs ys : List Value) (w : World) (hg : w.heap[g]? = some (.cells #[v1, v2] 39 (0, 0))) (h1 : FlatAt F w 10 v1 n xs) (h2 : FlatAt F w 10 v2 m ys) (hn : n ≤ 400000) (hm : m ≤ 400000) :
    Calls Tryz.prog 199 #[.slice (some ⟨g, 0, none⟩) 2 2] w (Cloned 33 10 (n + m) (xs ++ ys) w) := by
  obtain ⟨i0, hi, hz0, hz1, hz2⟩ := info_parts Tryz.infoOp
  obtain ⟨A1, c1, rfl, a1, a2, a3⟩ := h1.shape
  obtain ⟨A2, c2, rfl, b1, b2, b3⟩ := h2.shape
  have H1 := hide h1
  have H2 := hide h2
  have HG := hide hg
  have x0 : w.cell? ⟨g, 0, none⟩ = some (.slice A1 n c1) := cell_of_row w g 0 _ _ _ hg
  have x1 : w.cell? ⟨g, 1, none⟩ = some (.slice A2 m c2) := cell_of_row w g 1 _ _ _ hg
  clear h1 h2 hg a1 a2 a3 b1 b2 b3
  go_enter Tryz.func199, Tryz.ntmps199
  go_wp2
  go_loopw [3, 11] (fun s i wr => ∃ k : Nat, k ≤ 2 ∧ i = .int .i64 (k : Int) ∧ s = .int .i64 ((upto k n m : Nat) : Int) ∧ w = wr) (fun _ i _ => 2 - (intOf i).toNat)
  case atStart => exact ⟨0, by omega, rfl, rfl, rfl⟩
  case round =>
    obtain ⟨k, hk, rfl, rfl, rfl⟩ := hrel
    obtain rfl | rfl | rfl : k = 0 ∨ k = 1 ∨ k = 2 := by omega
    · simp only [upto, if_true]
      go_wp2
      go_roundw
      case rel => exact ⟨1, by omega, by go_num, by simp, trivial⟩
      case measure => simp [intOf]
    · simp only [upto, if_true, show ¬ (1 : Nat) = 0 from by omega, if_false]
      go_wp2
      go_roundw
      case rel => exact ⟨2, by omega, by go_num, by simp, trivial⟩
      case measure => simp [intOf]
    · simp only [upto, show ¬ (2 : Nat) = 0 from by omega, show ¬ (2 : Nat) = 1 from by omega, if_false]
      have C := hide (grow_nil (n + m) w (by omega))
      rw [Int.natCast_add] at C
      go_wp2_with (fail)
      refine C.out.mono ?_
      rintro e w1 ⟨v, rfl, ho, hb⟩
      have HO := hide ho
      have HB := hide hb
      clear ho hb C x0 x1
      go_wp2
      go_loopw [6, 27] (fun v i wr => ∃ k : Nat, k ≤ 2 ∧ i = .int .i64 (k : Int) ∧ wr.ownsRow w.heap.size 33 10 v (upto k n m) (rowOf k xs ys) ∧ Below w.heap.size w wr) (fun _ i _ => 2 - (intOf i).toNat)
      case atStart => exact ⟨0, by omega, rfl, HO.out, HB.out⟩
      case round =>
        obtain ⟨k, hk, rfl, ho, hb⟩ := hrel
        have HO2 := hide ho
        have HB2 := hide hb
        have hgw := (hb.block g (lt_of_block HG.out)).trans HG.out
        have x0 : wr.cell? ⟨g, 0, none⟩ = some (.slice A1 n c1) := cell_of_row wr g 0 _ _ _ hgw
        have x1 : wr.cell? ⟨g, 1, none⟩ = some (.slice A2 m c2) := cell_of_row wr g 1 _ _ _ hgw
        have hsz := hb.size
        clear ho hb hgw HO HB
        obtain rfl | rfl | rfl : k = 0 ∨ k = 1 ∨ k = 2 := by omega
        · simp only [upto, rowOf, if_true] at HO2
          go_wp2_with (at_builtin; refine wpList_append_flat _ rfl _ _ 39 rfl w.heap.size 33 i0 _ 10 96 Tryz.underlying39 hi hz0 hz1 hz2 rfl (by decide) _ 0 [] rfl HO2.out F A1 n c1 xs rfl (H1.out.kept (Kept.of_below HB2.out F)) (by unfold maxLen; omega) (by omega) hsz ?_; intro v' w2 ho hg)
          go_roundw
          case rel => exact ⟨1, by omega, by go_num, by simpa [upto, rowOf] using ho, HB2.out.grown hg hsz (fun k hk => (HO2.out.lt k hk).1)⟩
          case measure => simp [intOf]
        · simp only [upto, rowOf, if_true, show ¬ (1 : Nat) = 0 from by omega, if_false] at HO2
          go_wp2_with (at_builtin; refine wpList_append_flat _ rfl _ _ 39 rfl w.heap.size 33 i0 _ 10 96 Tryz.underlying39 hi hz0 hz1 hz2 rfl (by decide) _ n xs rfl HO2.out F A2 m c2 ys rfl (H2.out.kept (Kept.of_below HB2.out F)) (by unfold maxLen; omega) (by omega) hsz ?_; intro v' w2 ho hg)
          go_roundw
          case rel => exact ⟨2, by omega, by go_num, by simpa [upto, rowOf] using ho, HB2.out.grown hg hsz (fun k hk => (HO2.out.lt k hk).1)⟩
          case measure => simp [intOf]
        · go_wp2
          go_ret
          exact ⟨_, rfl, by simpa [upto, rowOf] using HO2.out, HB2.out⟩
end Go.Proofs.YtaiegmhlgjogmaaGreat.Ol
/- Copy of package op: an operation, its steps in new memory. -/
namespace Go.Proofs.YtaiegmhlgjogmaaGreat
open Go.RowKit

/-- The block of a slice is a row of cells that may be written, F holds of it. -/
def Free (F : Nat → Prop) (w : World) (v : Value) : Prop := ∀ b o n c, v = .slice (some ⟨b, o, none⟩) n c → F b ∧ ∃ cs t, w.heap[b]? = some (.cells cs t (0, 0))
section
variable {F G : Nat → Prop} {w w' : World} {v : Value}
theorem Free.kept (h : Free F w v) (hk : Kept F w w') : Free F w' v := fun b o n c e => by
  obtain ⟨h1, cs, t, h2⟩ := h b o n c e
  exact ⟨h1, cs, t, (hk.2 b (lt_of_block h2) h1).trans h2⟩
theorem Free.mono (h : Free F w v) (hg : ∀ i, i < w.heap.size → F i → G i) : Free G w v := fun b o n c e => by
  obtain ⟨h1, cs, t, h2⟩ := h b o n c e
  exact ⟨hg b (lt_of_block h2) h1, cs, t, h2⟩
theorem Free.of_own {base e k n : Nat} {xs : List Value} (h : w.ownsRow base e k v n xs) : Free (fun b => base ≤ b ∧ some b = v.ownBlock) w v := fun b o n' c e' => by
  rcases h.2 with ⟨rfl, _⟩ | ⟨g, cap, cur, rfl, hg, hc, _⟩
  · cases e'
  · injection e' with e1 _ _
    injection e1 with e1
    injection e1 with e1 _ _
    subst e1
    exact ⟨⟨hg, rfl⟩, cur, e, hc⟩
theorem Free.frozen (h : Free F w v) : ∀ b o n c, v = .slice (some ⟨b, o, none⟩) n c → ∀ j, w.frozen? ⟨b, j, none⟩ = false := fun b o n c e j => by
  obtain ⟨_, cs, t, h2⟩ := h b o n c e
  exact frozen_of_row w b j cs t h2
end
/-- What Copy hands back; its steps may be written. -/
def OpOwned (o : OpD) (w : World) (e : Ending) (w' : World) : Prop :=
  ∃ s, e = .returned (.agg (o.cells s).toArray) ∧ (StepsAt (w.heap.size ≤ ·) w' s o.steps ∧ Free (w.heap.size ≤ ·) w' s) ∧ Below w.heap.size w w'
/-- What Copy hands back. -/
def OpCopied (o : OpD) (w : World) (e : Ending) (w' : World) : Prop :=
  ∃ s, e = .returned (.agg (o.cells s).toArray) ∧ StepsAt (w.heap.size ≤ ·) w' s o.steps ∧ Below w.heap.size w w'

theorem own_slice {w : World} {base e k n : Nat} {v : Value} {xs : List Value} (h : w.ownsRow base e k v n xs) : ∃ A c, v = .slice A n c ∧ n ≤ c := by
  rcases h.2 with ⟨rfl, rfl⟩ | ⟨g, cap, cur, rfl, _, _, hnc, _⟩
  · exact ⟨none, 0, rfl, Nat.le_refl _⟩
  · exact ⟨_, cap, rfl, hnc⟩

theorem steps_one (l : List StepD) : ∀ u ∈ l.flatMap StepD.cells, u.oneCell' = true := by
  intro u hu
  obtain ⟨s, _, h⟩ := List.mem_flatMap.1 hu
  exact s.one u h

set_option maxHeartbeats 600000 in
set_option maxRecDepth 100000 in
theorem copyop_own (F : Nat → Prop) (o : OpD) (s : Value) (w : World) (h : StepsAt F w s o.steps) (hn : o.steps.length ≤ 1000000) :
    Calls Tryz.prog 101 #[.agg (o.cells s).toArray] w (OpOwned o w) := by
  have C := hide (fun w' (hb : Below w.heap.size w w') => clone_steps F s _ _ w' (FlatAt.kept h (Kept.of_below hb F)) hn)
  obtain ⟨A, c, rfl, _, _, _⟩ := FlatAt.shape h
  clear h
  unfold OpD.cells
  go_enter Tryz.func101, Tryz.ntmps101
  go_wp2_with (fail)
  refine (C.out _ (((Below.refl _ _).alloc (Nat.le_refl _) _).alloc (by simp) _)).mono ?_
  rintro e w1 ⟨s', rfl, ho, hb⟩
  have b1 := (hb.block w.heap.size (by simp; omega)).trans (heap_alloc2_old w _ _)
  have b2 := (hb.block (w.heap.size + 1) (by simp)).trans (heap_alloc2_new w _ _)
  have HB : Hid (Below w.heap.size w w1) := (((Below.refl _ _).alloc (Nat.le_refl _) _).alloc (by simp) _).trans (hb.mono (by simp; omega))
  have hs' := hide ((FlatAt.of_own ho (steps_one _)).mono (G := (w.heap.size + 2 ≤ ·)) (fun i _ h => by simp at h; omega))
  have fr' := hide ((Free.of_own ho).mono (G := (w.heap.size + 2 ≤ ·)) (fun i _ h => by have := h.1; simp at this; omega))
  obtain ⟨A', c', rfl, _, _, _⟩ := hs'.out.shape
  obtain ⟨c0, c1, c2, c3, c4, c5, c6, c7, c8, c9⟩ := box10 b1
  have f1 := box_free b1 4
  have B1 : Hid ((w1.setCell ⟨w.heap.size, 4, none⟩ (.slice A' o.steps.length c')).heap[w.heap.size]? = some (.cells (o.cells (.slice A' o.steps.length c')).toArray 33 (0, 0))) := heap_setCell_same w1 _ 4 _ _ _ b1
  have B2 : Hid ((w1.setCell ⟨w.heap.size, 4, none⟩ (.slice A' o.steps.length c')).heap[w.heap.size + 1]? = _) := (heap_setCell_other _ _ _ _ (by simp)).trans b2
  have HB2 : Hid (Below w.heap.size w (w1.setCell ⟨w.heap.size, 4, none⟩ (.slice A' o.steps.length c'))) := HB.out.setCell (by simp) _
  have hs2 := hide (hs'.out.kept (Kept.of_grown (F := (w.heap.size + 2 ≤ ·)) (grown_set w1 w.heap.size 4 (.slice A' o.steps.length c')) (fun g e h => by have e2 := Option.some.inj e; have h2 : w.heap.size + 2 ≤ g := h; omega)))
  have fr2 := hide (fr'.out.kept (Kept.of_grown (F := (w.heap.size + 2 ≤ ·)) (grown_set w1 w.heap.size 4 (.slice A' o.steps.length c')) (fun g e h => by have e2 := Option.some.inj e; have h2 : w.heap.size + 2 ≤ g := h; omega)))
  clear b1 b2 hb ho fr' c0 c1 c2 c3 c5 c6 c7 c8 c9 hs'
  go_wp2_with (refine wpList_load_box (by rfl) 33 _ (by rfl) w.heap.size 0 (by rfl) 33 _ B1.out 10 _ Tryz.underlying33 (by rfl) (by kernel_rfl) _ (by rfl) (by rfl) ?_; refine wpList_store_box (by rfl) 33 _ _ (by rfl) (w.heap.size + 1) 0 _ (by rfl) (by rfl) 33 _ B2.out (by kernel_rfl) (by exact Nat.le_refl 10) (by exact o.one rfl) ?_; intro w2 hb2 hg2)
  have hb3 : w2.heap[w.heap.size + 1]? = some (.cells (o.cells (.slice A' o.steps.length c')).toArray 33 (0, 0)) := by simpa [putAt, OpD.cells] using hb2
  clear hb2
  refine bodyPost_ret (results_cell_row Tryz.results101 _ _ (w.heap.size + 1) 33 _ (0, 0) _ (by rfl) hb3 Tryz.underlying33 (by rfl) (by kernel_rfl)) (by rfl) ⟨_, rfl, ⟨?_, ?_⟩, ?_⟩
  · exact (FlatAt.kept hs2.out (Kept.of_grown hg2 (fun g e h => by have e2 := Option.some.inj e; have h2 : w.heap.size + 2 ≤ g := h; omega))).mono (fun i _ h => by omega)
  · exact (Free.kept fr2.out (Kept.of_grown hg2 (fun g e h => by have e2 := Option.some.inj e; have h2 : w.heap.size + 2 ≤ g := h; omega))).mono (fun i _ h => by omega)
  · exact HB2.out.grown hg2 HB2.out.size (fun k hk => by have := Option.some.inj hk; omega)
theorem copyop_any (F : Nat → Prop) (o : OpD) (s : Value) (w : World) (h : StepsAt F w s o.steps) (hn : o.steps.length ≤ 1000000) :
    Calls Tryz.prog 101 #[.agg (o.cells s).toArray] w (OpCopied o w) :=
  (copyop_own F o s w h hn).mono fun _ _ ⟨s', e, h, hb⟩ => ⟨s', e, h.1, hb⟩
end Go.Proofs.YtaiegmhlgjogmaaGreat
/- Copies of package op: where its loop stands. -/
namespace Go.Proofs.YtaiegmhlgjogmaaGreat
open Go.RowKit

theorem box_cell {w : World} {g t : Nat} {cs : Array Value} (h : w.heap[g]? = some (.cells cs t (0, 0))) (j : Nat) (v : Value) (hj : cs[j]? = some v) : w.cell? ⟨g, j, none⟩ = some v := by
  rw [cell_of_row w g j cs t (0, 0) h, hj]
/-- The cells of operations, one behind the other. -/
def opcells (ps : List (OpD × Value)) : List Value := ps.flatMap fun p => p.1.cells p.2
theorem ops_one {ps : List (OpD × Value)} (h : ∀ p ∈ ps, p.2.oneCell' = true) : ∀ u ∈ ps.flatMap (fun p => p.1.cells p.2), u.oneCell' = true := by
  intro u hu
  obtain ⟨p, hp, h1⟩ := List.mem_flatMap.1 hu
  exact p.1.one (h p hp) u h1
theorem ints_one (l : List Int) : ∀ u ∈ l.map (fun x => Value.int .i64 x), u.oneCell' = true := by
  intro u hu
  obtain ⟨x, _, rfl⟩ := List.mem_map.1 hu
  rfl

/-- Where the loop over the operations stands: the first k have their steps in new memory. -/
structure CopiesRel (w wr : World) (vo : Value) (ps : List (OpD × Value)) (k : Nat) (qs : List (OpD × Value)) : Prop where
  len : qs.length = ps.length
  same : qs.map (·.1) = ps.map (·.1)
  own : wr.ownsRow w.heap.size 33 10 vo ps.length (qs.flatMap fun p => p.1.cells p.2)
  one : ∀ p ∈ qs, p.2.oneCell' = true
  new : ∀ (j : Nat) (p : OpD × Value), j < k → qs[j]? = some p → StepsAt (fun b => w.heap.size ≤ b ∧ some b ≠ vo.ownBlock) wr p.2 p.1.steps ∧ Free (fun b => w.heap.size ≤ b ∧ some b ≠ vo.ownBlock) wr p.2
  old : ∀ j, k ≤ j → qs[j]? = ps[j]?
  below : Below w.heap.size w wr

/-- One round: the block of the row holds the k-th operation with other steps, all else is as it was. -/
theorem CopiesRel.step {w wr w1 w2 : World} {q n c : Nat} {ps qs : List (OpD × Value)} {s2 xs : Value} {k : Nat} {x : OpD} {cur : Array Value}
    (h : CopiesRel w wr (.slice (some ⟨q, 0, none⟩) n c) ps k qs) (hx : ps[k]? = some (x, xs)) (hq : w.heap.size ≤ q)
    (hb : Below wr.heap.size wr w1) (hst : StepsAt (wr.heap.size ≤ ·) w1 s2 x.steps ∧ Free (wr.heap.size ≤ ·) w1 s2) (hc : wr.heap[q]? = some (.cells cur 33 (0, 0)))
    (hw : w2.heap[q]? = some (.cells (putAt cur (k * 10) (x.cells s2)) 33 (0, 0))) (hg : w1.grownBy w2 (some q)) :
    CopiesRel w w2 (.slice (some ⟨q, 0, none⟩) n c) ps (k + 1) (qs.set k (x, s2)) := by
  have hkl : k < ps.length := (List.getElem?_eq_some_iff.1 hx).1
  have hkq : k < qs.length := by rw [h.len]; exact hkl
  have hqk : qs[k]? = some (x, xs) := by rw [h.old k (Nat.le_refl _)]; exact hx
  have hqlt : q < wr.heap.size := lt_of_block hc
  have hsz := h.below.size
  have K1 : ∀ F : Nat → Prop, Kept F wr w1 := fun F => Kept.of_below hb F
  have K2 : Kept (fun b => b ≠ q) w1 w2 := Kept.of_grown hg (fun g e hf => hf (Option.some.inj e).symm)
  have hs1 : s2.oneCell' = true := FlatAt.oneCell hst.1
  have hn : ps.length = n := by
    rcases h.own.2 with ⟨e, _⟩ | ⟨_, _, _, e, _⟩
    · cases e
    · injection e with _ e2 _; exact e2.symm
  refine ⟨by simpa using h.len, ?_, ?_, ?_, ?_, ?_, ?_⟩
  · rw [← h.same]
    apply List.ext_getElem?
    intro j
    rw [List.getElem?_map, List.getElem?_map]
    by_cases hjk : j = k
    · subst hjk
      rw [List.getElem?_set_self hkq, hqk]
      rfl
    · rw [List.getElem?_set_ne (Ne.symm hjk)]
  · have hown1 : w1.ownsRow w.heap.size 33 10 (.slice (some ⟨q, 0, none⟩) n c) ps.length (qs.flatMap fun p => p.1.cells p.2) :=
      h.own.kept (row := none) ⟨hb.os, hb.tape, hb.output, hb.size, fun i hi _ => hb.block i hi⟩ (.inr (by simp [Value.ownBlock]))
    have hc1 : w1.heap[q]? = some (.cells cur 33 (0, 0)) := (hb.block q hqlt).trans hc
    rw [hn] at hown1 ⊢
    have := ownsRow_stored hown1 hc1 (i := k) (by omega) (cells := x.cells s2) rfl hw
    rw [flat_set (fun p : OpD × Value => p.1.cells p.2) 10 qs k (x, s2) (fun p _ => p.1.len p.2) rfl hkq]
    exact this
  · intro p hp
    rcases List.mem_or_eq_of_mem_set hp with hp | rfl
    · exact h.one p hp
    · exact hs1
  · intro j p hj hp
    by_cases hjk : j = k
    · subst hjk
      rw [List.getElem?_set_self hkq] at hp
      obtain rfl := Option.some.inj hp
      have a1 : StepsAt (fun i => w.heap.size ≤ i ∧ i ≠ q) w1 s2 x.steps := StepsAt.mono hst.1 (fun i _ hi => ⟨Nat.le_trans hsz hi, by omega⟩)
      have a2 : Free (fun i => w.heap.size ≤ i ∧ i ≠ q) w1 s2 := Free.mono hst.2 (fun i _ hi => ⟨Nat.le_trans hsz hi, by omega⟩)
      exact ⟨(a1.kept (K2.mono fun i _ hi => hi.2)).mono (fun i _ hi => ⟨hi.1, fun e => hi.2 (Option.some.inj e)⟩), (a2.kept (K2.mono fun i _ hi => hi.2)).mono (fun i _ hi => ⟨hi.1, fun e => hi.2 (Option.some.inj e)⟩)⟩
    · rw [List.getElem?_set_ne (Ne.symm hjk)] at hp
      exact ⟨((h.new j p (by omega) hp).1.kept (K1 _)).kept (K2.mono fun i _ hi e => hi.2 (by rw [e]; rfl)), ((h.new j p (by omega) hp).2.kept (K1 _)).kept (K2.mono fun i _ hi e => hi.2 (by rw [e]; rfl))⟩
  · intro j hj
    rw [List.getElem?_set_ne (by omega)]
    exact h.old j (by omega)
  · exact (h.below.trans (hb.mono hsz)).grown hg (Nat.le_trans hsz hb.size) (fun k hk => by have := Option.some.inj hk; omega)

/-- The slice v holds the operations ps, all of it lies in blocks of which F holds, and may be written; the steps lie elsewhere than the operations. -/
structure OpsFree (F : Nat → Prop) (w : World) (v : Value) (ps : List (OpD × Value)) : Prop where
  ops : OpsIn F w v ps
  row : Free F w v
  steps : ∀ p ∈ ps, Free F w p.2
  apart : ∀ p ∈ ps, StepsAt (fun b => some b ≠ v.ownBlock) w p.2 p.1.steps
section
variable {F G : Nat → Prop} {w w' : World} {v : Value} {ps : List (OpD × Value)}
theorem OpsFree.kept (h : OpsFree F w v ps) (hk : Kept F w w') : OpsFree F w' v ps :=
  ⟨h.ops.kept hk, h.row.kept hk, fun p hp => (h.steps p hp).kept hk, fun p hp => by
    obtain ⟨x1, x2, A, c, e, x3, x4, x5, x6⟩ := h.apart p hp
    obtain ⟨_, _, A', c', e', _, _, _, y6⟩ := h.ops.2 p hp
    obtain ⟨rfl, rfl⟩ : A = A' ∧ c = c' := by rw [e] at e'; injection e' with e1 _ e3; exact ⟨e1, e3⟩
    refine ⟨x1, x2, A, c, e, x3, x4, x5, fun hn => ?_⟩
    obtain ⟨b, off, hA, hf, hb, hr⟩ := x6 hn
    obtain ⟨b', off', hA', hf', _, _⟩ := y6 hn
    obtain ⟨rfl, rfl⟩ : b = b' ∧ off = off' := by rw [hA] at hA'; injection hA' with h1; injection h1 with h1 h2 _; exact ⟨h1, h2⟩
    exact ⟨b, off, hA, hf, Nat.lt_of_lt_of_le hb hk.1, fun j u hj => (hk.cell hb hf').trans (hr j u hj)⟩⟩
theorem OpsFree.mono (h : OpsFree F w v ps) (hg : ∀ i, i < w.heap.size → F i → G i) : OpsFree G w v ps :=
  ⟨h.ops.mono hg, h.row.mono hg, fun p hp => (h.steps p hp).mono hg, h.apart⟩
end
/-- What Copies hands back: the same operations, all of it in new memory. -/
def OpsCopied (ps : List (OpD × Value)) (w : World) (e : Ending) (w' : World) : Prop :=
  ∃ v qs, e = .returned v ∧ qs.map (·.1) = ps.map (·.1) ∧ OpsFree (w.heap.size ≤ ·) w' v qs ∧ w'.ownsRow w.heap.size 33 10 v qs.length (qs.flatMap fun p => p.1.cells p.2) ∧ Below w.heap.size w w'
end Go.Proofs.YtaiegmhlgjogmaaGreat
/- Copies of package op: operations, the list and each one's steps in new memory: the walk. -/
namespace Go.Proofs.YtaiegmhlgjogmaaGreat
open Go.RowKit

set_option maxHeartbeats 2000000 in
set_option maxRecDepth 100000 in
theorem copies_own (F : Nat → Prop) (ps : List (OpD × Value)) (v : Value) (w : World) (ho : OpsIn F w v ps) (hn1 : ps.length ≤ 1000000) (hs1 : ∀ p ∈ ps, p.1.steps.length ≤ 1000000) :
    Calls Tryz.prog 136 #[v] w (OpsCopied ps w) := by
  have C2 := hide (clone_ops F v _ _ w ho.1 hn1)
  have H2 : v.oneCell' = true := FlatAt.oneCell ho.1
  have HO := hide ho
  have HPL := hide hs1
  obtain ⟨n, hn⟩ : ∃ n, ps.length = n := ⟨_, rfl⟩
  rw [hn] at C2 hn1
  have HN := hide hn
  clear hn ho hs1
  go_enter Tryz.func136, Tryz.ntmps136
  go_wp2_with (fail)
  refine C2.out.mono ?_
  rintro e w4 ⟨vo, rfl, hown, hb⟩
  obtain ⟨A, c, rfl, hA1, hA2, hA3⟩ := FlatAt.shape (FlatAt.of_own hown (ops_one fun p hp => FlatAt.oneCell (HO.out.2 p hp)))
  have REL0 : Hid (CopiesRel w w4 (.slice A n c) ps 0 ps) :=
    ⟨rfl, rfl, by rw [HN.out]; exact hown, fun p hp => FlatAt.oneCell (HO.out.2 p hp), fun j p hj => by omega, fun _ _ => rfl, hb⟩
  clear hown hb C2
  go_wp2
  go_loopw [9] (fun j wr => ∃ (k : Nat) (qs : List (OpD × Value)), k ≤ n ∧ j = .int .i64 (k : Int) ∧ CopiesRel w wr (.slice A n c) ps k qs) (fun j _ => n - (intOf j).toNat)
  case atStart => exact ⟨0, ps, by omega, rfl, REL0.out⟩
  case round =>
    obtain ⟨k, qs, hk, rfl, hrel⟩ := hrel
    have REL := hide hrel
    clear hrel
    by_cases hkn : k < n
    · obtain ⟨x, xs, hx⟩ : ∃ x xs, ps[k]? = some (x, xs) := ⟨ps[k]'(by rw [HN.out]; exact hkn) |>.1, ps[k]'(by rw [HN.out]; exact hkn) |>.2, List.getElem?_eq_getElem (by rw [HN.out]; exact hkn)⟩
      have HX := hide hx
      have hxm : (x, xs) ∈ ps := List.mem_of_getElem? hx
      obtain ⟨xA, xc, rfl⟩ : ∃ xA xc, xs = .slice xA x.steps.length xc := by
        obtain ⟨xA, xc, h, _⟩ := FlatAt.shape (HO.out.2 _ hxm)
        exact ⟨xA, xc, h⟩
      have hfl := FlatAt.of_own REL.out.own (ops_one REL.out.one)
      rw [HN.out] at hfl
      obtain ⟨q, off, c', hv, _, hBq, hqlt, hr⟩ := hfl.elem hkn
      obtain ⟨rfl, rfl⟩ : A = some ⟨q, off, none⟩ ∧ c = c' := by injection hv with e1 _ e3; exact ⟨e1, e3⟩
      obtain rfl : off = 0 := by
        rcases REL.out.own.2 with ⟨e, _⟩ | ⟨_, _, _, e, _⟩
        · cases e
        · injection e with e _ _
          injection e with e
          injection e with _ e _
      rw [flat_get (fun p : OpD × Value => p.1.cells p.2) 10 qs k (x, .slice xA x.steps.length xc) (fun p _ => p.1.len p.2) (by rw [REL.out.old k (Nat.le_refl _)]; exact hx), Nat.zero_add] at hr
      obtain ⟨r0, r1, r2, r3, r4, r5, r6, r7, r8, r9⟩ := range_op hr
      obtain ⟨cur, hcur, hcsz⟩ : ∃ cur, wr.heap[q]? = some (.cells cur 33 (0, 0)) ∧ n * 10 ≤ cur.size := by
        rcases REL.out.own.2 with ⟨e, _⟩ | ⟨g, cap, cur, e, _, hg, hnc, _, hsz, _⟩
        · cases e
        · injection e with e e2 e3
          injection e with e
          injection e with e
          subst e
          exact ⟨cur, hg, by rw [hsz]; rw [HN.out] at hnc; omega⟩
      have HC := hide hcur
      have HCS := hide hcsz
      have HXB : Hid ((wr.alloc (.cells (x.cells (.slice xA x.steps.length xc)).toArray 33 (0, 0))).heap[wr.heap.size]? = some (.cells (x.cells (.slice xA x.steps.length xc)).toArray 33 (0, 0))) := heap_alloc_new _ _
      have HQ4 : Hid ((wr.alloc (.cells (x.cells (.slice xA x.steps.length xc)).toArray 33 (0, 0))).heap[q]? = some (.cells cur 33 (0, 0))) := (heap_alloc_old _ _ hqlt).trans hcur
      have C3 := hide (fun w' (hb : (wr.alloc (.cells (x.cells (.slice xA x.steps.length xc)).toArray 33 (0, 0))).grownBy w' (some q)) => copyop_own (fun b => b < w.heap.size) x (.slice xA x.steps.length xc) w'
        ((((StepsAt.mono (HO.out.2 _ hxm) (G := fun b => b < w.heap.size) (fun i hi _ => hi)).kept (Kept.of_below REL.out.below _)).kept (Kept.of_below ((Below.refl _ _).alloc (Nat.le_refl _) _) _)).kept (Kept.of_grown hb (fun g e h => by have e2 := Option.some.inj e; have h2 : g < w.heap.size := h; omega)))
        (by have := HPL.out _ hxm; simp only at this; omega))
      clear hx hr hxm hfl hv hcur hcsz
      go_wp2_with (refine wpList_load_box (by rfl) 33 _ (by rfl) wr.heap.size 0 (by rfl) 33 _ HXB.out 10 _ Tryz.underlying33 (by rfl) (by kernel_rfl) (x.cells (.slice xA x.steps.length xc)) (by rfl) (by rfl) ?_)
      refine (C3.out (wr.alloc (.cells (x.cells (.slice xA x.steps.length xc)).toArray 33 (0, 0))) (World.grownBy.refl _ _)).mono ?_
      rintro e w5 ⟨s2, rfl, hs2, hb5⟩
      have HS2 := hide hs2
      have HB5 := hide hb5
      have hq5 : w5.heap.size ≤ w5.heap.size := Nat.le_refl _
      clear hs2 hb5 C3
      go_wp2_with (refine wpList_store_box (by rfl) 33 _ _ (by rfl) q (k * 10) (x.cells s2).toArray (by rfl) (by rfl) 33 cur ((HB5.out.block q (by simp; omega)).trans (by exact HQ4.out)) (by kernel_rfl) (by exact (show k * 10 + 10 ≤ cur.size from by have := HCS.out; omega)) (by exact x.one (FlatAt.oneCell HS2.out.1)) ?_; intro w6 hq6 hg6; have HQ6 := hide hq6; have HG6 := hide hg6; clear hq6 hg6)
      have HB6 : Hid (Below wr.heap.size wr w5) := Below.trans (b := (wr.alloc (.cells (x.cells (.slice xA x.steps.length xc)).toArray 33 (0, 0)))) ((Below.refl wr.heap.size wr).alloc (Nat.le_refl _) _) (HB5.out.mono (by show _ ≤ (wr.alloc _).heap.size; simp))
      go_roundw
      case rel => exact ⟨k + 1, qs.set k (x, s2), by omega, by go_num, REL.out.step HX.out hBq HB6.out ⟨HS2.out.1.mono (fun j _ h => by have h2 : (wr.alloc _).heap.size ≤ j := h; simp at h2; omega), HS2.out.2.mono (fun j _ h => by have h2 : (wr.alloc _).heap.size ≤ j := h; simp at h2; omega)⟩ HC.out HQ6.out HG6.out⟩
      case measure => simp [intOf]; omega
    · obtain rfl : k = n := by omega
      go_wp2
      go_ret
      have hlen : qs.length = k := REL.out.len.trans HN.out
      have hnew : ∀ p ∈ qs, StepsAt (fun b => w.heap.size ≤ b ∧ some b ≠ (Value.slice A k c).ownBlock) wr p.2 p.1.steps ∧ Free (fun b => w.heap.size ≤ b ∧ some b ≠ (Value.slice A k c).ownBlock) wr p.2 := fun p hp => by
        obtain ⟨j, hj, hjp⟩ := List.mem_iff_getElem.1 hp
        exact REL.out.new j p (by omega) (by rw [List.getElem?_eq_getElem hj, hjp])
      have hown : wr.ownsRow w.heap.size 33 10 (.slice A k c) qs.length (qs.flatMap fun p => p.1.cells p.2) := by rw [REL.out.len]; exact REL.out.own
      exact ⟨_, qs, rfl, REL.out.same, ⟨⟨FlatAt.of_own hown (ops_one REL.out.one), fun p hp => (hnew p hp).1.mono fun _ _ h => h.1⟩, (Free.of_own hown).mono fun _ _ h => h.1, fun p hp => (hnew p hp).2.mono fun _ _ h => h.1, fun p hp => (hnew p hp).1.mono fun _ _ h => h.2⟩, hown, REL.out.below⟩
theorem copies_any (F : Nat → Prop) (l : List OpD) (v : Value) (w : World) (ho : OpsAt F w v l) (hn1 : l.length ≤ 1000000) (hs1 : ∀ o ∈ l, o.steps.length ≤ 1000000) :
    Calls Tryz.prog 136 #[v] w fun e w' => ∃ v' qs, e = .returned v' ∧ qs.map (·.1) = l ∧ OpsFree (w.heap.size ≤ ·) w' v' qs ∧ w'.ownsRow w.heap.size 33 10 v' qs.length (qs.flatMap fun p => p.1.cells p.2) ∧ Below w.heap.size w w' := by
  obtain ⟨ps, rfl, h⟩ := ho
  exact copies_own F ps v w h (by simpa using hn1) (fun p hp => hs1 p.1 (List.mem_map_of_mem hp))
end Go.Proofs.YtaiegmhlgjogmaaGreat
/- A log in memory: its operations in a row of its own, and how many are committed; New, made, Last, Committed, part. -/
namespace Go.Proofs.YtaiegmhlgjogmaaGreat.Ol
open Go.RowKit

/-- The block k holds the parts of a log: the operations ps in a row of its own, the first c committed. S holds of all blocks that it lies in. -/
structure PartsAt (S : Nat → Prop) (w : World) (k base : Nat) (v : Value) (ps : List (OpD × Value)) (c : Nat) : Prop where
  kept : w.heap[k]? = some (.cells #[v, .int .i64 (c : Int)] 138 (0, 0))
  own : w.ownsRow base 33 10 v ps.length (opcells ps)
  steps : ∀ p ∈ ps, StepsAt (fun i => S i ∧ i ≠ k ∧ some i ≠ v.ownBlock) w p.2 p.1.steps
  inn : S k ∧ ∀ q, v.ownBlock = some q → S q
  com : c ≤ ps.length
  len : ps.length ≤ 2000
  small : ∀ p ∈ ps, p.1.steps.length ≤ 1000000
  base : base ≤ w.heap.size
/-- The block l holds a log. -/
structure LogAt (S : Nat → Prop) (w : World) (l k base : Nat) (v : Value) (ps : List (OpD × Value)) (c : Nat) : Prop where
  cell : w.heap[l]? = some (.cells #[.pointer (some ⟨k, 0, none⟩)] 142 (0, 0))
  parts : PartsAt S w k base v ps c
  inn : S l

section
variable {S T : Nat → Prop} {w w' : World} {l k base c : Nat} {v : Value} {ps : List (OpD × Value)}
theorem own_kept {e n : Nat} {xs : List Value} (h : w.ownsRow base e 10 v n xs) (hk : ∀ q, v.ownBlock = some q → w'.heap[q]? = w.heap[q]?) : w'.ownsRow base e 10 v n xs := by
  refine ⟨h.1, ?_⟩
  rcases h.2 with h0 | ⟨g, cap, cur, hv, h1, h2, h3⟩
  · exact .inl h0
  · exact .inr ⟨g, cap, cur, hv, h1, (hk g (by rw [hv]; rfl)).trans h2, h3⟩
theorem own_in {e n : Nat} {xs : List Value} (h : w.ownsRow base e 10 v n xs) : ∀ q, v.ownBlock = some q → q < w.heap.size := by
  rcases h.2 with ⟨h0, _⟩ | ⟨g, cap, cur, hv, h1, h2, h3⟩
  · intro q hq
    rw [h0] at hq
    cases hq
  · intro q hq
    rw [hv] at hq
    obtain rfl : g = q := Option.some.inj hq
    exact lt_of_block h2
theorem PartsAt.one (h : PartsAt S w k base v ps c) : ∀ p ∈ ps, p.2.oneCell' = true := fun p hp => FlatAt.oneCell (h.steps p hp)
theorem PartsAt.k_ne (h : PartsAt S w k base v ps c) : some k ≠ v.ownBlock := by
  intro e
  rcases h.own.2 with ⟨h0, _⟩ | ⟨g, cap, cur, hv, h1, h2, h3⟩
  · rw [h0] at e
    cases e
  · rw [hv] at e
    obtain rfl : k = g := Option.some.inj e
    have := h.kept
    rw [h2] at this
    injection this with this
    injection this with _ e2
    exact absurd e2 (by decide)
theorem PartsAt.keep (h : PartsAt S w k base v ps c) (hk : Kept S w w') : PartsAt S w' k base v ps c :=
  ⟨(hk.2 k (lt_of_block h.kept) h.inn.1).trans h.kept, own_kept h.own fun q hq => hk.2 q (own_in h.own q hq) (h.inn.2 q hq), fun p hp => (h.steps p hp).kept (hk.mono fun _ _ hi => hi.1), h.inn, h.com, h.len, h.small, Nat.le_trans h.base hk.1⟩
theorem PartsAt.mono (h : PartsAt S w k base v ps c) (hs : ∀ i, S i → T i) : PartsAt T w k base v ps c :=
  ⟨h.kept, h.own, fun p hp => (h.steps p hp).mono fun _ _ hi => ⟨hs _ hi.1, hi.2⟩, ⟨hs _ h.inn.1, fun q e => hs q (h.inn.2 q e)⟩, h.com, h.len, h.small, h.base⟩
theorem PartsAt.cells (h : PartsAt S w k base v ps c) : w.cell? ⟨k, 0, none⟩ = some v ∧ w.cell? ⟨k, 1, none⟩ = some (.int .i64 (c : Int)) ∧ w.frozen? ⟨k, 0, none⟩ = false ∧ w.frozen? ⟨k, 1, none⟩ = false :=
  ⟨cell_of_row w k 0 _ _ _ h.kept, cell_of_row w k 1 _ _ _ h.kept, frozen_of_row w k 0 _ _ h.kept, frozen_of_row w k 1 _ _ h.kept⟩
theorem PartsAt.shape (h : PartsAt S w k base v ps c) : ∃ A cp, v = .slice A ps.length cp ∧ ps.length ≤ cp ∧ cp ≤ maxLen := by
  obtain ⟨A, cp, hv, h1, h2, _⟩ := FlatAt.shape (FlatAt.of_own h.own (ops_one h.one))
  exact ⟨A, cp, hv, h1, h2⟩
theorem PartsAt.ops (h : PartsAt S w k base v ps c) : OpsIn S w v ps := by
  refine ⟨?_, fun p hp => (h.steps p hp).mono fun _ _ hi => hi.1⟩
  obtain ⟨x1, x2, A, cp, e, x3, x4, x5, x6⟩ := FlatAt.of_own h.own (ops_one h.one)
  refine ⟨x1, x2, A, cp, e, x3, x4, x5, fun hn => ?_⟩
  obtain ⟨b, off, hA, hf, hb, hr⟩ := x6 hn
  refine ⟨b, off, hA, ?_, hb, hr⟩
  rcases h.own.2 with ⟨h0, _⟩ | ⟨g, cap, cur, hv, h1, h2, h3⟩
  · rw [h0] at e
    injection e with e1 _ _
    rw [← e1] at hA
    cases hA
  · rw [hv] at e
    injection e with e1 _ _
    rw [← e1] at hA
    injection hA with hA
    injection hA with hA _ _
    subst hA
    exact h.inn.2 _ (by rw [hv]; rfl)
theorem LogAt.keep (h : LogAt S w l k base v ps c) (hk : Kept S w w') : LogAt S w' l k base v ps c := ⟨(hk.2 l (lt_of_block h.cell) h.inn).trans h.cell, h.parts.keep hk, h.inn⟩
theorem LogAt.later (h : LogAt S w l k base v ps c) (hb : Below w.heap.size w w') : LogAt S w' l k base v ps c := h.keep (Kept.of_below hb _)
theorem LogAt.mono (h : LogAt S w l k base v ps c) (hs : ∀ i, S i → T i) : LogAt T w l k base v ps c := ⟨h.cell, h.parts.mono hs, hs _ h.inn⟩
theorem LogAt.lcell (h : LogAt S w l k base v ps c) : w.cell? ⟨l, 0, none⟩ = some (.pointer (some ⟨k, 0, none⟩)) := cell_of_row w l 0 _ _ _ h.cell
theorem LogAt.ne (h : LogAt S w l k base v ps c) : l ≠ k := by
  rintro rfl
  have := h.cell
  rw [h.parts.kept] at this
  injection this with this
  injection this with _ e2
  exact absurd e2 (by decide)
theorem LogAt.l_ne (h : LogAt S w l k base v ps c) : some l ≠ v.ownBlock := by
  intro e
  rcases h.parts.own.2 with ⟨h0, _⟩ | ⟨g, cap, cur, hv, h1, h2, h3⟩
  · rw [h0] at e
    cases e
  · rw [hv] at e
    obtain rfl : l = g := Option.some.inj e
    have := h.cell
    rw [h2] at this
    injection this with this
    injection this with _ e2
    exact absurd e2 (by decide)
end

/-- A log that no call made: nil, or one without its parts. -/
def NoLog (w : World) (p : Value) : Prop := p = .pointer none ∨ ∃ c, p = .pointer (some ⟨c, 0, none⟩) ∧ w.heap[c]? = some (.cells #[.pointer none] 142 (0, 0))
theorem NoLog.later {w w' : World} {p : Value} (h : NoLog w p) (hb : Below w.heap.size w w') : NoLog w' p :=
  h.imp id fun ⟨c, e, hc⟩ => ⟨c, e, (hb.block c (lt_of_block hc)).trans hc⟩

theorem made_no (p : Value) (w : World) (h : NoLog w p) : Calls Tryz.prog 97 #[p] w fun e w' => e = .returned (.bool false) ∧ w = w' := by
  rcases h with rfl | ⟨c, rfl, hc⟩
  · go_enter Tryz.func97, Tryz.ntmps97
    go_wp2
    go_ret
    exact ⟨rfl, rfl⟩
  · have c0 := cell_of_row w c 0 _ _ _ hc
    simp only [List.getElem?_toArray, List.getElem?_cons_zero] at c0
    clear hc
    go_enter Tryz.func97, Tryz.ntmps97
    go_wp2
    go_ret
    exact ⟨rfl, rfl⟩
section
variable {S : Nat → Prop} {l k base c : Nat} {v : Value} {ps : List (OpD × Value)}
theorem made_yes (w : World) (h : LogAt S w l k base v ps c) : Calls Tryz.prog 97 #[.pointer (some ⟨l, 0, none⟩)] w fun e w' => e = .returned (.bool true) ∧ w = w' := by
  have c0 := h.lcell
  clear h
  go_enter Tryz.func97, Tryz.ntmps97
  go_wp2
  go_ret
  exact ⟨rfl, rfl⟩
theorem last_yes (w : World) (h : LogAt S w l k base v ps c) : Calls Tryz.prog 121 #[.pointer (some ⟨l, 0, none⟩)] w fun e w' => e = .returned (.int .i64 (ps.length : Int)) ∧ w = w' := by
  have C := hide (made_yes w h)
  have c0 := h.lcell
  obtain ⟨A, cp, rfl, h1, h2⟩ := h.parts.shape
  obtain ⟨k0, k1, _, _⟩ := h.parts.cells
  have hl := h.parts.len
  unfold maxLen at h2
  clear h
  go_enter Tryz.func121, Tryz.ntmps121
  go_wp2_with (fail)
  refine C.out.mono ?_
  rintro e w1 ⟨rfl, rfl⟩
  go_wp2
  go_ret
  exact ⟨rfl, rfl⟩
theorem committed_yes (w : World) (h : LogAt S w l k base v ps c) : Calls Tryz.prog 49 #[.pointer (some ⟨l, 0, none⟩)] w fun e w' => e = .returned (.int .i64 (c : Int)) ∧ w = w' := by
  have C := hide (made_yes w h)
  have c0 := h.lcell
  obtain ⟨k0, k1, _, _⟩ := h.parts.cells
  clear h
  go_enter Tryz.func49, Tryz.ntmps49
  go_wp2_with (fail)
  refine C.out.mono ?_
  rintro e w1 ⟨rfl, rfl⟩
  go_wp2
  go_ret
  exact ⟨rfl, rfl⟩
theorem last_no (p : Value) (w : World) (h : NoLog w p) : Calls Tryz.prog 121 #[p] w fun e w' => e = .returned (.int .i64 0) ∧ w = w' := by
  have C := hide (made_no p w h)
  have hp : ∃ a, p = .pointer a := by rcases h with rfl | ⟨g, rfl, _⟩ <;> exact ⟨_, rfl⟩
  obtain ⟨a, rfl⟩ := hp
  clear h
  go_enter Tryz.func121, Tryz.ntmps121
  go_wp2_with (fail)
  refine C.out.mono ?_
  rintro e w1 ⟨rfl, rfl⟩
  go_wp2
  go_ret
  exact ⟨rfl, rfl⟩
theorem committed_no (p : Value) (w : World) (h : NoLog w p) : Calls Tryz.prog 49 #[p] w fun e w' => e = .returned (.int .i64 0) ∧ w = w' := by
  have C := hide (made_no p w h)
  have hp : ∃ a, p = .pointer a := by rcases h with rfl | ⟨g, rfl, _⟩ <;> exact ⟨_, rfl⟩
  obtain ⟨a, rfl⟩ := hp
  clear h
  go_enter Tryz.func49, Tryz.ntmps49
  go_wp2_with (fail)
  refine C.out.mono ?_
  rintro e w1 ⟨rfl, rfl⟩
  go_wp2
  go_ret
  exact ⟨rfl, rfl⟩
/-- part: the operations behind number a, up to number b. -/
theorem part_any (a b : Nat) (w : World) (h : PartsAt S w k base v ps c) (hab : a ≤ b) (hb : b ≤ ps.length) :
    Calls Tryz.prog 96 #[.pointer (some ⟨k, 0, none⟩), .int .i64 (a : Int), .int .i64 (b : Int)] w fun e w' => ∃ v', e = .returned v' ∧ OpsIn S w v' ((ps.take b).drop a) ∧ w = w' := by
  have hops := h.ops
  obtain ⟨A, cp, rfl, h1, h2⟩ := h.shape
  obtain ⟨k0, k1, _, _⟩ := h.cells
  have HO := hide (hops.cut hab hb)
  have hl := h.len
  have hs : (Tryz.prog.info? (Tryz.prog.elem 39)).map (·.size) = some 10 := by kernel_rfl
  unfold maxLen at h2
  clear h hops
  by_cases hba : b = a
  · subst hba
    have HO2 : Hid (OpsIn S w (.slice A 0 0) []) := by simpa [sliced, Hid] using HO.out
    clear HO
    go_enter Tryz.func96, Tryz.ntmps96
    go_wp2
    go_ret
    exact ⟨_, rfl, by simpa using HO2.out, rfl⟩
  · have HO2 : Hid (OpsIn S w (.slice (A.map (·.add (a * 10))) (b - a) (b - a)) ((ps.take b).drop a)) := by
      have := HO.out
      unfold sliced at this
      rwa [if_neg hba] at this
    clear HO
    go_enter Tryz.func96, Tryz.ntmps96
    go_wp2
    go_ret
    exact ⟨_, rfl, HO2.out, rfl⟩
end

theorem heap_at {w : World} {n : Nat} (o : Obj) (h : n = w.heap.size) : (w.alloc o).heap[n]? = some o := by
  subst h
  exact heap_alloc_new _ _
/-- What New hands back. -/
def NewLog (w : World) (e : Ending) (w' : World) : Prop :=
  ∃ l k, e = .returned (.pointer (some ⟨l, 0, none⟩)) ∧ Below w.heap.size w w' ∧ LogAt (fun i => w.heap.size ≤ i ∧ i < w'.heap.size) w' l k w'.heap.size (.slice none 0 0) [] 0
theorem new_any (w : World) : Calls Tryz.prog 82 #[] w (NewLog w) := by
  go_enter Tryz.func82, Tryz.ntmps82
  go_wp2
  go_ret
  have hsz : ∀ o1 o2 : Obj, ((w.alloc o1).alloc o2).heap.size = w.heap.size + 2 := fun _ _ => by simp
  refine ⟨w.heap.size + 1, w.heap.size, rfl, ((Below.refl _ _).alloc (Nat.le_refl _) _).alloc (by simp) _, ?_, ⟨?_, World.ownsRow_nil _ _ _ _, by simp, ⟨?_, fun q e => by simp [Value.ownBlock] at e⟩, Nat.le_refl _, by simp, by simp, Nat.le_refl _⟩, ?_⟩
  · exact heap_at _ (by simp)
  · exact (heap_alloc_old _ _ (by simp)).trans (heap_at _ (by simp))
  · simp only [hsz]; omega
  · simp only [hsz]; omega
end Go.Proofs.YtaiegmhlgjogmaaGreat.Ol
/- A log that was written: what is asked of the new state of its parts. -/
namespace Go.Proofs.YtaiegmhlgjogmaaGreat.Ol
open Go.RowKit

/-- The blocks of a log behind a call: those from before, and new ones. -/
def Grows (S : Nat → Prop) (w w' : World) (i : Nat) : Prop := S i ∨ w.heap.size ≤ i ∧ i < w'.heap.size
section
variable {S : Nat → Prop} {w w' : World} {l k base base' c c' : Nat} {v v' : Value} {ps qs : List (OpD × Value)}
theorem opcells_append (a b : List (OpD × Value)) : opcells (a ++ b) = opcells a ++ opcells b := by simp [opcells]
theorem opcells_one (o : OpD) (s : Value) : opcells [(o, s)] = o.cells s := by simp [opcells]
theorem PartsAt.put (h : PartsAt S w k base v ps c) (hk : w'.heap[k]? = some (.cells #[v', .int .i64 (c' : Int)] 138 (0, 0)))
    (ho : w'.ownsRow base' 33 10 v' qs.length (opcells qs)) (hs : ∀ q ∈ qs, StepsAt (fun i => Grows S w w' i ∧ i ≠ k ∧ some i ≠ v'.ownBlock) w' q.2 q.1.steps)
    (hv : ∀ q, v'.ownBlock = some q → v.ownBlock = some q ∨ w.heap.size ≤ q) (hc : c' ≤ qs.length) (hl : qs.length ≤ 2000) (hsm : ∀ p ∈ qs, p.1.steps.length ≤ 1000000) (hb : base' ≤ w'.heap.size) :
    PartsAt (Grows S w w') w' k base' v' qs c' :=
  ⟨hk, ho, hs, ⟨.inl h.inn.1, fun q e => (hv q e).elim (fun e' => .inl (h.inn.2 q e')) fun e' => .inr ⟨e', own_in ho q e⟩⟩, hc, hl, hsm, hb⟩
/-- The steps of what was there. -/
theorem PartsAt.old_steps (h : PartsAt S w k base v ps c) (ht : ∀ i, i < w.heap.size → i ≠ k → some i ≠ v.ownBlock → w'.heap[i]? = w.heap[i]?) (hsz : w.heap.size ≤ w'.heap.size)
    (hv : ∀ q, v'.ownBlock = some q → v.ownBlock = some q ∨ w.heap.size ≤ q) : ∀ p ∈ ps, StepsAt (fun i => Grows S w w' i ∧ i ≠ k ∧ some i ≠ v'.ownBlock) w' p.2 p.1.steps := by
  intro p hp
  have h1 := (h.steps p hp).mono (G := fun i => (S i ∧ i ≠ k ∧ some i ≠ v'.ownBlock) ∧ some i ≠ v.ownBlock) (fun i hi hf => ⟨⟨hf.1, hf.2.1, fun e => by
    rcases hv i e.symm with e2 | e2
    · exact hf.2.2 e2.symm
    · omega⟩, hf.2.2⟩)
  exact (h1.kept ⟨hsz, fun i hi hf => ht i hi hf.1.2.1 hf.2⟩).mono fun i _ hf => ⟨.inl hf.1.1, hf.1.2⟩
theorem LogAt.put (h : LogAt S w l k base v ps c) (hl : w'.heap[l]? = w.heap[l]?) (hp : PartsAt (Grows S w w') w' k base' v' qs c') : LogAt (Grows S w w') w' l k base' v' qs c' :=
  ⟨hl.trans h.cell, hp, .inl h.inn⟩
/-- Only what is committed has turned. -/
theorem LogAt.commits (h : LogAt S w l k base v ps c) (hc : c' ≤ ps.length) : LogAt S (w.setCell ⟨k, 1, none⟩ (.int .i64 (c' : Int))) l k base v ps c' := by
  have hg := grown_set w k 1 (.int .i64 (c' : Int))
  have hk : ∀ i, i < w.heap.size → i ≠ k → (w.setCell ⟨k, 1, none⟩ (.int .i64 (c' : Int))).heap[i]? = w.heap[i]? := fun i hi e => hg.block i hi (fun e2 => e (Option.some.inj e2))
  refine ⟨(hk l (lt_of_block h.cell) h.ne).trans h.cell, ⟨heap_setCell_same w k 1 _ _ _ h.parts.kept, own_kept h.parts.own fun q hq => hk q (own_in h.parts.own q hq) fun e => h.parts.k_ne (by rw [hq, e]), fun p hp => (h.parts.steps p hp).kept ⟨hg.size, fun i hi hf => hk i hi hf.2.1⟩, h.parts.inn, hc, h.parts.len, h.parts.small, Nat.le_trans h.parts.base hg.size⟩, h.inn⟩
end
end Go.Proofs.YtaiegmhlgjogmaaGreat.Ol
/- goOn of package oplog: other operations behind the first ones; Cut, Join. -/
namespace Go.Proofs.YtaiegmhlgjogmaaGreat.Ol
open Go.RowKit

section
variable {S F : Nat → Prop} {l k base c : Nat} {v : Value} {ps : List (OpD × Value)}
/-- What goOn leaves. -/
def WentOn (S : Nat → Prop) (w : World) (k : Nat) (ps : List (OpD × Value)) (m : Nat) (qs : List (OpD × Value)) (c : Nat) (e : Ending) (w' : World) : Prop :=
  ∃ base' v' rs, e = .returned (.tuple #[]) ∧ rs.map (·.1) = qs.map (·.1) ∧ PartsAt (Grows S w w') w' k base' v' (ps.take m ++ rs) c ∧ Turned (fun i => i = k) w w'

set_option maxHeartbeats 2000000 in
set_option maxRecDepth 100000 in
theorem goon_any (m : Nat) (v2 : Value) (qs : List (OpD × Value)) (w : World) (h : PartsAt S w k base v ps c) (hm : m ≤ ps.length) (hq : OpsIn F w v2 qs) (hsm : ∀ q ∈ qs, q.1.steps.length ≤ 1000000) (hl : m + qs.length ≤ 2000) (hc : c ≤ m + qs.length) :
    Calls Tryz.prog 184 #[.pointer (some ⟨k, 0, none⟩), .int .i64 (m : Int), v2] w (WentOn S w k ps m qs c) := by
  have C1 : Hid (Calls Tryz.prog 96 #[.pointer (some ⟨k, 0, none⟩), .int .i64 0, .int .i64 (m : Int)] w _) := hide (part_any 0 m w h (by omega) hm)
  have C2 := hide (copies_own F qs v2 w hq (by omega) hsm)
  obtain ⟨A2, c2, rfl, _, _, _⟩ := hq.1.shape
  have HP := hide h
  have HSM := hide hsm
  have hkw : k < w.heap.size := lt_of_block h.kept
  clear h hq hsm
  go_enter Tryz.func184, Tryz.ntmps184
  go_wp2_with (fail)
  refine C1.out.mono ?_
  rintro e w0 ⟨v1, rfl, ho1, rfl⟩
  obtain ⟨A1, c1, rfl, _, _, _⟩ := ho1.1.shape
  have HO1 := hide ho1
  clear ho1 C1
  go_wp2_with (fail)
  refine C2.out.mono ?_
  rintro e w1 ⟨v3, rs, rfl, hsame, hfree, hown, hb⟩
  obtain ⟨A3, c3, rfl, _, _, _⟩ := hfree.ops.1.shape
  have HF := hide hfree
  have HB := hide hb
  have HS := hide hsame
  have hrl : rs.length = qs.length := by have := congrArg List.length hsame; simpa using this
  clear hfree hb hsame hown C2
  go_wp2_with (fail)
  have e1 : (ps.take m).length = m := by simp; omega
  have hfl1 : FlatAt (fun _ => True) w 10 (.slice A1 m c1) m (opcells (ps.take m)) := by
    have := HO1.out.1
    rw [List.drop_zero, e1] at this
    exact this.mono fun _ _ _ => trivial
  have hfl3 : FlatAt (fun _ => True) w1 10 (.slice A3 qs.length c3) qs.length (opcells rs) := by
    have := HF.out.ops.1
    rw [hrl] at this
    exact this.mono fun _ _ _ => trivial
  have hB2 : Below w1.heap.size w1 (w1.alloc (.cells #[.slice A1 m c1, .slice A3 qs.length c3] 39 (0, 0))) := (Below.refl _ _).alloc (Nat.le_refl _) _
  refine (concat_two (fun _ => True) w1.heap.size m qs.length _ _ _ _ _ (heap_alloc_new w1 _) ((hfl1.kept (Kept.of_below HB.out _)).kept (Kept.of_below hB2 _)) (hfl3.kept (Kept.of_below hB2 _)) (by omega) (by omega)).mono ?_
  rintro e w3 ⟨v4, rfl, hown, hb3⟩
  obtain ⟨A4, c4, rfl, _⟩ := own_slice hown
  have hsz1 := HB.out.size
  have hsz2 : (w1.alloc (.cells #[.slice A1 m c1, .slice A3 qs.length c3] 39 (0, 0))).heap.size = w1.heap.size + 1 := by simp
  have hsz3 := hb3.size
  have T13 : Hid (∀ i, i < w1.heap.size → w3.heap[i]? = w1.heap[i]?) := fun i hi => (hb3.block i (by omega)).trans (heap_alloc_old _ _ hi)
  have T3 : Hid (∀ i, i < w.heap.size → w3.heap[i]? = w.heap[i]?) := fun i hi => (T13.out i (by omega)).trans (HB.out.block i hi)
  have HO4 := hide hown
  have X3 : Hid (w3.heap[k]? = some (.cells #[v, .int .i64 (c : Int)] 138 (0, 0))) := (T3.out k hkw).trans HP.out.kept
  have k3 := cell_of_row w3 k 0 _ _ _ X3.out
  have f3 := frozen_of_row w3 k 0 _ _ X3.out
  simp only [List.getElem?_toArray, List.getElem?_cons_zero] at k3
  have hnew4 : ∀ q, (Value.slice A4 (m + qs.length) c4).ownBlock = some q → w1.heap.size + 1 ≤ q := fun q e => by have := (hown.lt q e).1; omega
  have HN4 := hide hnew4
  have HOS : Hid (w1.os = w.os ∧ w1.tape = w.tape ∧ w1.output = w.output) := ⟨HB.out.os, HB.out.tape, HB.out.output⟩
  have HOS3 : Hid (w3.os = w1.os ∧ w3.tape = w1.tape ∧ w3.output = w1.output) := ⟨hb3.os, hb3.tape, hb3.output⟩
  clear hfl1 hfl3 hB2 hown hb3 hnew4
  go_wp2
  go_end0
  have HT4 : ∀ i, i < w.heap.size → i ≠ k → some i ≠ v.ownBlock → (w3.setCell ⟨k, 0, none⟩ (.slice A4 (m + qs.length) c4)).heap[i]? = w.heap[i]? := fun i hi e1 _ => (heap_setCell_other _ _ _ _ e1).trans (T3.out i hi)
  have hsz4 : (w3.setCell ⟨k, 0, none⟩ (.slice A4 (m + qs.length) c4)).heap.size = w3.heap.size := by simp [World.setCell]
  have hlen : (ps.take m ++ rs).length = m + qs.length := by rw [List.length_append, e1, hrl]
  have hmem : ∀ r ∈ rs, r.1.steps.length ≤ 1000000 := fun r hr => by
    have h1 : r.1 ∈ qs.map (·.1) := by rw [← HS.out]; exact List.mem_map_of_mem hr
    obtain ⟨q, hq, e⟩ := List.mem_map.1 h1
    rw [← e]
    exact HSM.out q hq
  refine ⟨_, _, rs, rfl, HS.out, HP.out.put (heap_setCell_same w3 k 0 _ _ _ X3.out) (base' := (w1.alloc (.cells #[.slice A1 m c1, .slice A3 qs.length c3] 39 (0, 0))).heap.size) ?_ ?_ (fun q e => .inr (by have := HN4.out q e; omega)) (by omega) (by omega) ?_ (by omega), ?_⟩
  · rw [hlen, opcells_append]
    exact own_kept HO4.out fun q hq => heap_setCell_other _ _ _ _ (show q ≠ k from by have := HN4.out q hq; omega)
  · intro q hq
    rcases List.mem_append.1 hq with hq | hq
    · exact HP.out.old_steps HT4 (by omega) (fun q e => .inr (by have := HN4.out q e; omega)) q (List.mem_of_mem_take hq)
    · have h1 : StepsAt (fun i => (w.heap.size ≤ i ∧ i < w1.heap.size) ∧ i ≠ k ∧ some i ≠ (Value.slice A4 (m + qs.length) c4).ownBlock) w1 q.2 q.1.steps := (HF.out.ops.2 q hq).mono fun i hi hf => by
        have hf' : w.heap.size ≤ i := hf
        exact ⟨⟨hf', hi⟩, by omega, fun e => by have := HN4.out i e.symm; omega⟩
      exact (h1.kept ⟨by omega, fun i hi hf => (heap_setCell_other _ _ _ _ hf.2.1).trans (T13.out i hi)⟩).mono fun i _ hf => ⟨.inr ⟨hf.1.1, by omega⟩, hf.2⟩
  · intro p hp
    rcases List.mem_append.1 hp with hp | hp
    · exact HP.out.small p (List.mem_of_mem_take hp)
    · exact hmem p hp
  · obtain ⟨o1, o2, o3⟩ := HOS.out
    obtain ⟨p1, p2, p3⟩ := HOS3.out
    exact ⟨p1.trans o1, p2.trans o2, p3.trans o3, by omega, fun i hi hn => (heap_setCell_other _ _ _ _ hn).trans (T3.out i hi)⟩

/-- What Cut, Join and Replace leave, where they change the log. -/
def Changed (S : Nat → Prop) (w : World) (l : Nat) (L : List OpD) (c : Nat) (e : Ending) (w' : World) : Prop :=
  ∃ k base v qs, e = .returned (.int .i64 0) ∧ qs.map (·.1) = L ∧ LogAt (Grows S w w') w' l k base v qs c ∧ Turned S w w'

theorem err_no_join (p : Value) (n : Int) (A : Option Addr) (m cp : Nat) (w : World) (h : NoLog w p) : Calls Tryz.prog 164 #[p, .int .i64 n, .slice A m cp] w fun e w' => e = .returned (.int .i64 1) ∧ w = w' := by
  have C := hide (made_no p w h)
  have hp : ∃ a, p = .pointer a := by rcases h with rfl | ⟨g, rfl, _⟩ <;> exact ⟨_, rfl⟩
  obtain ⟨a, rfl⟩ := hp
  clear h
  go_enter Tryz.func164, Tryz.ntmps164
  go_wp2_with (fail)
  refine C.out.mono ?_
  rintro e w1 ⟨rfl, rfl⟩
  go_wp2
  go_ret
  exact ⟨rfl, rfl⟩

theorem join_arg (n : Int) (A : Option Addr) (m cp : Nat) (w : World) (h : LogAt S w l k base v ps c) (hn : n < c ∨ (ps.length : Int) < n) :
    Calls Tryz.prog 164 #[.pointer (some ⟨l, 0, none⟩), .int .i64 n, .slice A m cp] w fun e w' => e = .returned (.int .i64 2) ∧ w = w' := by
  have C := hide (made_yes w h)
  have c0 := h.lcell
  obtain ⟨A', cp', rfl, h1, h2⟩ := h.parts.shape
  obtain ⟨k0, k1, _, _⟩ := h.parts.cells
  clear h
  by_cases h3 : n < c
  · clear hn
    go_enter Tryz.func164, Tryz.ntmps164
    go_wp2_with (fail)
    refine C.out.mono ?_
    rintro e w1 ⟨rfl, rfl⟩
    go_wp2
    go_ret
    exact ⟨rfl, rfl⟩
  · have h4 : (ps.length : Int) < n := by omega
    clear hn
    go_enter Tryz.func164, Tryz.ntmps164
    go_wp2_with (fail)
    refine C.out.mono ?_
    rintro e w1 ⟨rfl, rfl⟩
    go_wp2
    go_ret
    exact ⟨rfl, rfl⟩
theorem join_full (n : Nat) (A : Option Addr) (m cp : Nat) (w : World) (h : LogAt S w l k base v ps c) (hc : c ≤ n) (hn : n ≤ ps.length) (hm : 2000 < n + m) :
    Calls Tryz.prog 164 #[.pointer (some ⟨l, 0, none⟩), .int .i64 (n : Int), .slice A m cp] w fun e w' => e = .returned (.int .i64 7) ∧ w = w' := by
  have C := hide (made_yes w h)
  have c0 := h.lcell
  have hl := h.parts.len
  obtain ⟨A', cp', rfl, h1, h2⟩ := h.parts.shape
  obtain ⟨k0, k1, _, _⟩ := h.parts.cells
  clear h
  go_enter Tryz.func164, Tryz.ntmps164
  go_wp2_with (fail)
  refine C.out.mono ?_
  rintro e w1 ⟨rfl, rfl⟩
  go_wp2
  go_ret
  exact ⟨rfl, rfl⟩
set_option maxHeartbeats 1000000 in
theorem join_yes (n : Nat) (v2 : Value) (qs : List (OpD × Value)) (w : World) (h : LogAt S w l k base v ps c) (hc : c ≤ n) (hn : n ≤ ps.length) (hq : OpsIn F w v2 qs) (hsm : ∀ q ∈ qs, q.1.steps.length ≤ 1000000) (hm : n + qs.length ≤ 2000) :
    Calls Tryz.prog 164 #[.pointer (some ⟨l, 0, none⟩), .int .i64 (n : Int), v2] w (Changed S w l ((ps.map (·.1)).take n ++ qs.map (·.1)) c) := by
  have C := hide (made_yes w h)
  have c0 := h.lcell
  have hl := h.parts.len
  obtain ⟨A, cp, rfl, h1, h2⟩ := h.parts.shape
  have C2 := hide (goon_any n v2 qs w h.parts hn hq hsm hm (by omega))
  obtain ⟨A2, cp2, rfl, _, _, _⟩ := hq.1.shape
  obtain ⟨k0, k1, _, _⟩ := h.parts.cells
  have H := hide h
  clear h hq hsm
  go_enter Tryz.func164, Tryz.ntmps164
  go_wp2_with (fail)
  refine C.out.mono ?_
  rintro e w1 ⟨rfl, rfl⟩
  go_wp2_with (fail)
  refine C2.out.mono ?_
  rintro e w1 ⟨base', v', rs, rfl, hrs, hp, ht⟩
  have HP := hide hp
  have HT := hide ht
  have HRS := hide hrs
  clear hp ht hrs C2
  go_wp2
  go_ret
  exact ⟨k, base', v', _, rfl, by rw [List.map_append, HRS.out, List.map_take], H.out.put (HT.out.block l (lt_of_block H.out.cell) H.out.ne) HP.out, HT.out.mono fun i e => by rw [e]; exact H.out.parts.inn.1⟩
end
end Go.Proofs.YtaiegmhlgjogmaaGreat.Ol
/- What == and != give at steps. -/
namespace Go.Proofs.YtaiegmhlgjogmaaGreat
open Go.RowKit

theorem toList_inj {a b : ByteArray} : a.toList = b.toList ↔ a = b := by
  rw [ByteArray.toList_eq, ByteArray.toList_eq]
  obtain ⟨⟨x⟩⟩ := a
  obtain ⟨⟨y⟩⟩ := b
  simp
theorem str_eq (a b : ByteArray) : (a.toList == b.toList) = decide (a = b) := by
  rw [Bool.eq_iff_iff, beq_iff_eq, decide_eq_true_eq, toList_inj]
theorem step_iff (s t : StepD) : s = t ↔ s.name.toList = t.name.toList ∧ s.stub = t.stub ∧ s.retry = t.retry ∧ s.wait = t.wait ∧ s.undo = t.undo ∧ s.pivot = t.pivot := by
  rw [toList_inj]
  obtain ⟨a, b, c, d, e, f⟩ := s
  obtain ⟨a', b', c', d', e', f'⟩ := t
  simp

theorem eql_step (s t : StepD) (w : World) : (binOp .eql 166 (.agg (s.cells).toArray) (.agg (t.cells).toArray)).run Tryz.prog w = .ok (.bool (decide (s = t))) w := by
  have u3 := Tryz.underlying3
  have u4 := Tryz.underlying4
  have u9 := Tryz.underlying9
  have hS : Tryz.prog.underlying 166 = some (.struct (Tryz.prog.fieldsOf 166)) := by kernel_rfl
  have hp : Tryz.prog.stoodInHeld 166 = false := by kernel_rfl
  simp only [StepD.cells]
  rw [run_eql_struct, show (10000 : Nat) = 9999 + 1 from rfl, run_equalIn_struct w 9999 166 _ _ hS hp]
  simp only [Program.fieldsOf, Tryz.underlying166]
  go_simp
  have hi := step_iff s t
  by_cases h0 : s.name.toList = t.name.toList <;> by_cases h1 : s.stub = t.stub <;> by_cases h2 : s.retry = t.retry <;> by_cases h3 : s.wait = t.wait <;> by_cases h4 : s.undo = t.undo <;> by_cases h5 : s.pivot = t.pivot <;> simp [hi, h0, h1, h2, h3, h4, h5]

theorem neq_step (s t : StepD) (w : World) : (binOp .neq 166 (.agg (s.cells).toArray) (.agg (t.cells).toArray)).run Tryz.prog w = .ok (.bool (!decide (s = t))) w := by
  have u3 := Tryz.underlying3
  have u4 := Tryz.underlying4
  have u9 := Tryz.underlying9
  have hS : Tryz.prog.underlying 166 = some (.struct (Tryz.prog.fieldsOf 166)) := by kernel_rfl
  have hp : Tryz.prog.stoodInHeld 166 = false := by kernel_rfl
  simp only [StepD.cells]
  rw [run_neq_struct, show (10000 : Nat) = 9999 + 1 from rfl, run_equalIn_struct w 9999 166 _ _ hS hp]
  simp only [Program.fieldsOf, Tryz.underlying166]
  go_simp
  have hi := step_iff s t
  by_cases h0 : s.name.toList = t.name.toList <;> by_cases h1 : s.stub = t.stub <;> by_cases h2 : s.retry = t.retry <;> by_cases h3 : s.wait = t.wait <;> by_cases h4 : s.undo = t.undo <;> by_cases h5 : s.pivot = t.pivot <;> simp [hi, h0, h1, h2, h3, h4, h5]

end Go.Proofs.YtaiegmhlgjogmaaGreat
/- A region whose order is open, of calls that write what was there before: what reads the same in all worlds may come up at once; from some point on text Order's laws take over. -/
namespace Go.Proofs.YtaiegmhlgjogmaaGreat
open Go.RowKit

section
variable {P : Program} {ops : Array Oper} {Q : Exit → Act → World → Prop} {md : Region.Mode}

/-- Whatever order is picked from here on, and behind each operation the world is a later one. -/
def wpAnyT (P : Program) (md : Region.Mode) (ops : Array Oper) (Q : Exit → Act → World → Prop) : Nat → Array Bool → Act → World → Prop
  | 0, listed, a, w => Region.ready md ops listed = [] ∧ Q .normal a w
  | fuel + 1, listed, a, w =>
    (Region.ready md ops listed = [] → Q .normal a w) ∧
    ∀ i ∈ Region.ready md ops listed, wpOp P ops Q i (wpAnyT P md ops Q fuel (listed.setIfInBounds i true)) a w

theorem wpAny_of_T : ∀ (fuel : Nat) (listed : Array Bool) (a : Act) (w : World), wpAnyT P md ops Q fuel listed a w → wpAny P md ops Q fuel listed a w
  | 0, _, _, _, h => h
  | fuel + 1, _, _, _, h => ⟨h.1, fun i hi => wpOp_mono (fun a' w' h' => wpAny_of_T fuel _ a' w' h') (h.2 i hi)⟩

/-- From here on what was there stays: operations that read it may come up at once. -/
theorem wpAnyT_of_L : ∀ (fuel : Nat) (listed : Array Bool) (a : Act) (w : World), wpAnyL P md ops Q fuel listed a w → wpAnyT P md ops Q fuel listed a w
  | 0, _, _, _, h => h
  | fuel + 1, _, _, _, h => ⟨h.1, fun i hi => wpOp_mono (fun a' w' h' => wpAnyT_of_L fuel _ a' w' h'.2) (h.2 i hi)⟩

/-- Such an operation, if it may come up, may come up at once. -/
theorem wpAnyT_first {i : Nat} {oi : Oper} {v : Value} (hi : ops[i]? = some oi) (hsel : ∀ (j : Nat) (o : Oper) cs b, ops[j]? = some o → o.op ≠ .select cs b)
    (hQ : ∀ c a w, Q (.panic c) (a.put oi.dst v) w → Q (.panic c) a w) :
    ∀ (fuel : Nat) (listed : Array Bool) (a : Act) (w : World),
      (∀ j oj, ops[j]? = some oj → j ≠ i → listed.getD j true = false → (∀ e ∈ oj.after, Region.binds md e = true → e.on ≠ i) → oi.apart ops oj = true) →
      i ∈ Region.ready md ops listed → YieldsIf P ops (fun _ => True) oi v a →
      wpAnyT P md ops Q fuel (listed.setIfInBounds i true) (a.put oi.dst v) w → wpAnyT P md ops Q (fuel + 1) listed a w := by
  intro fuel
  induction fuel with
  | zero =>
    intro listed a w _ hr hy H
    refine ⟨fun h => (by rw [h] at hr; cases hr), fun j hj => ?_⟩
    by_cases hji : j = i
    · subst hji
      exact hy.wpOp hi trivial H
    · have := ready_mono hj hji
      rw [H.1] at this
      cases this
  | succ fuel ih =>
    intro listed a w hfree hr hy H
    refine ⟨fun h => (by rw [h] at hr; cases hr), fun j hj => ?_⟩
    by_cases hji : j = i
    · subst hji
      exact hy.wpOp hi trivial H
    · have h1 := H.2 j (ready_mono hj hji)
      obtain ⟨hjun, oj, hoj, hall⟩ := mem_ready.1 hj
      have hnot : ∀ e ∈ oj.after, Region.binds md e = true → e.on ≠ i := fun e he hb heq => by
        have q1 := hall e he hb
        have q0 := (mem_ready.1 hr).1
        rw [heq] at q1
        rcases Nat.lt_or_ge i listed.size with h' | h'
        · simp [h'] at q0 q1
          rw [q0] at q1
          cases q1
        · simp [Array.getElem?_eq_none h'] at q1
      have h2 := wpOp_putIf hoj (hfree j oj hoj hji hjun hnot) (fun cs b => hsel i oi cs b hi) (fun cs b => hsel j oj cs b hoj) hQ hy h1
      have hfree' : ∀ k ok, ops[k]? = some ok → k ≠ i → (listed.setIfInBounds j true).getD k true = false →
          (∀ e ∈ ok.after, Region.binds md e = true → e.on ≠ i) → oi.apart ops ok = true := fun k ok hk hki hun hno => by
        refine hfree k ok hk hki ?_ hno
        by_cases hjk : j = k
        · subst hjk; exact hjun
        · rw [getD_set_ne true hjk] at hun; exact hun
      refine wpOp_mono (fun a' w' h3 => ih (listed.setIfInBounds j true) a' w' hfree' (ready_mono hr (Ne.symm hji)) h3.1 ?_) h2
      rw [Array.setIfInBounds_comm _ _ hji]
      exact h3.2

/-- The moves: an operation that may come up at once; the one that must; the end; the beginning. -/
theorem wpAnyT_take {i : Nat} {oi : Oper} {d : Option Tmp} {v : Value} {fuel : Nat} {listed : Array Bool} {a : Act} {w : World} (hi : ops[i]? = some oi) (hd : oi.dst = d)
    (hs : Region.noSelect ops = true) (hf : Region.free md ops listed i = true) (hr : (Region.ready md ops listed).contains i = true)
    (hQ : ∀ c a w, Q (.panic c) (a.put d v) w → Q (.panic c) a w) (hw : Region.wanted oi (yielded ops a.tmps) = true) (hy : ∀ w', (execOp a.eval oi).run P w' = .ok (.value v) w')
    (h : wpAnyT P md ops Q fuel (listed.setIfInBounds i true) (a.put d v) w) : wpAnyT P md ops Q (fuel + 1) listed a w := by
  subst hd
  exact wpAnyT_first hi (Region.noSelect_spec hs) hQ fuel listed a w (Region.free_spec hi hf) (by simpa using hr) (.inl ⟨hw, fun w' _ => hy w'⟩) h

theorem wpAnyT_pass {i : Nat} {oi : Oper} {d : Option Tmp} {fuel : Nat} {listed : Array Bool} {a : Act} {w : World} (hi : ops[i]? = some oi) (hd : oi.dst = d)
    (hs : Region.noSelect ops = true) (hf : Region.free md ops listed i = true) (hr : (Region.ready md ops listed).contains i = true)
    (hQ : ∀ c a w, Q (.panic c) (a.put d undef) w → Q (.panic c) a w) (hw : Region.wanted oi (yielded ops a.tmps) = false)
    (h : wpAnyT P md ops Q fuel (listed.setIfInBounds i true) (a.put d undef) w) : wpAnyT P md ops Q (fuel + 1) listed a w := by
  subst hd
  exact wpAnyT_first hi (Region.noSelect_spec hs) hQ fuel listed a w (Region.free_spec hi hf) (by simpa using hr) (.inr ⟨hw, rfl⟩) h

theorem wpAnyT_only {i : Nat} {o : Oper} {fuel : Nat} {listed : Array Bool} {a : Act} {w : World} (ho : ops[i]? = some o) (hr : Region.ready md ops listed = [i]) (hw : Region.wanted o (yielded ops a.tmps) = true)
    (h : ∀ K' : Act → World → Prop, Hid (∀ a' w', wpAnyT P md ops Q fuel (listed.setIfInBounds i true) a' w' → K' a' w') → Oper.wp P o a w K' Q) : wpAnyT P md ops Q (fuel + 1) listed a w := by
  refine ⟨fun h0 => absurd (hr ▸ h0) (by simp), fun j hj => ?_⟩
  rw [hr] at hj
  obtain rfl : j = i := by simpa using hj
  refine wpOp_step ho fun K' hK => ?_
  rw [if_pos hw]
  exact h K' fun a' w' hn => hK a' w' hn

theorem wpAnyT_two {i j : Nat} {oi oj : Oper} {fuel : Nat} {listed : Array Bool} {a : Act} {w : World} (hoi : ops[i]? = some oi) (hoj : ops[j]? = some oj) (hr : Region.ready md ops listed = [i, j])
    (hwi : Region.wanted oi (yielded ops a.tmps) = true) (hwj : Region.wanted oj (yielded ops a.tmps) = true)
    (hi : ∀ K' : Act → World → Prop, Hid (∀ a' w', wpAnyT P md ops Q fuel (listed.setIfInBounds i true) a' w' → K' a' w') → Oper.wp P oi a w K' Q)
    (hj : ∀ K' : Act → World → Prop, Hid (∀ a' w', wpAnyT P md ops Q fuel (listed.setIfInBounds j true) a' w' → K' a' w') → Oper.wp P oj a w K' Q) : wpAnyT P md ops Q (fuel + 1) listed a w := by
  refine ⟨fun h0 => absurd (hr ▸ h0) (by simp), fun k hk => ?_⟩
  rw [hr] at hk
  rcases List.mem_cons.1 hk with rfl | hk
  · refine wpOp_step hoi fun K' hK => ?_
    rw [if_pos hwi]
    exact hi K' fun a' w' hn => hK a' w' hn
  · obtain rfl : k = j := by simpa using hk
    refine wpOp_step hoj fun K' hK => ?_
    rw [if_pos hwj]
    exact hj K' fun a' w' hn => hK a' w' hn

theorem wpAnyT_done {listed : Array Bool} {a : Act} {w : World} (hr : Region.ready md ops listed = []) (h : Q .normal a w) : ∀ fuel, wpAnyT P md ops Q fuel listed a w
  | 0 => ⟨hr, h⟩
  | _ + 1 => ⟨fun _ => h, by rw [hr]; simp⟩

theorem wp_region_T {id : Nat} {a : Act} {w : World} (hm : P.follows .mixedOrders = true)
    (h : wpAnyT P .any ops Q ops.size (Array.replicate ops.size false) a w.drew) : (Code.region id ops true).wp P Q a w :=
  wp_region_any hm (wpAny_of_T _ _ _ _ h)
end

end Go.Proofs.YtaiegmhlgjogmaaGreat
/- slices.Equal at steps, the document's SameDef. -/
namespace Go.Proofs.YtaiegmhlgjogmaaGreat
open Go.RowKit

/-- The first k are alike. -/
def Alike {α : Type} (l m : List α) (k : Nat) : Prop := ∀ i, i < k → l[i]? = m[i]?
section
variable {α : Type} {l m : List α} {k : Nat}
theorem Alike.zero (l m : List α) : Alike l m 0 := fun i hi => by omega
theorem Alike.next (h : Alike l m k) (he : l[k]? = m[k]?) : Alike l m (k + 1) := fun i hi => by
  by_cases hk : i = k
  · rw [hk, he]
  · exact h i (by omega)
theorem Alike.all (h : Alike l m k) (h1 : l.length = k) (h2 : m.length = k) : l = m := by
  apply List.ext_getElem?
  intro i
  by_cases hi : i < k
  · exact h i hi
  · rw [List.getElem?_eq_none (by omega), List.getElem?_eq_none (by omega)]
theorem ne_at {x y : α} (hx : l[k]? = some x) (hy : m[k]? = some y) (hne : x ≠ y) : l ≠ m := by
  rintro rfl
  rw [hx] at hy
  exact hne (Option.some.inj hy)
end
theorem neq_step_same (s : StepD) (w : World) : (binOp .neq 166 (.agg (s.cells).toArray) (.agg (s.cells).toArray)).run Tryz.prog w = .ok (.bool false) w := by rw [neq_step]; simp
theorem neq_step_other {s t : StepD} (h : s ≠ t) (w : World) : (binOp .neq 166 (.agg (s.cells).toArray) (.agg (t.cells).toArray)).run Tryz.prog w = .ok (.bool true) w := by rw [neq_step]; simp [h]

set_option maxHeartbeats 1000000 in
theorem same_def (F G : Nat → Prop) (a1 a2 : ByteArray) (v v2 : Value) (l m : List StepD) (w : World) (hl : StepsAt F w v l) (hm : StepsAt G w v2 m) :
    Calls Tryz.prog 98 #[.agg #[.string a1, v], .agg #[.string a2, v2]] w fun e w' => e = .returned (.bool (decide (a1 = a2 ∧ l = m))) ∧ Below w.heap.size w w' := by
  obtain ⟨A, c, rfl, h1, h2, _⟩ := FlatAt.shape hl
  obtain ⟨A2, c2, rfl, h3, h4, _⟩ := FlatAt.shape hm
  unfold maxLen at h2 h4
  obtain ⟨n, hn⟩ : ∃ n, l.length = n := ⟨_, rfl⟩
  obtain ⟨n2, hn2⟩ : ∃ n2, m.length = n2 := ⟨_, rfl⟩
  rw [hn] at h1 hl ⊢
  rw [hn2] at h3 hm ⊢
  have hbw : Below w.heap.size w ((w.alloc (.cells #[.string a1, .slice A n c] 31 (0, 0))).alloc (.cells #[.string a2, .slice A2 n2 c2] 31 (0, 0))) := ((Below.refl _ _).alloc (Nat.le_refl _) _).alloc (by simp) _
  have H1 := hide (hl.kept (Kept.of_below hbw F))
  have H2 := hide (hm.kept (Kept.of_below hbw G))
  have HBW := hide hbw
  have HN := hide hn
  have HN2 := hide hn2
  clear hl hm hbw hn hn2
  by_cases ha : a1 = a2
  · subst ha
    have hs1 : (a1.toList == a1.toList) = true := by simp
    have hs2 : (a1.toList != a1.toList) = false := by simp
    by_cases hnm : n = n2
    · subst hnm
      have ht : ((n : Int) != (n : Int)) = false := by simp
      go_enter Tryz.func98, Tryz.ntmps98
      go_wp2
      have cA : ((w.alloc (.cells #[.string a1, .slice A n c] 31 (0, 0))).alloc (.cells #[.string a1, .slice A2 n c2] 31 (0, 0))).cell? ⟨w.heap.size, 1, none⟩ = some (.slice A n c) := cell_of_row _ _ 1 _ _ _ ((Below.block ((Below.refl _ _).alloc (Nat.le_refl _) _) w.heap.size (by simp)).trans (heap_alloc_new w _))
      have cB : ((w.alloc (.cells #[.string a1, .slice A n c] 31 (0, 0))).alloc (.cells #[.string a1, .slice A2 n c2] 31 (0, 0))).cell? ⟨w.heap.size + 1, 1, none⟩ = some (.slice A2 n c2) := cell_of_row _ _ 1 _ _ _ (heap_alloc2_new w _ _)
      generalize ((w.alloc (.cells #[.string a1, .slice A n c] 31 (0, 0))).alloc (.cells #[.string a1, .slice A2 n c2] 31 (0, 0))) = W at H1 H2 HBW cA cB ⊢
      go_loopw [23] (fun i wr => ∃ k : Nat, k ≤ n ∧ i = .int .i64 (k : Int) ∧ Alike l m k ∧ ∃ q, wr = W.drewN q) (fun i _ => n - (intOf i).toNat)
      case atStart => exact ⟨0, by omega, rfl, Alike.zero _ _, 0, rfl⟩
      case round =>
        obtain ⟨k, hk, rfl, hup, q, rfl⟩ := hrel
        have HU := hide hup
        clear hup
        by_cases hkn : k < n
        · obtain ⟨x, b, off, c', hx, hv, _, _, _, hr⟩ := StepsAt.at_ H1.out (i := k) (by rw [HN.out]; exact hkn)
          rw [HN.out] at hv
          obtain ⟨rfl, rfl⟩ : A = some ⟨b, off, none⟩ ∧ c = c' := by injection hv with e1 _ e3; exact ⟨e1, e3⟩
          obtain ⟨y, b2, off2, c2', hy, hv2, _, _, _, hr2⟩ := StepsAt.at_ H2.out (i := k) (by rw [HN2.out]; exact hkn)
          rw [HN2.out] at hv2
          obtain ⟨rfl, rfl⟩ : A2 = some ⟨b2, off2, none⟩ ∧ c2 = c2' := by injection hv2 with e1 _ e3; exact ⟨e1, e3⟩
          obtain ⟨r0, r1, r2, r3, r4, r5⟩ := range_step hr
          obtain ⟨s0, s1, s2, s3, s4, s5⟩ := range_step hr2
          have HX := hide hx
          have HY := hide hy
          clear hx hy hv hv2 hr hr2
          by_cases he : x = y
          · subst he
            have hq := fun w => neq_step_same x w
            simp only [StepD.cells] at hq
            go_wp2
            go_quiet (fail)
            go_wp2
            go_roundw
            case rel => exact ⟨k + 1, by omega, by go_num, HU.out.next (HX.out.trans HY.out.symm), _, rfl⟩
            case measure => simp [intOf]; omega
          · have hq := fun w => neq_step_other he w
            simp only [StepD.cells] at hq
            have HE := hide (ne_at HX.out HY.out he)
            clear he
            go_wp2
            go_quiet (fail)
            go_wp2
            go_ret
            exact ⟨ret_bool (by simp [HE.out]), HBW.out.trans ((below_drewN _ _ _).trans (below_drewN _ _ _))⟩
        · go_wp2
          go_ret
          exact ⟨ret_bool (by simp [HU.out.all (by have := HN.out; omega) (by have := HN2.out; omega)]), HBW.out.trans (below_drewN _ _ _)⟩
    · have ht : ((n : Int) != (n2 : Int)) = true := by simp; omega
      have HE : Hid (l ≠ m) := by
        rintro rfl
        exact hnm (HN.out.symm.trans HN2.out)
      go_enter Tryz.func98, Tryz.ntmps98
      go_wp2
      go_ret
      exact ⟨ret_bool (by simp [HE.out]), HBW.out⟩
  · have hs0 : (a1.toList == a2.toList) = false := by rw [str_eq]; simpa using ha
    have hs1 : (a1.toList != a2.toList) = true := by unfold bne; rw [hs0]; rfl
    have HE := hide ha
    clear ha
    go_enter Tryz.func98, Tryz.ntmps98
    go_wp2
    go_ret
    exact ⟨ret_bool (by simp [HE.out]), HBW.out⟩
end Go.Proofs.YtaiegmhlgjogmaaGreat
/- The document's SameOp. -/
namespace Go.Proofs.YtaiegmhlgjogmaaGreat
open Go.RowKit

theorem op_iff (x y : OpD) : x = y ↔ x.kind = y.kind ∧ x.client = y.client ∧ x.request = y.request ∧ (x.name = y.name ∧ x.steps = y.steps) ∧ x.saga = y.saga ∧ x.step = y.step ∧ x.try_ = y.try_ ∧ x.back = y.back ∧ x.good = y.good := by
  cases x
  cases y
  simp [and_assoc]

set_option maxHeartbeats 1000000 in
set_option maxRecDepth 100000 in
theorem same_op (F G : Nat → Prop) (v v2 : Value) (x y : OpD) (w : World) (hl : StepsAt F w v x.steps) (hm : StepsAt G w v2 y.steps) :
    Calls Tryz.prog 50 #[.agg (x.cells v).toArray, .agg (y.cells v2).toArray] w fun e w' => e = .returned (.bool (decide (x = y))) ∧ Below w.heap.size w w' := by
  obtain ⟨q0, h0⟩ : ∃ q, (x.kind == y.kind) = q := ⟨_, rfl⟩
  obtain ⟨q1, h1⟩ : ∃ q, (x.client == y.client) = q := ⟨_, rfl⟩
  obtain ⟨q2, h2⟩ : ∃ q, (x.request == y.request) = q := ⟨_, rfl⟩
  obtain ⟨q3, h3⟩ : ∃ q, decide (x.name = y.name ∧ x.steps = y.steps) = q := ⟨_, rfl⟩
  obtain ⟨q4, h4⟩ : ∃ q, (x.saga == y.saga) = q := ⟨_, rfl⟩
  obtain ⟨q5, h5⟩ : ∃ q, (x.step == y.step) = q := ⟨_, rfl⟩
  obtain ⟨q6, h6⟩ : ∃ q, (x.try_ == y.try_) = q := ⟨_, rfl⟩
  obtain ⟨q7, h7⟩ : ∃ q, (x.back == y.back) = q := ⟨_, rfl⟩
  obtain ⟨q8, h8⟩ : ∃ q, (x.good == y.good) = q := ⟨_, rfl⟩
  have HALL : Hid (decide (x = y) = (q0 && (q1 && (q2 && (q3 && (q4 && (q5 && (q6 && (q7 && q8))))))))) := by
    show _ = _
    rw [← h0, ← h1, ← h2, ← h3, ← h4, ← h5, ← h6, ← h7, ← h8, Bool.eq_iff_iff, decide_eq_true_eq, op_iff]
    simp
  have C := hide (fun w' (hb : Below w.heap.size w w') => same_def F G x.name y.name v v2 x.steps y.steps w' (hl.kept (Kept.of_below hb F)) (hm.kept (Kept.of_below hb G)))
  rw [h3] at C
  clear h3
  have H1 := FlatAt.oneCell hl
  have H2 := FlatAt.oneCell hm
  clear hl hm
  unfold OpD.cells
  have hbw : Below w.heap.size w ((w.alloc (.cells (x.cells v).toArray 33 (0, 0))).alloc (.cells (y.cells v2).toArray 33 (0, 0))) := ((Below.refl _ _).alloc (Nat.le_refl _) _).alloc (by simp) _
  have HBW := hide hbw
  have B1 : Hid (∀ w' : World, Below (w.heap.size + 2) ((w.alloc (.cells (x.cells v).toArray 33 (0, 0))).alloc (.cells (y.cells v2).toArray 33 (0, 0))) w' → w'.heap[w.heap.size]? = some (.cells (x.cells v).toArray 33 (0, 0)) ∧ w'.heap[w.heap.size + 1]? = some (.cells (y.cells v2).toArray 33 (0, 0))) := fun w' hb =>
    ⟨(hb.block _ (by omega)).trans ((Below.block ((Below.refl _ _).alloc (Nat.le_refl _) _) w.heap.size (by simp)).trans (heap_alloc_new w _)), (hb.block _ (by omega)).trans (heap_alloc2_new w _ _)⟩
  clear hbw
  unfold OpD.cells at HBW B1
  go_enter Tryz.func50, Tryz.ntmps50
  go_wp2_with (fail)
  all_goals (try (go_ret; exact ⟨ret_bool (by rw [HALL.out]; simp [*]), HBW.out⟩))
  refine (C.out _ HBW.out).mono ?_
  rintro e w1 ⟨rfl, hb1⟩
  have HB1 := hide (HBW.out.trans (hb1.mono HBW.out.size))
  obtain ⟨hx, hy⟩ := B1.out w1 (hb1.mono (by simp))
  obtain ⟨x0, x1, x2, x3, x4, x5, x6, x7, x8, x9⟩ := box10 hx
  obtain ⟨y0, y1, y2, y3, y4, y5, y6, y7, y8, y9⟩ := box10 hy
  clear hb1 hx hy x0 x1 x2 x3 x4 y0 y1 y2 y3 y4
  go_wp2_with (fail)
  all_goals (try (go_ret; exact ⟨ret_bool (by rw [HALL.out]; simp [*]), HB1.out⟩))
end Go.Proofs.YtaiegmhlgjogmaaGreat
/- The document's SameOps. -/
namespace Go.Proofs.YtaiegmhlgjogmaaGreat
open Go.RowKit

theorem map_at {α β : Type} {f : α → β} {ps : List α} {l : List β} (h : ps.map f = l) {k : Nat} {x : α} (hx : ps[k]? = some x) : l[k]? = some (f x) := by
  rw [← h, List.getElem?_map, hx]
  rfl

set_option maxHeartbeats 2000000 in
set_option maxRecDepth 100000 in
theorem same_ops (F G : Nat → Prop) (v v2 : Value) (l m : List OpD) (w : World) (hl : OpsAt F w v l) (hm : OpsAt G w v2 m) :
    Calls Tryz.prog 31 #[v, v2] w fun e w' => e = .returned (.bool (decide (l = m))) ∧ Below w.heap.size w w' := by
  obtain ⟨ps, hps, hl⟩ := hl
  obtain ⟨ps2, hps2, hm⟩ := hm
  obtain ⟨A, c, rfl, h1, h2, _⟩ := FlatAt.shape hl.1
  obtain ⟨A2, c2, rfl, h3, h4, _⟩ := FlatAt.shape hm.1
  unfold maxLen at h2 h4
  obtain ⟨n, hn⟩ : ∃ n, ps.length = n := ⟨_, rfl⟩
  obtain ⟨n2, hn2⟩ : ∃ n2, ps2.length = n2 := ⟨_, rfl⟩
  rw [hn] at h1 hl ⊢
  rw [hn2] at h3 hm ⊢
  have H1 := hide hl
  have H2 := hide hm
  have HN := hide hn
  have HN2 := hide hn2
  have HP := hide hps
  have HP2 := hide hps2
  have HLN : Hid (l.length = n) := by show _ = _; rw [← hps, List.length_map, hn]
  have HMN : Hid (m.length = n2) := by show _ = _; rw [← hps2, List.length_map, hn2]
  clear hl hm hn hn2 hps hps2
  by_cases hnm : n = n2
  · subst hnm
    have ht : ((n : Int) != (n : Int)) = false := by simp
    go_enter Tryz.func31, Tryz.ntmps31
    go_wp2
    go_loopw [13] (fun i wr => ∃ k : Nat, k ≤ n ∧ i = .int .i64 (k : Int) ∧ Alike l m k ∧ Later w wr) (fun i _ => n - (intOf i).toNat)
    case atStart => exact ⟨0, by omega, rfl, Alike.zero _ _, Later.refl _⟩
    case round =>
      obtain ⟨k, hk, rfl, hup, hb⟩ := hrel
      have HU := hide hup
      have HB := hide hb
      clear hup hb
      by_cases hkn : k < n
      · obtain ⟨x, s, b, off, c', hx, hv, _, _, _, hr, hs⟩ := OpsIn.at_ (H1.out.kept (Kept.of_below HB.out F)) (i := k) (by rw [HN.out]; exact hkn)
        rw [HN.out] at hv
        obtain ⟨rfl, rfl⟩ : A = some ⟨b, off, none⟩ ∧ c = c' := by injection hv with e1 _ e3; exact ⟨e1, e3⟩
        obtain ⟨y, s2, b2, off2, c2', hy, hv2, _, _, _, hr2, hs2⟩ := OpsIn.at_ (H2.out.kept (Kept.of_below HB.out G)) (i := k) (by rw [HN2.out]; exact hkn)
        rw [HN2.out] at hv2
        obtain ⟨rfl, rfl⟩ : A2 = some ⟨b2, off2, none⟩ ∧ c2 = c2' := by injection hv2 with e1 _ e3; exact ⟨e1, e3⟩
        have HX := hide (map_at HP.out hx)
        have HY := hide (map_at HP2.out hy)
        have RX : Hid (∀ w' : World, Later wr w' → w'.rangeAt b (off + k * 10) (x.cells s)) := fun w' hb j u hu => by
          have hr' := hr j u hu
          exact (World.cell?_of_block (Below.block hb b (by assumption))).trans hr'
        have RY : Hid (∀ w' : World, Later wr w' → w'.rangeAt b2 (off2 + k * 10) (y.cells s2)) := fun w' hb j u hu => by
          have hr' := hr2 j u hu
          exact (World.cell?_of_block (Below.block hb b2 (by assumption))).trans hr'
        have C := hide (fun w' (hb : Later wr w') => same_op F G s s2 x y w' (hs.kept (Kept.of_below hb F)) (hs2.kept (Kept.of_below hb G)))
        have L0 : Hid (Later wr wr.drew) := Later.drew _
        clear hx hy hv hv2 hr hr2 hs hs2
        by_cases he : x = y
        · have hd : decide (x = y) = true := decide_eq_true he
          have HE := hide he
          clear he
          rw [hd] at C
          clear hd
          go_wp2
          refine wp_region_L (by kernel_rfl) ?_
          refine wpAnyL_take (i := 0) (d := some 16) (v := ?vap0) rfl rfl (by kernel_rfl) (by kernel_rfl) (by kernel_rfl) (fun _ _ _ h => h) (by rfl) ?yap0 ?_
          case yap0 => (intro w' hw'; go_simp; try (with_reducible rfl))
          simp only [Act.put, List.setIfInBounds_toArray, List.set_cons_zero, List.set_cons_succ]
          refine wpAnyL_take (i := 1) (d := some 17) (v := ?vap1) rfl rfl (by kernel_rfl) (by kernel_rfl) (by kernel_rfl) (fun _ _ _ h => h) (by rfl) ?yap1 ?_
          case yap1 => (intro w' hw'; go_simp; try (with_reducible rfl))
          simp only [Act.put, List.setIfInBounds_toArray, List.set_cons_zero, List.set_cons_succ]
          refine wpAnyL_take (i := 2) (d := some 18) (v := ?vap2) rfl rfl (by kernel_rfl) (by kernel_rfl) (by kernel_rfl) (fun _ _ _ h => h) (by rfl) ?yap2 ?_
          case yap2 => (intro w' hw'; go_simp; try (with_reducible rfl))
          simp only [Act.put, List.setIfInBounds_toArray, List.set_cons_zero, List.set_cons_succ]
          refine wpAnyL_take (i := 3) (d := some 19) (v := ?vap3) rfl rfl (by kernel_rfl) (by kernel_rfl) (by kernel_rfl) (fun _ _ _ h => h) (by rfl) ?yap3 ?_
          case yap3 => (intro w' hw'; obtain ⟨r0, r1, r2, r3, r4, r5, r6, r7, r8, r9⟩ := range_op (RX.out w' (L0.out.trans hw')); go_simp; try (with_reducible rfl))
          simp only [Act.put, List.setIfInBounds_toArray, List.set_cons_zero, List.set_cons_succ]
          refine wpAnyL_take (i := 4) (d := some 20) (v := ?vap4) rfl rfl (by kernel_rfl) (by kernel_rfl) (by kernel_rfl) (fun _ _ _ h => h) (by rfl) ?yap4 ?_
          case yap4 => (intro w' hw'; go_simp; try (with_reducible rfl))
          simp only [Act.put, List.setIfInBounds_toArray, List.set_cons_zero, List.set_cons_succ]
          refine wpAnyL_take (i := 5) (d := some 21) (v := ?vap5) rfl rfl (by kernel_rfl) (by kernel_rfl) (by kernel_rfl) (fun _ _ _ h => h) (by rfl) ?yap5 ?_
          case yap5 => (intro w' hw'; go_simp; try (with_reducible rfl))
          simp only [Act.put, List.setIfInBounds_toArray, List.set_cons_zero, List.set_cons_succ]
          refine wpAnyL_take (i := 6) (d := some 22) (v := ?vap6) rfl rfl (by kernel_rfl) (by kernel_rfl) (by kernel_rfl) (fun _ _ _ h => h) (by rfl) ?yap6 ?_
          case yap6 => (intro w' hw'; go_simp; try (with_reducible rfl))
          simp only [Act.put, List.setIfInBounds_toArray, List.set_cons_zero, List.set_cons_succ]
          refine wpAnyL_take (i := 7) (d := some 23) (v := ?vap7) rfl rfl (by kernel_rfl) (by kernel_rfl) (by kernel_rfl) (fun _ _ _ h => h) (by rfl) ?yap7 ?_
          case yap7 => (intro w' hw'; obtain ⟨r0, r1, r2, r3, r4, r5, r6, r7, r8, r9⟩ := range_op (RY.out w' (L0.out.trans hw')); go_simp; try (with_reducible rfl))
          simp only [Act.put, List.setIfInBounds_toArray, List.set_cons_zero, List.set_cons_succ]
          refine wpAnyL_only (i := 8) rfl (by kernel_rfl) (by rfl) fun K hK => ?_
          go_simp
          refine (C.out _ L0.out).mono ?_
          rintro e w8 ⟨rfl, hb8⟩
          have L8 : Hid (Later wr w8) := L0.out.trans hb8
          have HB8 := hide hb8
          clear hb8
          refine hK.out _ _ HB8.out ?_
          clear hK K
          try simp only [Act.put, List.setIfInBounds_toArray, List.set_cons_zero, List.set_cons_succ]
          refine wpAnyL_take (i := 9) (d := some 25) (v := ?vap9) rfl rfl (by kernel_rfl) (by kernel_rfl) (by kernel_rfl) (fun _ _ _ h => h) (by rfl) ?yap9 ?_
          case yap9 => (intro w' hw'; go_simp; try (with_reducible rfl))
          simp only [Act.put, List.setIfInBounds_toArray, List.set_cons_zero, List.set_cons_succ]
          refine wpAnyL_done (by kernel_rfl) ?_ _
          go_wp2
          go_roundw
          case rel => exact ⟨k + 1, by omega, by go_num, HU.out.next (HX.out.trans (by rw [HE.out]; exact HY.out.symm)), HB.out.trans L8.out⟩
          case measure => simp [intOf]; omega
        · have hd : decide (x = y) = false := decide_eq_false he
          have HE := hide (ne_at HX.out HY.out he)
          clear he
          rw [hd] at C
          clear hd
          go_wp2
          refine wp_region_L (by kernel_rfl) ?_
          refine wpAnyL_take (i := 0) (d := some 16) (v := ?vaq0) rfl rfl (by kernel_rfl) (by kernel_rfl) (by kernel_rfl) (fun _ _ _ h => h) (by rfl) ?yaq0 ?_
          case yaq0 => (intro w' hw'; go_simp; try (with_reducible rfl))
          simp only [Act.put, List.setIfInBounds_toArray, List.set_cons_zero, List.set_cons_succ]
          refine wpAnyL_take (i := 1) (d := some 17) (v := ?vaq1) rfl rfl (by kernel_rfl) (by kernel_rfl) (by kernel_rfl) (fun _ _ _ h => h) (by rfl) ?yaq1 ?_
          case yaq1 => (intro w' hw'; go_simp; try (with_reducible rfl))
          simp only [Act.put, List.setIfInBounds_toArray, List.set_cons_zero, List.set_cons_succ]
          refine wpAnyL_take (i := 2) (d := some 18) (v := ?vaq2) rfl rfl (by kernel_rfl) (by kernel_rfl) (by kernel_rfl) (fun _ _ _ h => h) (by rfl) ?yaq2 ?_
          case yaq2 => (intro w' hw'; go_simp; try (with_reducible rfl))
          simp only [Act.put, List.setIfInBounds_toArray, List.set_cons_zero, List.set_cons_succ]
          refine wpAnyL_take (i := 3) (d := some 19) (v := ?vaq3) rfl rfl (by kernel_rfl) (by kernel_rfl) (by kernel_rfl) (fun _ _ _ h => h) (by rfl) ?yaq3 ?_
          case yaq3 => (intro w' hw'; obtain ⟨r0, r1, r2, r3, r4, r5, r6, r7, r8, r9⟩ := range_op (RX.out w' (L0.out.trans hw')); go_simp; try (with_reducible rfl))
          simp only [Act.put, List.setIfInBounds_toArray, List.set_cons_zero, List.set_cons_succ]
          refine wpAnyL_take (i := 4) (d := some 20) (v := ?vaq4) rfl rfl (by kernel_rfl) (by kernel_rfl) (by kernel_rfl) (fun _ _ _ h => h) (by rfl) ?yaq4 ?_
          case yaq4 => (intro w' hw'; go_simp; try (with_reducible rfl))
          simp only [Act.put, List.setIfInBounds_toArray, List.set_cons_zero, List.set_cons_succ]
          refine wpAnyL_take (i := 5) (d := some 21) (v := ?vaq5) rfl rfl (by kernel_rfl) (by kernel_rfl) (by kernel_rfl) (fun _ _ _ h => h) (by rfl) ?yaq5 ?_
          case yaq5 => (intro w' hw'; go_simp; try (with_reducible rfl))
          simp only [Act.put, List.setIfInBounds_toArray, List.set_cons_zero, List.set_cons_succ]
          refine wpAnyL_take (i := 6) (d := some 22) (v := ?vaq6) rfl rfl (by kernel_rfl) (by kernel_rfl) (by kernel_rfl) (fun _ _ _ h => h) (by rfl) ?yaq6 ?_
          case yaq6 => (intro w' hw'; go_simp; try (with_reducible rfl))
          simp only [Act.put, List.setIfInBounds_toArray, List.set_cons_zero, List.set_cons_succ]
          refine wpAnyL_take (i := 7) (d := some 23) (v := ?vaq7) rfl rfl (by kernel_rfl) (by kernel_rfl) (by kernel_rfl) (fun _ _ _ h => h) (by rfl) ?yaq7 ?_
          case yaq7 => (intro w' hw'; obtain ⟨r0, r1, r2, r3, r4, r5, r6, r7, r8, r9⟩ := range_op (RY.out w' (L0.out.trans hw')); go_simp; try (with_reducible rfl))
          simp only [Act.put, List.setIfInBounds_toArray, List.set_cons_zero, List.set_cons_succ]
          refine wpAnyL_only (i := 8) rfl (by kernel_rfl) (by rfl) fun K hK => ?_
          go_simp
          refine (C.out _ L0.out).mono ?_
          rintro e w8 ⟨rfl, hb8⟩
          have L8 : Hid (Later wr w8) := L0.out.trans hb8
          have HB8 := hide hb8
          clear hb8
          refine hK.out _ _ HB8.out ?_
          clear hK K
          try simp only [Act.put, List.setIfInBounds_toArray, List.set_cons_zero, List.set_cons_succ]
          refine wpAnyL_take (i := 9) (d := some 25) (v := ?vaq9) rfl rfl (by kernel_rfl) (by kernel_rfl) (by kernel_rfl) (fun _ _ _ h => h) (by rfl) ?yaq9 ?_
          case yaq9 => (intro w' hw'; go_simp; try (with_reducible rfl))
          simp only [Act.put, List.setIfInBounds_toArray, List.set_cons_zero, List.set_cons_succ]
          refine wpAnyL_done (by kernel_rfl) ?_ _
          go_wp2
          go_ret
          exact ⟨ret_bool (by simp [HE.out]), HB.out.trans L8.out⟩
      · go_wp2
        go_ret
        exact ⟨ret_bool (by simp [HU.out.all (by have := HLN.out; omega) (by have := HMN.out; omega)]), HB.out⟩
  · have ht : ((n : Int) != (n2 : Int)) = true := by simp; omega
    have HE : Hid (l ≠ m) := by
      rintro rfl
      exact hnm (HLN.out.symm.trans HMN.out)
    go_enter Tryz.func31, Tryz.ntmps31
    go_wp2
    go_ret
    exact ⟨ret_bool (by simp [HE.out]), Below.refl _ _⟩
end Go.Proofs.YtaiegmhlgjogmaaGreat
/- slices.Equal at steps. -/
namespace Go.Proofs.YtaiegmhlgjogmaaGreat
open Go.RowKit

set_option maxHeartbeats 1000000 in
theorem equal_steps (F G : Nat → Prop) (v v2 : Value) (l m : List StepD) (w : World) (hl : StepsAt F w v l) (hm : StepsAt G w v2 m) :
    Calls Tryz.prog 236 #[v, v2] w fun e w' => e = .returned (.bool (decide (l = m))) ∧ ∃ q, w' = w.drewN q := by
  obtain ⟨A, c, rfl, h1, h2, _⟩ := FlatAt.shape hl
  obtain ⟨A2, c2, rfl, h3, h4, _⟩ := FlatAt.shape hm
  unfold maxLen at h2 h4
  obtain ⟨n, hn⟩ : ∃ n, l.length = n := ⟨_, rfl⟩
  obtain ⟨n2, hn2⟩ : ∃ n2, m.length = n2 := ⟨_, rfl⟩
  rw [hn] at h1 hl ⊢
  rw [hn2] at h3 hm ⊢
  have H1 := hide hl
  have H2 := hide hm
  have HN := hide hn
  have HN2 := hide hn2
  clear hl hm hn hn2
  by_cases hnm : n = n2
  · subst hnm
    have ht : ((n : Int) != (n : Int)) = false := by simp
    go_enter Tryz.func236, Tryz.ntmps236
    go_wp2
    go_loopw [13] (fun i wr => ∃ k : Nat, k ≤ n ∧ i = .int .i64 (k : Int) ∧ Alike l m k ∧ ∃ q, wr = w.drewN q) (fun i _ => n - (intOf i).toNat)
    case atStart => exact ⟨0, by omega, rfl, Alike.zero _ _, 0, rfl⟩
    case round =>
      obtain ⟨k, hk, rfl, hup, q, rfl⟩ := hrel
      have HU := hide hup
      clear hup
      by_cases hkn : k < n
      · obtain ⟨x, b, off, c', hx, hv, _, _, _, hr⟩ := StepsAt.at_ H1.out (i := k) (by rw [HN.out]; exact hkn)
        rw [HN.out] at hv
        obtain ⟨rfl, rfl⟩ : A = some ⟨b, off, none⟩ ∧ c = c' := by injection hv with e1 _ e3; exact ⟨e1, e3⟩
        obtain ⟨y, b2, off2, c2', hy, hv2, _, _, _, hr2⟩ := StepsAt.at_ H2.out (i := k) (by rw [HN2.out]; exact hkn)
        rw [HN2.out] at hv2
        obtain ⟨rfl, rfl⟩ : A2 = some ⟨b2, off2, none⟩ ∧ c2 = c2' := by injection hv2 with e1 _ e3; exact ⟨e1, e3⟩
        obtain ⟨r0, r1, r2, r3, r4, r5⟩ := range_step hr
        obtain ⟨s0, s1, s2, s3, s4, s5⟩ := range_step hr2
        have HX := hide hx
        have HY := hide hy
        clear hx hy hv hv2 hr hr2
        by_cases he : x = y
        · subst he
          have hq := fun w => neq_step_same x w
          simp only [StepD.cells] at hq
          go_wp2
          go_quiet (fail)
          go_wp2
          go_roundw
          case rel => exact ⟨k + 1, by omega, by go_num, HU.out.next (HX.out.trans HY.out.symm), _, rfl⟩
          case measure => simp [intOf]; omega
        · have hq := fun w => neq_step_other he w
          simp only [StepD.cells] at hq
          have HE := hide (ne_at HX.out HY.out he)
          clear he
          go_wp2
          go_quiet (fail)
          go_wp2
          go_ret
          exact ⟨ret_bool (by simp [HE.out]), _, World.drewN_drewN _ _ _⟩
      · go_wp2
        go_ret
        exact ⟨ret_bool (by simp [HU.out.all (by have := HN.out; omega) (by have := HN2.out; omega)]), _, rfl⟩
  · have ht : ((n : Int) != (n2 : Int)) = true := by simp; omega
    have HE : Hid (l ≠ m) := by
      rintro rfl
      exact hnm (HN.out.symm.trans HN2.out)
    go_enter Tryz.func236, Tryz.ntmps236
    go_wp2
    go_ret
    exact ⟨ret_bool (by simp [HE.out]), 0, rfl⟩
end Go.Proofs.YtaiegmhlgjogmaaGreat
