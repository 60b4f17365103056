/- A map keyed by integers, whatever its elements: what it holds, as the list of its keys, rising, with the values as they stand. -/
import Derived.Test.YtaimnhlpdkpobaaMem
import Derived.Maps.OwnSet
import Derived.Shelf.SlIterI.Nil
namespace Go.Proofs.Ytaimnhlpdkpobaa
open Go.RowKit

/-- An element reads as the value that it is. -/
def heldR (v : Value) : Option (DataW Value × List MemPlace) := some (.held v, [])
/-- The datum of a map of these keys and values. -/
def mapD (L : List (Int × Value)) : DataW Value := .map (L.map fun p => (.int .i64 p.1, .held p.2))

theorem has_mapD (L : List (Int × Value)) (a : Int) : Maps.has (mapD L) (.int .i64 a) = L.any (fun p => p.1 == a) := by
  unfold mapD
  rw [Maps.has_eq, List.any_map]
  congr 1
  funext p
  simp [Lit.sameKey, Function.comp]
  rfl
theorem size_mapD (L : List (Int × Value)) : Maps.size (mapD L) = L.length := by simp [mapD, Maps.size]
theorem find_mapD (L : List (Int × Value)) (a : Int) : (L.map fun p : Int × Value => ((.int .i64 p.1, .held p.2) : Lit × DataW Value)).find? (fun p => p.1.sameKey (.int .i64 a)) = (L.find? (fun p => p.1 == a)).map fun p => (.int .i64 p.1, .held p.2) := by
  rw [List.find?_map]
  congr 2
  funext p
  simp [Lit.sameKey, Function.comp]
  rfl
theorem at_mapD (L : List (Int × Value)) (a : Int) (z : DataW Value) : (mapD L).atKey (.int .i64 a) z = match L.find? (fun p => p.1 == a) with | some p => .held p.2 | none => z := by
  unfold mapD DataW.atKey
  simp only [find_mapD]
  cases L.find? (fun p => p.1 == a) <;> rfl
theorem insert_last (x : Lit × DataW Value) : ∀ l : List (Lit × DataW Value), (∀ p ∈ l, x.1.before p.1 = false) → DataW.insert x l = l ++ [x]
  | [], _ => rfl
  | y :: r, h => by
    unfold DataW.insert
    rw [if_neg (by rw [h y (by simp)]; simp), insert_last x r (fun p hp => h p (by simp [hp]))]
    rfl
theorem put_mapD (L : List (Int × Value)) (a : Int) (v : Value) (h : ∀ p ∈ L, p.1 < a) : (mapD L).put (.int .i64 a) (.held v) = mapD (L ++ [(a, v)]) := by
  unfold mapD
  show DataW.map (DataW.insert _ _) = _
  have e : (L.map fun p : Int × Value => ((.int .i64 p.1, .held p.2) : Lit × DataW Value)).filter (fun p => !p.1.sameKey (.int .i64 a)) = L.map fun p => (.int .i64 p.1, .held p.2) := by
    rw [List.filter_eq_self]
    intro p hp
    obtain ⟨q, hq, rfl⟩ := List.mem_map.1 hp
    have := h q hq
    simp [Lit.sameKey]
    omega
  rw [e, insert_last]
  · simp
  · intro p hp
    obtain ⟨q, hq, rfl⟩ := List.mem_map.1 hp
    have := h q hq
    simp [Lit.before]
    omega
theorem del_mapD (L : List (Int × Value)) (a : Int) : (mapD L).del (.int .i64 a) = mapD (L.filter fun p => !(p.1 == a)) := by
  unfold mapD
  show DataW.map _ = _
  rw [List.filter_map]
  congr 2
  congr 1
  funext p
  simp [Lit.sameKey, Function.comp]
  rfl

section
variable {P : Program} {w : World} {ops : Array Oper} {rest : List Oper} {o : Oper} {a : Act} {Q : Exit → Act → World → Prop}
/-- What a look-up finds: the value at that key, or the zero value. -/
def foundIn (L : List (Int × Value)) (z : Value) (key : Int) : Value × Bool := match L.find? (fun p => p.1 == key) with | some p => (p.2, true) | none => (z, false)
theorem look_held (c : Bool) {k e t : TypeId} (K : Maps.Keyed P k) (ht : P.underlying t = some (.map k e)) {z : Value} (hz : (zeroValue e).run P w = .ok z w) {b n : Nat} {L : List (Int × Value)} (hown : w.ownsMap P k heldR b n (mapD L)) {key : Int}
    (hkey : keyOf P k (Value.int .i64 key) = some (Lit.int .i64 key)) :
    (Instr.lookup t (.map (some b)) (.int .i64 key) c).run P w = .ok (if c then .tuple #[(foundIn L z key).1, .bool (foundIn L z key).2] else (foundIn L z key).1) w := by
  have hh := has_mapD L key
  have hat := at_mapD L key (.held z)
  have hf : (L.any fun p => p.1 == key) = (L.find? (fun p => p.1 == key)).isSome := by
    rw [Bool.eq_iff_iff, List.find?_isSome]
    simp [List.any_eq_true]
  cases c with
  | true =>
    obtain ⟨v, ps, hr, hv⟩ := hown.look_ok K ht hz (zd := .held z) (zp := []) rfl hkey
    rw [hat] at hv
    rw [hr, hh, hf]
    unfold foundIn
    cases h : L.find? (fun p => p.1 == key) with
    | some p => rw [h] at hv; simp only [heldR, Option.some.injEq, Prod.mk.injEq, DataW.held.injEq] at hv; simp [hv.1]
    | none => rw [h] at hv; simp only [heldR, Option.some.injEq, Prod.mk.injEq, DataW.held.injEq] at hv; simp [hv.1]
  | false =>
    obtain ⟨v, ps, hr, hv⟩ := hown.lookup K ht hz (zd := .held z) (zp := []) rfl hkey
    rw [hat] at hv
    rw [hr]
    unfold foundIn
    cases h : L.find? (fun p => p.1 == key) with
    | some p => rw [h] at hv; simp only [heldR, Option.some.injEq, Prod.mk.injEq, DataW.held.injEq] at hv; simp [hv.1]
    | none => rw [h] at hv; simp only [heldR, Option.some.injEq, Prod.mk.injEq, DataW.held.injEq] at hv; simp [hv.1]
/-- 'v, ok := m[k]', at the operation. -/
theorem wpList_lookup_held (hg : o.guard = none) (m x : Operand) (t : TypeId) (hop : o.op = Op.lookup t m x true)
    (k e : TypeId) (K : Maps.Keyed P k) (ht : P.underlying t = some (.map k e)) (z : Value) (hz : (zeroValue e).run P w = .ok z w) (b n : Nat) (L : List (Int × Value))
    (hm : a.eval m = .map (some b)) (hown : w.ownsMap P k heldR b n (mapD L)) (key : Int) (hx : a.eval x = .int .i64 key) (hkey : keyOf P k (Value.int .i64 key) = some (Lit.int .i64 key))
    (v : Value) (ok : Bool) (hres : foundIn L z key = (v, ok)) (hK : wpList P ops Q rest (a.put o.dst (.tuple #[v, .bool ok])) w) : wpList P ops Q (o :: rest) a w := by
  refine wpList_plain hg fun K' hK' => ?_
  have hr := look_held true K ht hz hown hkey
  rw [hres] at hr
  unfold Oper.wp
  simp [execOp, hop, hm, hx, hr, Result.andThen]
  exact hK' _ _ hK
/-- 'm[k] = v' at a key above all others, at an operation of a region that draws its order. -/
theorem wp_mapUpdate_held {K : Act → World → Prop} (m x v : Operand) (t : TypeId) (hop : o.op = Op.mapUpdate t m x v) (k e : TypeId) (Kd : Maps.Keyed P k) (ht : P.underlying t = some (.map k e)) (b n : Nat) (L : List (Int × Value))
    (hm : a.eval m = .map (some b)) (hown : w.ownsMap P k heldR b n (mapD L)) (hn : n < maxLen) (key : Int) (val : Value) (hx : a.eval x = .int .i64 key) (hv : a.eval v = val) (hkey : keyOf P k (Value.int .i64 key) = some (Lit.int .i64 key))
    (hL : ∀ p ∈ L, p.1 < key) (hK : ∀ w', w'.ownsMap P k heldR b (n + 1) (mapD (L ++ [(key, val)])) → w.mapTurned w' b → K (a.put o.dst undef) w') : Oper.wp P o a w K Q := by
  obtain ⟨w', hrun, r1, r2⟩ := hown.store Kd ht hn hkey (val := val) (d := .held val) (ps := []) rfl
  rw [put_mapD L key val hL] at r1
  unfold Oper.wp
  simp [execOp, hop, hm, hx, hv, hrun, Result.andThen]
  exact hK w' r1 r2
end
end Go.Proofs.Ytaimnhlpdkpobaa
