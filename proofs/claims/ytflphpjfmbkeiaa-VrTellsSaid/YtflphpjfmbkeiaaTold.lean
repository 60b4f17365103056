/- The answers to one who recovers, as data: of each node the place of its last one, the greatest view that was told, and what is gone on from. -/
import Derived.Test.YtflphpjfmbkeiaaMsgs
import Derived.Test.YtflphpjfmbkeiaaLead
import Derived.Maps.RangeWalk
namespace Go.Proofs.Ytflphpjfmbkeiaa
open Go.RowKit

/-- Is it an answer to that nonce? -/
def hitB (nonce : Int) (m : MsgD) : Bool := decide (m.kind = 10) && decide (m.nonce = nonce)
def insT (x : Int) (i : Nat) : List (Int × Nat) → List (Int × Nat)
  | [] => [(x, i)]
  | y :: r => if x < y.1 then (x, i) :: y :: r else y :: insT x i r
def putT (x : Int) (i : Nat) (t : List (Int × Nat)) : List (Int × Nat) := insT x i (t.filter fun p => !(p.1 == x))
/-- Of each node the place of its last answer among the first k messages, rising by node. -/
def toldT (l : List MsgD) (nonce : Int) : Nat → List (Int × Nat)
  | 0 => []
  | k + 1 => match l[k]? with
    | some m => if hitB nonce m then putT m.src k (toldT l nonce k) else toldT l nonce k
    | none => toldT l nonce k
theorem toldT_hit {l : List MsgD} {nonce : Int} {k : Nat} {m : MsgD} (h : l[k]? = some m) (hm : hitB nonce m = true) : toldT l nonce (k + 1) = putT m.src k (toldT l nonce k) := by
  rw [toldT, h]
  simp [hm]
theorem toldT_miss {l : List MsgD} {nonce : Int} {k : Nat} {m : MsgD} (h : l[k]? = some m) (hm : hitB nonce m = false) : toldT l nonce (k + 1) = toldT l nonce k := by
  rw [toldT, h]
  simp [hm]
/-- The same as a map's datum. -/
def mapT {H : Type} (t : List (Int × Nat)) : DataW H := .map (t.map fun p => (.int .i64 p.1, .lit (.int .i64 (p.2 : Int))))
theorem insT_map {H : Type} (x : Int) (i : Nat) : ∀ t : List (Int × Nat), DataW.insert (H := H) (.int .i64 x, .lit (.int .i64 (i : Int))) (t.map fun p => (.int .i64 p.1, .lit (.int .i64 (p.2 : Int)))) = (insT x i t).map fun p => (.int .i64 p.1, .lit (.int .i64 (p.2 : Int)))
  | [] => rfl
  | y :: r => by
    unfold insT
    rw [List.map_cons, DataW.insert]
    by_cases h : x < y.1
    · rw [if_pos h, if_pos (by simpa [Lit.before] using h)]
      rfl
    · rw [if_neg h, if_neg (by simpa [Lit.before] using h), insT_map x i r]
      rfl
theorem put_mapT {H : Type} (x : Int) (i : Nat) (t : List (Int × Nat)) : (mapT (H := H) t).put (.int .i64 x) (.lit (.int .i64 (i : Int))) = mapT (putT x i t) := by
  unfold mapT putT
  show DataW.map (DataW.insert _ _) = _
  rw [← insT_map, List.filter_map]
  congr 3
  congr 1
  funext p
  simp [Lit.sameKey, Function.comp]
  rfl
theorem size_mapT {H : Type} (t : List (Int × Nat)) : Maps.size (mapT (H := H) t) = t.length := by simp [mapT, Maps.size]
theorem has_mapT {H : Type} (t : List (Int × Nat)) (a : Int) : Maps.has (mapT (H := H) t) (.int .i64 a) = t.any fun p => p.1 == a := by
  unfold mapT
  rw [Maps.has_eq, List.any_map]
  congr 1
  funext p
  simp [Lit.sameKey, Function.comp]
  rfl
theorem at_mapT {H : Type} (t : List (Int × Nat)) (a : Int) (z : DataW H) : (mapT t).atKey (.int .i64 a) z = match t.find? (fun p => p.1 == a) with | some p => .lit (.int .i64 (p.2 : Int)) | none => z := by
  unfold mapT DataW.atKey
  simp only
  rw [List.find?_map]
  have e : ((fun p : Lit × DataW H => p.1.sameKey (.int .i64 a)) ∘ fun p : Int × Nat => ((.int .i64 p.1, .lit (.int .i64 (p.2 : Int))) : Lit × DataW H)) = fun p => p.1 == a := by
    funext p
    simp [Lit.sameKey, Function.comp]
    rfl
  rw [e]
  cases t.find? (fun p => p.1 == a) <;> rfl
theorem has_mapT_key {H : Type} {t : List (Int × Nat)} {kl : Lit} (h : Maps.has (mapT (H := H) t) kl = true) : ∃ p ∈ t, kl = .int .i64 p.1 := by
  unfold mapT at h
  rw [Maps.has_eq, List.any_map, List.any_eq_true] at h
  obtain ⟨p, hp, h⟩ := h
  refine ⟨p, hp, ?_⟩
  cases kl <;> simp [Lit.sameKey] at h
  obtain ⟨rfl, h⟩ := h
  rw [h]

theorem mem_insT {x : Int} {i : Nat} {p : Int × Nat} : ∀ {t : List (Int × Nat)}, p ∈ insT x i t ↔ p = (x, i) ∨ p ∈ t
  | [] => by simp [insT]
  | y :: r => by
    unfold insT
    split
    · simp
    · rw [List.mem_cons, mem_insT (t := r), List.mem_cons]
      constructor
      · rintro (h | h | h) <;> simp [h]
      · rintro (h | h | h) <;> simp [h]
theorem mem_putT {x : Int} {i : Nat} {p : Int × Nat} {t : List (Int × Nat)} : p ∈ putT x i t ↔ p = (x, i) ∨ (p ∈ t ∧ p.1 ≠ x) := by
  unfold putT
  rw [mem_insT]
  simp [List.mem_filter]
/-- What stands there: answers to that nonce, of those nodes. -/
theorem toldT_mem {l : List MsgD} {nonce : Int} {p : Int × Nat} : ∀ {k : Nat}, p ∈ toldT l nonce k → p.2 < k ∧ ∃ m, l[p.2]? = some m ∧ hitB nonce m = true ∧ m.src = p.1
  | 0, h => by cases h
  | k + 1, h => by
    unfold toldT at h
    split at h
    · rename_i m hm
      split at h
      · rename_i hh
        rcases mem_putT.1 h with rfl | ⟨h, _⟩
        · exact ⟨by simp, m, hm, hh, rfl⟩
        · obtain ⟨h1, h2⟩ := toldT_mem h
          exact ⟨by omega, h2⟩
      · obtain ⟨h1, h2⟩ := toldT_mem h
        exact ⟨by omega, h2⟩
    · obtain ⟨h1, h2⟩ := toldT_mem h
      exact ⟨by omega, h2⟩

theorem toldT_uniq {l : List MsgD} {nonce : Int} {p q : Int × Nat} : ∀ {k : Nat}, p ∈ toldT l nonce k → q ∈ toldT l nonce k → p.1 = q.1 → p = q
  | 0, h, _, _ => by cases h
  | k + 1, h, h', e => by
    unfold toldT at h h'
    split at h
    · rename_i m hm
      rw [hm] at h'
      simp only at h'
      split at h
      · rename_i hh
        rw [if_pos hh] at h'
        rcases mem_putT.1 h with rfl | ⟨h1, h2⟩
        · rcases mem_putT.1 h' with rfl | ⟨h3, h4⟩
          · rfl
          · exact absurd e.symm h4
        · rcases mem_putT.1 h' with rfl | ⟨h3, h4⟩
          · exact absurd e h2
          · exact toldT_uniq h1 h3 e
      · rename_i hh
        rw [if_neg hh] at h'
        exact toldT_uniq h h' e
    · rename_i hm
      rw [hm] at h'
      exact toldT_uniq h h' e

/-- The view at a place. -/
def vAt (l : List MsgD) (i : Nat) : Int := ((l[i]?).map MsgD.view).getD 0
def lAt (l : List MsgD) (i : Nat) : Bool := ((l[i]?).map MsgD.lead).getD false
/-- The greatest view, from -1 on. -/
def topV (l : List MsgD) (t : List (Int × Nat)) : Int := t.foldl (fun g p => max g (vAt l p.2)) (-1)
theorem topV_from (l : List MsgD) : ∀ (t : List (Int × Nat)) (g : Int), g ≤ t.foldl (fun g p => max g (vAt l p.2)) g ∧ (∀ p ∈ t, vAt l p.2 ≤ t.foldl (fun g p => max g (vAt l p.2)) g) ∧ (t.foldl (fun g p => max g (vAt l p.2)) g = g ∨ ∃ p ∈ t, t.foldl (fun g p => max g (vAt l p.2)) g = vAt l p.2)
  | [], g => ⟨by simp, by simp, .inl rfl⟩
  | q :: r, g => by
    obtain ⟨h1, h2, h3⟩ := topV_from l r (max g (vAt l q.2))
    rw [List.foldl_cons]
    refine ⟨by omega, fun p hp => ?_, ?_⟩
    · rcases List.mem_cons.1 hp with rfl | hp
      · omega
      · exact h2 p hp
    · rcases h3 with h | ⟨p, hp, h⟩
      · by_cases hg : vAt l q.2 ≤ g
        · exact .inl (by omega)
        · exact .inr ⟨q, by simp, by omega⟩
      · exact .inr ⟨p, by simp [hp], h⟩
/-- It is told by what stands: not less than any, and one of them. -/
theorem topV_is {l : List MsgD} {t : List (Int × Nat)} {g : Int} (h0 : -1 ≤ g) (h1 : ∀ p ∈ t, vAt l p.2 ≤ g) (h2 : g = -1 ∨ ∃ p ∈ t, g = vAt l p.2) : topV l t = g := by
  obtain ⟨a, b, c⟩ := topV_from l t (-1)
  unfold topV
  rcases h2 with rfl | ⟨p, hp, rfl⟩
  · rcases c with h | ⟨q, hq, h⟩
    · exact h
    · have := h1 q hq; omega
  · have hb := b p hp
    rcases c with h | ⟨q, hq, h⟩
    · omega
    · have := h1 q hq; omega

/-- What is gone on from, those answers being told. -/
def recW (l : List MsgD) (T : List (Int × Nat)) (n : Int) : Int × Bool :=
  if (T.length : Int) < faulI n + 1 then (0, false)
  else match T.find? (fun p => p.1 == leadI (topV l T) n) with
    | none => (0, false)
    | some p => if leadI (topV l T) n = 0 ∨ vAt l p.2 ≠ topV l T ∨ lAt l p.2 = false then (0, false) else ((p.2 : Int), true)
def recV (l : List MsgD) (nonce n : Int) : Int × Bool := recW l (toldT l nonce l.length) n
section
variable {l : List MsgD} {T : List (Int × Nat)} {n g : Int}
theorem recW_few (h : (T.length : Int) < faulI n + 1) : recW l T n = (0, false) := by rw [recW, if_pos h]
theorem recW_zero (hg : topV l T = g) (h0 : leadI g n = 0) : recW l T n = (0, false) := by
  unfold recW
  split
  · rfl
  · split
    · rfl
    · rw [if_pos (.inl (by rw [hg]; exact h0))]
theorem recW_none (hg : topV l T = g) (h0 : T.find? (fun p => p.1 == leadI g n) = none) : recW l T n = (0, false) := by
  unfold recW
  rw [hg, h0]
  split <;> rfl
theorem recW_some {p : Int × Nat} (h : ¬ (T.length : Int) < faulI n + 1) (hg : topV l T = g) (h0 : T.find? (fun p => p.1 == leadI g n) = some p) : recW l T n = if leadI g n = 0 ∨ vAt l p.2 ≠ g ∨ lAt l p.2 = false then (0, false) else ((p.2 : Int), true) := by
  unfold recW
  rw [if_neg h, hg, h0]
end
end Go.Proofs.Ytflphpjfmbkeiaa
