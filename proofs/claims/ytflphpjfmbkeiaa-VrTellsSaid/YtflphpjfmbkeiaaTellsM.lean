/- What VrTells looks at, as data: answers of the first nodes, one of each, and what is gone on from of them. -/
import Derived.Test.YtflphpjfmbkeiaaTold
import Derived.Test.YtflphpjfmbkeiaaMsgV
import Derived.Laws.Tables
namespace Go.Proofs.Ytflphpjfmbkeiaa
open Go.RowKit

/-- The answer of a node: its view, whether it leads it. -/
def tellD (i v : Int) (b : Bool) : MsgD := ⟨10, i, 0, v, 0, 0, 0, 9, 0, b, false, false, .zero, 0, 0, 0, 0, 0, 0, 0, 0, 0, false, [], []⟩
/-- The answers of the first i nodes, of these views. -/
def Telling (V : Nat → Nat) (l : List MsgD) (i : Nat) : Prop := l.length = i ∧ ∀ j, j < i → ∃ b, l[j]? = some (tellD ((j : Int) + 1) (V j : Int) b)
/-- The greatest of the first i views. -/
def Best (V : Nat → Nat) (i : Nat) (best : Nat) : Prop := (∀ j, j < i → V j ≤ best) ∧ (i = 0 ∧ best = 0 ∨ ∃ j, j < i ∧ V j = best)
theorem Best.start (V : Nat → Nat) : Best V 0 0 := ⟨fun j h => by omega, .inl ⟨rfl, rfl⟩⟩
theorem Best.up {V : Nat → Nat} {i best : Nat} (h : Best V i best) (hv : best < V i) : Best V (i + 1) (V i) :=
  ⟨fun j hj => by
    by_cases e : j = i
    · subst e; omega
    · have := h.1 j (by omega); omega, .inr ⟨i, by omega, rfl⟩⟩
theorem Best.stay {V : Nat → Nat} {i best : Nat} (h : Best V i best) (hv : ¬ best < V i) : Best V (i + 1) best := by
  refine ⟨fun j hj => ?_, .inr ?_⟩
  · by_cases e : j = i
    · subst e; omega
    · exact h.1 j (by omega)
  · rcases h.2 with ⟨rfl, rfl⟩ | ⟨j, hj, e⟩
    · exact ⟨0, by omega, by omega⟩
    · exact ⟨j, by omega, e⟩
theorem Telling.next {V : Nat → Nat} {l : List MsgD} {i : Nat} (h : Telling V l i) (b : Bool) : Telling V (l ++ [tellD ((i : Int) + 1) (V i : Int) b]) (i + 1) := by
  refine ⟨by rw [List.length_append, h.1]; rfl, fun j hj => ?_⟩
  by_cases e : j = i
  · subst e
    have h1 := h.1
    exact ⟨b, by rw [List.getElem?_append_right (by omega), h.1]; simp⟩
  · obtain ⟨b', hb⟩ := h.2 j (by omega)
    exact ⟨b', by rw [List.getElem?_append_left (by rw [h.1]; omega), hb]⟩

theorem insT_last {x : Int} {i : Nat} : ∀ {t : List (Int × Nat)}, (∀ p ∈ t, p.1 ≤ x) → insT x i t = t ++ [(x, i)]
  | [], _ => rfl
  | y :: r, h => by
    unfold insT
    rw [if_neg (by have := h y (by simp); omega), insT_last (fun p hp => h p (by simp [hp]))]
    rfl
def oneEach (m : Nat) : List (Int × Nat) := (List.range m).map fun (j : Nat) => ((j : Int) + 1, j)
theorem mem_oneEach {m : Nat} {p : Int × Nat} : p ∈ oneEach m ↔ p.2 < m ∧ p.1 = (p.2 : Int) + 1 := by
  unfold oneEach
  rw [List.mem_map]
  constructor
  · rintro ⟨j, hj, rfl⟩
    exact ⟨by simpa using hj, rfl⟩
  · rintro ⟨h1, h2⟩
    exact ⟨p.2, by simpa using h1, by rw [← h2]⟩
theorem told_each {V : Nat → Nat} {l : List MsgD} {i : Nat} (h : Telling V l i) : ∀ m, m ≤ i → toldT l 9 m = oneEach m
  | 0, _ => rfl
  | m + 1, hm => by
    obtain ⟨b, hb⟩ := h.2 m (by omega)
    rw [toldT_hit hb (by rfl), told_each h m (by omega)]
    unfold putT
    rw [List.filter_eq_self.2 (fun p hp => by
      obtain ⟨h1, h2⟩ := mem_oneEach.1 hp
      simp [tellD]
      omega), insT_last (fun p hp => by
      obtain ⟨h1, h2⟩ := mem_oneEach.1 hp
      simp only [tellD]
      omega)]
    simp [oneEach, List.range_succ, tellD]
theorem told_other {V : Nat → Nat} {l : List MsgD} {i : Nat} (h : Telling V l i) : ∀ m, m ≤ i → toldT l 8 m = []
  | 0, _ => rfl
  | m + 1, hm => by
    obtain ⟨b, hb⟩ := h.2 m (by omega)
    rw [toldT_miss hb (by rfl), told_other h m (by omega)]
/-- By another nonce nothing is told. -/
theorem rec_other {V : Nat → Nat} {l : List MsgD} {i : Nat} (h : Telling V l i) {n : Int} (hn : 0 ≤ faulI n) : recV l 8 n = (0, false) := by
  unfold recV
  rw [told_other h _ (Nat.le_of_eq h.1), recW_few (by simp; omega)]
/-- Too few tell nothing. -/
theorem rec_few {V : Nat → Nat} {l : List MsgD} {i : Nat} (h : Telling V l i) {n : Int} (hn : (i : Int) ≤ faulI n) : recV l 9 n = (0, false) := by
  unfold recV
  rw [h.1, told_each h _ (Nat.le_refl _), recW_few (by simp [oneEach]; omega)]
/-- What is told is of the greatest view, by its leader. -/
theorem rec_told {V : Nat → Nat} {l : List MsgD} {i best : Nat} (h : Telling V l i) (hb : Best V i best) (h0 : 0 < i) {n : Int} {a : Int} (hr : recV l 9 n = (a, true)) :
    ∃ j : Nat, a = (j : Int) ∧ j < i ∧ V j = best ∧ l[j]? = some (tellD ((j : Int) + 1) (best : Int) true) ∧ leadI (best : Int) n = (j : Int) + 1 := by
  have hv : ∀ j, j < i → vAt l j = (V j : Int) := fun j hj => by
    obtain ⟨b, hb⟩ := h.2 j hj
    simp [vAt, hb, tellD]
  have ht : topV l (oneEach i) = (best : Int) := by
    refine topV_is (by omega) (fun p hp => ?_) (.inr ?_)
    · obtain ⟨h1, _⟩ := mem_oneEach.1 hp
      rw [hv _ h1]
      have := hb.1 _ h1
      omega
    · rcases hb.2 with ⟨h1, _⟩ | ⟨j, hj, e⟩
      · omega
      · exact ⟨((j : Int) + 1, j), mem_oneEach.2 ⟨hj, rfl⟩, by rw [hv j hj, e]⟩
  unfold recV at hr
  rw [h.1, told_each h _ (Nat.le_refl _)] at hr
  unfold recW at hr
  rw [ht] at hr
  split at hr
  · cases hr
  · split at hr
    · cases hr
    · rename_i p hp
      split at hr
      · cases hr
      · rename_i hc
        obtain ⟨h1, h2⟩ := mem_oneEach.1 (List.mem_of_find?_eq_some hp)
        have h3 : p.1 = leadI (best : Int) n := by simpa using List.find?_some hp
        obtain ⟨b, hj⟩ := h.2 p.2 h1
        have hvj := hv p.2 h1
        have hc1 : vAt l p.2 = (best : Int) := Classical.byContradiction fun e => hc (.inr (.inl e))
        have hc2 : lAt l p.2 = true := by
          cases hl : lAt l p.2
          · exact absurd (.inr (.inr hl)) hc
          · rfl
        have hb2 : b = true := by simpa [lAt, hj, tellD] using hc2
        have hv2 : V p.2 = best := by omega
        refine ⟨p.2, ?_, h1, hv2, by rw [hj, hb2, hv2], by rw [← h3, h2]⟩
        have := (Prod.mk.injEq _ _ _ _ ▸ hr : _ ∧ _).1
        exact this.symm

section
variable {P : Program} {w : World}
/-- A struct literal, its parts said. -/
theorem wpList_build_parts {ops : Array Oper} {rest : List Oper} {op : Oper} {a : Act} {Q : Exit → Act → World → Prop} (hgd : op.guard = none) (t : TypeId) (xs : Array (Nat × Operand)) (ho : op.op = .build t xs) (ps : List (Nat × Value))
    (hp : (xs.map fun q => (q.1, a.eval q.2)).toList = ps) (cells : Array Value) (hb : P.built t ps = some cells) (h : wpList P ops Q rest (a.put op.dst (.agg cells)) w) : wpList P ops Q (op :: rest) a w := by
  have e : (xs.map fun (i, x) => (i, a.eval x)).toList = ps := hp
  refine wpList_build hgd t _ ho ?_ ?_
  · rw [e, hb]; rfl
  · rw [e, hb]; exact h
end
theorem built_tell (i v : Int) (b : Bool) : Try.prog.built 40 [(0, .int .i64 10), (1, .int .i64 i), (3, .int .i64 v), (7, .int .i64 9), (9, .bool b)] = some ((tellD i v b).cells (.slice none 0 0) (.slice none 0 0) (.slice none 0 0)).toArray := by kernel_rfl
end Go.Proofs.Ytflphpjfmbkeiaa
