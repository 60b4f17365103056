/- Timers in memory: two cells each, in a row of the program's own; before and above of package clock. -/
import Derived.Test.YthimdmgimlhbaaaBox
import Derived.Test.YthimdmgimlhbaaaHeapMath
import Derived.Test.YthimdmgimlhbaaaInts
import Derived.RegionTactic
import Derived.BigRegion
namespace Go.Proofs.Ythimdmgimlhbaaa
open Go.RowKit

def tcell (p : Int × Int) : List Value := [.int .i64 p.1, .int .i64 p.2]
def tagg (p : Int × Int) : Value := .agg #[.int .i64 p.1, .int .i64 p.2]
def tcells (l : List (Int × Int)) : List Value := l.flatMap tcell
theorem tcells_len (l : List (Int × Int)) : (tcells l).length = l.length * 2 := flat_len tcell 2 l fun _ _ => rfl
theorem tcells_cell (l : List (Int × Int)) : ∀ u ∈ tcells l, u.oneCell' = true := by
  intro u hu
  obtain ⟨p, _, hp⟩ := List.mem_flatMap.1 hu
  simp only [tcell, List.mem_cons, List.not_mem_nil, or_false] at hp
  rcases hp with rfl | rfl <;> rfl
theorem tcells_append (a b : List (Int × Int)) : tcells (a ++ b) = tcells a ++ tcells b := by simp [tcells]
theorem tcells_single (p : Int × Int) : tcells [p] = tcell p := by simp [tcells]
theorem tcells_get (l : List (Int × Int)) (i : Nat) (hi : i < l.length) : ((tcells l).drop (i * 2)).take 2 = tcell (l.getD i (0, 0)) := by
  refine flat_get tcell 2 l i _ (fun _ _ => rfl) ?_
  simp [List.getD_eq_getElem?_getD, hi]
theorem tcells_set (l : List (Int × Int)) (i : Nat) (x : Int × Int) (hi : i < l.length) : tcells (l.set i x) = ((tcells l).set (i * 2) (.int .i64 x.1)).set (i * 2 + 1) (.int .i64 x.2) := by
  induction l generalizing i with
  | nil => simp at hi
  | cons y r ih =>
    cases i with
    | zero => simp [tcells, tcell]
    | succ i =>
      have := ih i (by simpa using hi)
      simp only [tcells, tcell, List.set_cons_succ, List.flatMap_cons, List.cons_append, List.nil_append] at this ⊢
      rw [this, show (i + 1) * 2 = i * 2 + 1 + 1 from by omega]
      simp only [List.set_cons_succ]
theorem tcells_take : ∀ (l : List (Int × Int)) (k : Nat), (tcells l).take (k * 2) = tcells (l.take k)
  | [], k => by simp [tcells]
  | y :: r, 0 => by simp [tcells]
  | y :: r, k + 1 => by
    have := tcells_take r k
    simp only [tcells, tcell, List.take_succ_cons, List.flatMap_cons, List.cons_append, List.nil_append] at this ⊢
    rw [show (k + 1) * 2 = k * 2 + 1 + 1 from by omega]
    simp only [List.take_succ_cons, this]

/-- A row of timers of the program's own: block g. -/
def TRow (w : World) (base g n c : Nat) (l : List (Int × Int)) : Prop := w.ownsRow base 60 2 (.slice (some ⟨g, 0, none⟩) n c) n (tcells l)
section
variable {w w' : World} {base g n c : Nat} {l : List (Int × Int)}
theorem TRow.len (h : TRow w base g n c l) : l.length = n := by
  have := h.1
  rw [tcells_len] at this
  omega
theorem TRow.own (h : TRow w base g n c l) : ∃ cur : Array Value, base ≤ g ∧ w.heap[g]? = some (.cells cur 60 (0, 0)) ∧ n ≤ c ∧ c ≤ maxLen ∧ cur.size = c * 2 ∧ cur.toList.take (n * 2) = tcells l := by
  rcases h.2 with ⟨h0, _⟩ | ⟨g', cap, cur, hv, hb, hg, hnc, hm, hs, ht⟩
  · cases h0
  · simp only [Value.slice.injEq, Option.some.injEq, Addr.mk.injEq, and_true, true_and] at hv
    obtain ⟨rfl, rfl⟩ := hv
    exact ⟨cur, hb, hg, hnc, hm, hs, ht⟩
theorem TRow.lt (h : TRow w base g n c l) : base ≤ g ∧ g < w.heap.size := by
  obtain ⟨cur, hb, hg, _⟩ := h.own
  exact ⟨hb, lt_of_block hg⟩
theorem TRow.cap (h : TRow w base g n c l) : n ≤ c ∧ c ≤ maxLen := by
  obtain ⟨cur, _, _, h1, h2, _⟩ := h.own
  exact ⟨h1, h2⟩
theorem TRow.range (h : TRow w base g n c l) {i : Nat} (hi : i < n) : w.rangeAt g (i * 2) (tcell (l.getD i (0, 0))) := by
  have hl := h.len
  intro j u hj
  have hj2 : j < 2 := by have := (List.getElem?_eq_some_iff.1 hj).1; simpa [tcell] using this
  rw [← tcells_get l i (by omega), List.getElem?_take_of_lt hj2, List.getElem?_drop] at hj
  exact h.cellAt (i * 2 + j) (by omega) |>.trans hj
theorem TRow.free (h : TRow w base g n c l) (j : Nat) : w.frozen? ⟨g, j, none⟩ = false := by
  obtain ⟨cur, _, hg, _⟩ := h.own
  exact frozen_of_row w g j cur _ hg
theorem TRow.kept (h : TRow w base g n c l) (hk : w'.heap[g]? = w.heap[g]?) : TRow w' base g n c l := by
  obtain ⟨cur, hb, hg, h1, h2, h3, h4⟩ := h.own
  exact ⟨h.1, .inr ⟨g, c, cur, rfl, hb, hk.trans hg, h1, h2, h3, h4⟩⟩
theorem TRow.later (h : TRow w base g n c l) (hb : Below w.heap.size w w') : TRow w' base g n c l := h.kept (hb.block g h.lt.2)
/-- The first k of them. -/
theorem TRow.cut (h : TRow w base g n c l) {k : Nat} (hk : k ≤ n) : TRow w base g k c (l.take k) := by
  obtain ⟨cur, hb, hg, h1, h2, h3, h4⟩ := h.own
  have hl := h.len
  refine ⟨by rw [tcells_len, List.length_take]; omega, .inr ⟨g, c, cur, rfl, hb, hg, by omega, h2, h3, ?_⟩⟩
  rw [← tcells_take, ← h4, List.take_take, Nat.min_eq_left (by omega)]
/-- One of them is written. -/
theorem TRow.stored (h : TRow w base g n c l) {i : Nat} (hi : i < n) (x : Int × Int) : TRow (w.setCells g (i * 2) (tcell x)) base g n c (l.set i x) ∧ w.grownBy (w.setCells g (i * 2) (tcell x)) (some g) := by
  refine ⟨?_, grown_setCells g _ _ w⟩
  obtain ⟨cur, hb, hg, h1, h2, h3, h4⟩ := h.own
  have hl := h.len
  have hput := heap_setCells g (tcell x) (i * 2) w cur hg
  refine ⟨by rw [tcells_len, List.length_set]; omega, .inr ⟨g, c, putAt cur (i * 2) (tcell x), rfl, hb, hput, h1, h2, by rw [putAt_size]; exact h3, ?_⟩⟩
  have e : (putAt cur (i * 2) (tcell x)).toList = (cur.toList.set (i * 2) (.int .i64 x.1)).set (i * 2 + 1) (.int .i64 x.2) := by simp [putAt, tcell]
  rw [e, List.take_set, List.take_set, h4, tcells_set _ _ _ (by omega)]

theorem TRow.laterD (h : TRow w base g n c l) (hl : Below w.heap.size w.drew w') : TRow w' base g n c l := h.kept (hl.block g h.lt.2)
theorem TRow.drew (h : TRow w base g n c l) : TRow w.drew base g n c l := h
/-- One of them is read, and one is written, at an operation. -/
theorem exec_load_timer {op : Oper} {a : Act} (x : Operand) (ho : op.op = .load 60 x) (h : TRow w base g n c l) {i : Nat} (hi : i < n) (hx : a.eval x = .pointer (some ⟨g, i * 2, none⟩)) :
    (execOp a.eval op).run Try.prog w = .ok (.value (tagg (l.getD i (0, 0)))) w :=
  exec_load_range 60 x ho g (i * 2) hx _ (h.range hi) _ Try.underlying60 (by rfl) (by kernel_rfl)
theorem wp_store_timer {op : Oper} {a : Act} {K : Act → World → Prop} {Q : Exit → Act → World → Prop} (x y : Operand) (ho : op.op = .store 60 x y) (h : TRow w base g n c l) {i : Nat} (hi : i < n) (p : Int × Int)
    (hx : a.eval x = .pointer (some ⟨g, i * 2, none⟩)) (hy : a.eval y = tagg p) (hK : ∀ w', TRow w' base g n c (l.set i p) → w.grownBy w' (some g) → K (a.put op.dst undef) w') : op.wp Try.prog a w K Q := by
  obtain ⟨k1, k2⟩ := h.stored hi p
  refine wp_store_mid 60 x y ho g (i * 2) #[.int .i64 p.1, .int .i64 p.2] hx hy (fun j hj => ?_) (by kernel_rfl) (by simp [Value.oneCell']) (hK _ k1 k2)
  have hj2 : j < 2 := by simpa using hj
  have hr := h.range hi
  refine ⟨?_, h.free _⟩
  have : (tcell (l.getD i (0, 0)))[j]? = some ((tcell (l.getD i (0, 0)))[j]'(by simpa [tcell] using hj2)) := List.getElem?_eq_getElem _
  rw [hr j _ this]
  rfl
end

theorem above_any (i : Nat) (w : World) (h0 : 0 < i) (h1 : i ≤ 1000000000) : Calls Try.prog 36 #[.int .i64 (i : Int)] w fun e w' => e = .returned (.int .i64 (par i : Int)) ∧ w = w' := by
  have hp : (par i : Int) = ((i : Int) - 1) / 2 := by unfold par; omega
  have HP := hide hp
  clear hp
  go_enter Try.func36, Try.ntmps36
  go_wp2
  go_ret
  exact ⟨ret_int HP.out.symm, rfl⟩

theorem before_any (a b : Int × Int) (w : World) (ha : T64 a) (hb : T64 b) : Calls Try.prog 35 #[tagg a, tagg b] w fun e w' => e = .returned (.bool (decide (tkey a < tkey b))) ∧ Below w.heap.size w w' := by
  have hk := tkey_lt ha hb
  obtain ⟨a1, a2⟩ := a
  obtain ⟨b1, b2⟩ := b
  obtain ⟨⟨k1, k2⟩, k3, k4⟩ := ha
  obtain ⟨⟨j1, j2⟩, j3, j4⟩ := hb
  simp only at k1 k2 k3 k4 j1 j2 j3 j4
  unfold tagg
  simp only at hk ⊢
  have hbw : Below w.heap.size w ((w.alloc (.cells #[.int .i64 a1, .int .i64 a2] 60 (0, 0))).alloc (.cells #[.int .i64 b1, .int .i64 b2] 60 (0, 0))) := ((Below.refl _ _).alloc (Nat.le_refl _) _).alloc (by simp) _
  have HBW := hide hbw
  clear hbw
  by_cases he : a1 = b1
  · subst he
    have HK : Hid (decide (tkey (a1, a2) < tkey (a1, b2)) = decide (a2 < b2)) := by
      show _ = _
      rw [Bool.eq_iff_iff, decide_eq_true_eq, decide_eq_true_eq, hk]
      omega
    clear hk
    have ht : (a1 != a1) = false := by simp
    go_enter Try.func35, Try.ntmps35
    go_wp2
    go_ret
    exact ⟨ret_bool HK.out.symm, HBW.out⟩
  · have HK : Hid (decide (tkey (a1, a2) < tkey (b1, b2)) = decide (a1 < b1)) := by
      show _ = _
      rw [Bool.eq_iff_iff, decide_eq_true_eq, decide_eq_true_eq, hk]
      omega
    clear hk
    have ht : (a1 != b1) = true := by simpa using he
    clear he
    go_enter Try.func35, Try.ntmps35
    go_wp2
    go_ret
    exact ⟨ret_bool HK.out.symm, HBW.out⟩
end Go.Proofs.Ythimdmgimlhbaaa
