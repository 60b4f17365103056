/- Texts merged: ChkA, CutRow, StepB, PlanA, PlanB, PlanD, SagA, SagB, SagH, Clone, ChkB, ChkC, RefB, RChk, PlanS, SagC, SagD, Turned, BkA. -/
import Derived.Test.YtdkiopajilakcaaGreatBaseO1
import Derived.Laws.Slices
import Derived.RangeFuncNested
import Derived.RangeFuncBound
import Derived.RangeFuncCalls
import Derived.RangeFuncLeaves
import Derived.Shelf.Abstract
import Derived.Shelf.RegionOpen
import Derived.WalkKit
import Derived.OwnWalkIn
import Derived.TacticsInMore
import Derived.LoopNIn
import Derived.LoopIn
import Derived.Lib.MinMax
import Derived.ChangeKeysEq
import Derived.Test.YtdkiopajilakcaaGreatProg
import Derived.OwnWalk
/- Steps asked by a closure; a number out of its bounds; a step looked at. -/
namespace Go.Proofs.YtdkiopajilakcaaGreat
open Go.RowKit

/-- The closure v tells of each step whether f holds of it, in all later worlds. -/
def AskAt (w : World) (v : SetV) (f : StepD → Bool) : Prop :=
  Enters v.F ∧ ∀ (W : World) (s : StepD), Later w W → Calls Tryz.prog v.F (#[.agg s.cells.toArray] ++ v.cs) W fun e W' => e = .returned (.bool (f s)) ∧ Later W W'
section
variable {w : World}
theorem outside_any (n lo hi : Int) : Calls Tryz.prog 116 #[.int .i64 n, .int .i64 lo, .int .i64 hi] w fun e w' => e = .returned (.bool (outB n lo hi)) ∧ w' = w := by
  unfold outB
  by_cases h1 : n < lo
  · go_enter Tryz.func116, Tryz.ntmps116
    go_wp2
    go_ret
    exact ⟨ret_bool (by simp [h1]), rfl⟩
  · by_cases h2 : hi < n
    · go_enter Tryz.func116, Tryz.ntmps116
      go_wp2
      go_ret
      exact ⟨ret_bool (by simp), rfl⟩
    · go_enter Tryz.func116, Tryz.ntmps116
      go_wp2
      go_ret
      exact ⟨ret_bool (by simp [h1, h2]), rfl⟩

set_option maxHeartbeats 2000000 in
theorem index_ask {F : Nat → Prop} {v : SetV} {f : StepD → Bool} {A : Option Addr} {n cap : Nat} {l : List StepD} (h : StepsAt F w (.slice A n cap) l) (hn : n = l.length) (hv : AskAt w v f) (hs : n ≤ 1000) :
    Calls Tryz.prog 101 #[.slice A n cap, v.val] w fun e w' => ∃ i : Int, e = .returned (.int .i64 i) ∧ decide (0 ≤ i) = l.any f ∧ Later w w' := by
  have H := hide h
  have HN := hide hn
  have HV := hide hv
  have eg := hv.1
  unfold Enters at eg
  clear h hn hv
  obtain ⟨FF, cs⟩ := v
  simp only [SetV.val]
  simp only at eg
  go_enter Tryz.func101, Tryz.ntmps101
  go_wp2
  go_loopw [8] (fun i wr => ∃ q : Nat, q ≤ n ∧ i = .int .i64 (q : Int) ∧ (l.take q).any f = false ∧ Later w wr) (fun i _ => n - (Go.RowKit.intOf i).toNat)
  case atStart => exact ⟨0, by omega, rfl, by simp, Later.refl _⟩
  case round =>
    obtain ⟨q, hq, rfl, hall, hlat⟩ := hrel
    have HA := hide hall
    have HL := hide hlat
    clear hall hlat
    by_cases hlt : q < n
    · obtain ⟨s, b, off, c', hs', hvv, _, _, _, hr⟩ := StepsAt.at_ (StepsAt.kept H.out (Kept.of_below HL.out _)) (i := q) (by rw [← HN.out]; exact hlt)
      rw [← HN.out] at hvv
      obtain ⟨rfl, rfl⟩ : A = some ⟨b, off, none⟩ ∧ cap = c' := by injection hvv with e1 _ e3; exact ⟨e1, e3⟩
      obtain ⟨r0, r1, r2, r3, r4, r5⟩ := range_step hr
      have HP := hide hs'
      have C := hide (HV.out.2 wr s HL.out)
      obtain ⟨t, ht⟩ : ∃ t, f s = t := ⟨_, rfl⟩
      rw [ht] at C
      have HT := hide ht
      unfold StepD.cells at C
      simp only at C
      clear hs' hvv hr ht
      go_wp2_with (fail)
      refine C.out.mono ?_
      rintro e w1 ⟨rfl, hl⟩
      have HL1 := hide (HL.out.trans hl)
      clear hl C r0 r1 r2 r3 r4 r5
      cases t with
      | false =>
        go_wp2
        go_roundw
        case rel =>
          refine ⟨q + 1, by omega, by go_num, ?_, HL1.out⟩
          rw [List.take_add_one, HP.out, List.any_append, HA.out]
          simp [HT.out]
        case measure => simp [Go.RowKit.intOf]; omega
      | true =>
        go_wp2
        go_ret
        refine ⟨(q : Int), rfl, ?_, HL1.out⟩
        have hyes : l.any f = true := by
          rw [List.any_eq_true]
          exact ⟨s, List.mem_of_getElem? HP.out, HT.out⟩
        rw [hyes]
        simp
    · have hall : l.any f = false := by
        have h1 := HA.out
        rwa [List.take_of_length_le (by have := HN.out; omega)] at h1
      have HALL := hide hall
      clear hall
      go_wp2
      go_ret
      exact ⟨-1, rfl, by rw [HALL.out]; decide, HL.out⟩
theorem contains_ask {F : Nat → Prop} {v : SetV} {f : StepD → Bool} {A : Option Addr} {n cap : Nat} {l : List StepD} (h : StepsAt F w (.slice A n cap) l) (hn : n = l.length) (hv : AskAt w v f) (hs : n ≤ 1000) :
    Calls Tryz.prog 135 #[.slice A n cap, v.val] w fun e w' => e = .returned (.bool (l.any f)) ∧ Later w w' := by
  have C := hide (index_ask h hn hv hs)
  obtain ⟨vv, hvv⟩ : ∃ vv, v.val = vv := ⟨_, rfl⟩
  rw [hvv] at C ⊢
  clear h hn hvv
  go_enter Tryz.func135, Tryz.ntmps135
  go_wp2_with (fail)
  refine C.out.mono ?_
  rintro e w1 ⟨i, rfl, hi, hl⟩
  have HI := hide hi
  have HL := hide hl
  clear hi hl C
  go_wp2
  go_ret
  exact ⟨ret_bool HI.out, HL.out⟩

theorem named1_any (W : World) (a : StepD) (s : StepD) (b : Nat) (h : W.cell? ⟨b, 0, none⟩ = some (.string s.name)) :
    Calls Tryz.prog 136 #[.agg a.cells.toArray, .pointer (some ⟨b, 0, none⟩)] W fun e W' => e = .returned (.bool (decide (a.name = s.name))) ∧ Later W W' := by
  have HL : Hid (Later W (W.alloc (.cells a.cells.toArray 79 (0, 0)))) := (Below.refl _ _).alloc (Nat.le_refl _) _
  have hb : b < W.heap.size := by
    rcases Nat.lt_or_ge b W.heap.size with h1 | h1
    · exact h1
    · simp [World.cell?, Array.getElem?_eq_none h1] at h
  unfold StepD.cells at *
  go_enter Tryz.func136, Tryz.ntmps136
  go_wp2
  go_ret
  exact ⟨ret_bool (Sd.str_eq _ _), HL.out⟩
theorem enters_named1 : Enters 136 := fun args w => by go_simp
theorem pivot2_any (W : World) (a : StepD) : Calls Tryz.prog 137 #[.agg a.cells.toArray] W fun e W' => e = .returned (.bool a.pivot) ∧ Later W W' := by
  have HL : Hid (Later W (W.alloc (.cells a.cells.toArray 79 (0, 0)))) := (Below.refl _ _).alloc (Nat.le_refl _) _
  unfold StepD.cells at *
  go_enter Tryz.func137, Tryz.ntmps137
  go_wp2
  go_ret
  exact ⟨rfl, HL.out⟩
theorem enters_pivot2 : Enters 137 := fun args w => by go_simp
end
end Go.Proofs.YtdkiopajilakcaaGreat
/- Slices of slices: what a[lo:hi:hi] holds, cell by cell, and operation by operation. -/
namespace Go.Proofs.YtdkiopajilakcaaGreat.Sd
open Go.RowKit

theorem flat_take {α : Type} (f : α → List Value) (k : Nat) : ∀ (l : List α) (i : Nat), (∀ y ∈ l, (f y).length = k) → (l.take i).flatMap f = (l.flatMap f).take (i * k)
  | [], i, _ => by simp
  | y :: r, 0, _ => by simp
  | y :: r, i + 1, hk => by
    have h1 := hk y (by simp)
    have ih := flat_take f k r i (fun z hz => hk z (by simp [hz]))
    rw [List.take_succ_cons, List.flatMap_cons, ih, List.flatMap_cons, show (i + 1) * k = (f y).length + i * k from by rw [h1, Nat.add_mul]; omega, List.take_append]
    simp [List.take_of_length_le]
theorem flat_drop {α : Type} (f : α → List Value) (k : Nat) : ∀ (l : List α) (i : Nat), (∀ y ∈ l, (f y).length = k) → (l.drop i).flatMap f = (l.flatMap f).drop (i * k)
  | [], i, _ => by simp
  | y :: r, 0, _ => by simp
  | y :: r, i + 1, hk => by
    have h1 := hk y (by simp)
    have ih := flat_drop f k r i (fun z hz => hk z (by simp [hz]))
    rw [List.drop_succ_cons, ih, List.flatMap_cons, show (i + 1) * k = (f y).length + i * k from by rw [h1, Nat.add_mul]; omega, List.drop_append]
    simp

section
variable {F : Nat → Prop} {w : World} {k n c : Nat} {A : Option Addr} {xs : List Value}
theorem FlatAt.cut (h : FlatAt F w k (.slice A n c) n xs) {lo hi : Nat} (h1 : lo ≤ hi) (h2 : hi ≤ n) : FlatAt F w k (sliced A lo hi hi k) (hi - lo) ((xs.take (hi * k)).drop (lo * k)) := by
  obtain ⟨hl, ho, A', c', hv, hc, hm, hn, hr⟩ := h
  obtain ⟨rfl, rfl⟩ : A = A' ∧ c = c' := by injection hv with e1 _ e3; exact ⟨e1, e3⟩
  unfold sliced
  have hk : hi * k ≤ n * k := Nat.mul_le_mul_right _ h2
  refine ⟨?_, fun u hu => ho u (List.mem_of_mem_take (List.mem_of_mem_drop hu)), _, _, rfl, Nat.le_refl _, by omega, ?_, fun h0 => ?_⟩
  · rw [List.length_drop, List.length_take, hl, Nat.min_eq_left hk, Nat.sub_mul]
  · intro h0
    by_cases he : hi = lo
    · omega
    · rw [if_neg he] at h0
      have : A = none := by cases A with
        | none => rfl
        | some a => cases h0
      have := hn this
      omega
  · rw [if_neg (by omega)]
    obtain ⟨b, off, rfl, hF, hb, hr⟩ := hr (by omega)
    refine ⟨b, off + lo * k, ?_, hF, hb, fun j u hj => ?_⟩
    · simp [Addr.add_lit]
    · rw [List.getElem?_drop] at hj
      have hlt : lo * k + j < hi * k := by
        have := (List.getElem?_eq_some_iff.1 hj).1
        rw [List.length_take] at this
        omega
      rw [List.getElem?_take_of_lt hlt] at hj
      rw [Nat.add_assoc]
      exact hr _ _ hj
theorem OpsIn.cut {ps : List (OpD × Value)} (h : OpsIn F w (.slice A n c) ps) {lo hi : Nat} (h1 : lo ≤ hi) (h2 : hi ≤ ps.length) : OpsIn F w (sliced A lo hi hi 10) ((ps.take hi).drop lo) := by
  have e : ps.length = n := by
    obtain ⟨_, _, hv, _⟩ := FlatAt.shape h.1
    injection hv with _ e2 _
    exact e2.symm
  refine ⟨?_, fun p hp => h.2 p (List.mem_of_mem_take (List.mem_of_mem_drop hp))⟩
  have := FlatAt.cut (e ▸ h.1 : FlatAt F w 10 (.slice A n c) n _) h1 (by omega)
  rw [flat_drop (fun p : OpD × Value => p.1.cells p.2) 10 _ _ (fun p _ => p.1.len p.2), flat_take (fun p : OpD × Value => p.1.cells p.2) 10 _ _ (fun p _ => p.1.len p.2), show ((ps.take hi).drop lo).length = hi - lo from by simp; omega]
  exact this
theorem FlatAt.tail (h : FlatAt F w k (.slice A n c) n xs) {lo : Nat} (h1 : lo ≤ n) : FlatAt F w k (sliced A lo n c k) (n - lo) (xs.drop (lo * k)) := by
  obtain ⟨hl, ho, A', c', hv, hc, hm, hn, hr⟩ := h
  obtain ⟨rfl, rfl⟩ : A = A' ∧ c = c' := by injection hv with e1 _ e3; exact ⟨e1, e3⟩
  unfold sliced
  refine ⟨?_, fun u hu => ho u (List.mem_of_mem_drop hu), _, _, rfl, by omega, by omega, ?_, fun h0 => ?_⟩
  · rw [List.length_drop, hl, Nat.sub_mul]
  · intro h0
    by_cases he : c = lo
    · omega
    · rw [if_neg he] at h0
      have : A = none := by cases A with
        | none => rfl
        | some a => cases h0
      have := hn this
      omega
  · rw [if_neg (by omega)]
    obtain ⟨b, off, rfl, hF, hb, hr⟩ := hr (by omega)
    refine ⟨b, off + lo * k, ?_, hF, hb, fun j u hj => ?_⟩
    · simp [Addr.add_lit]
    · rw [List.getElem?_drop] at hj
      rw [Nat.add_assoc]
      exact hr _ _ hj
theorem OpsIn.tail {ps : List (OpD × Value)} (h : OpsIn F w (.slice A n c) ps) {lo : Nat} (h1 : lo ≤ ps.length) : OpsIn F w (sliced A lo n c 10) (ps.drop lo) := by
  have e : ps.length = n := by
    obtain ⟨_, _, hv, _⟩ := FlatAt.shape h.1
    injection hv with _ e2 _
    exact e2.symm
  refine ⟨?_, fun p hp => h.2 p (List.mem_of_mem_drop hp)⟩
  have := FlatAt.tail (e ▸ h.1 : FlatAt F w 10 (.slice A n c) n _) (lo := lo) (by omega)
  rw [flat_drop (fun p : OpD × Value => p.1.cells p.2) 10 _ _ (fun p _ => p.1.len p.2), show (ps.drop lo).length = n - lo from by simp; omega]
  exact this
end
end Go.Proofs.YtdkiopajilakcaaGreat.Sd
/- A step in a block of its own. -/
namespace Go.Proofs.YtdkiopajilakcaaGreat
open Go.RowKit

/-- A step in a block of its own. -/
def StepBox (h : Nat) (s : StepD) (w : World) : Prop := w.heap[h]? = some (.cells s.cells.toArray 79 (0, 0))
theorem StepBox.cells {h : Nat} {s : StepD} {w : World} (hb : StepBox h s w) : w.cell? ⟨h, 0, none⟩ = some (.string s.name) ∧ w.cell? ⟨h, 1, none⟩ = some (.int .i64 s.stub) ∧ w.cell? ⟨h, 2, none⟩ = some (.int .i64 s.retry) ∧ w.cell? ⟨h, 3, none⟩ = some (.int .i64 s.wait) ∧
    w.cell? ⟨h, 4, none⟩ = some (.bool s.undo) ∧ w.cell? ⟨h, 5, none⟩ = some (.bool s.pivot) ∧ ∀ i, w.frozen? ⟨h, i, none⟩ = false :=
  ⟨(cell_of_row w h 0 _ _ _ hb).trans rfl, (cell_of_row w h 1 _ _ _ hb).trans rfl, (cell_of_row w h 2 _ _ _ hb).trans rfl, (cell_of_row w h 3 _ _ _ hb).trans rfl, (cell_of_row w h 4 _ _ _ hb).trans rfl, (cell_of_row w h 5 _ _ _ hb).trans rfl, fun i => frozen_of_row w h i _ _ hb⟩
theorem StepBox.set {h i : Nat} {s s' : StepD} {w : World} {v : Value} (hb : StepBox h s w) (hs : s'.cells.toArray = s.cells.toArray.setIfInBounds i v) : StepBox h s' (w.setCell ⟨h, i, none⟩ v) := by
  unfold StepBox
  rw [hs]
  exact heap_setCell_same w h i _ _ v hb
end Go.Proofs.YtdkiopajilakcaaGreat
/- The pivot, how often a step may be tried, whether a step is hit: the code's and the document's. -/
namespace Go.Proofs.YtdkiopajilakcaaGreat
open Go.RowKit

/-- The slice v holds these bools. -/
def BoolsAt (F : Nat → Prop) (w : World) (v : Value) (l : List Bool) : Prop := FlatAt F w 1 v l.length (l.map fun x => .bool x)
theorem BoolsAt.kept {F : Nat → Prop} {w w' : World} {v : Value} {l : List Bool} (h : BoolsAt F w v l) (hk : Kept F w w') : BoolsAt F w' v l := FlatAt.kept h hk
theorem BoolsAt.at_ {F : Nat → Prop} {w : World} {v : Value} {l : List Bool} (h : BoolsAt F w v l) {i : Nat} (hi : i < l.length) : ∃ x b off c, l[i]? = some x ∧ v = .slice (some ⟨b, off, none⟩) l.length c ∧ l.length ≤ c ∧ F b ∧ b < w.heap.size ∧ w.cell? ⟨b, off + i, none⟩ = some (.bool x) := by
  obtain ⟨b, off, c, hv, hc, hf, hb, hr⟩ := FlatAt.elem h hi
  have hs : l[i]? = some l[i] := List.getElem?_eq_getElem hi
  refine ⟨l[i], b, off, c, hs, hv, hc, hf, hb, ?_⟩
  have := hr 0 (.bool l[i]) (by simp [List.getElem?_drop, hs])
  simpa using this

/-- A definition in a block of its own. -/
def DefBox (y : Nat) (name : ByteArray) (v : Value) (w : World) : Prop := w.heap[y]? = some (.cells #[.string name, v] 35 (0, 0))
theorem DefBox.below {y : Nat} {name : ByteArray} {v : Value} {w w' : World} (h : DefBox y name v w) (hl : Later w w') : DefBox y name v w' := (Below.block hl y (lt_of_block h)).trans h
theorem DefBox.steps {y : Nat} {name : ByteArray} {v : Value} {w : World} (h : DefBox y name v w) : w.cell? ⟨y, 1, none⟩ = some v := (cell_of_row w y 1 _ _ _ h).trans rfl
theorem DefBox.name_ {y : Nat} {name : ByteArray} {v : Value} {w : World} (h : DefBox y name v w) : w.cell? ⟨y, 0, none⟩ = some (.string name) := (cell_of_row w y 0 _ _ _ h).trans rfl

/-- The place of the first one. -/
def IdxIs (f : StepD → Bool) (l : List StepD) (i : Int) : Prop := i = if l.findIdx f < l.length then (l.findIdx f : Int) else -1
section
variable {w : World}
set_option maxHeartbeats 2000000 in
theorem index_at {F : Nat → Prop} {v : SetV} {f : StepD → Bool} {A : Option Addr} {n cap : Nat} {l : List StepD} (h : StepsAt F w (.slice A n cap) l) (hn : n = l.length) (hv : AskAt w v f) (hs : n ≤ 1000) :
    Calls Tryz.prog 101 #[.slice A n cap, v.val] w fun e w' => ∃ i : Int, e = .returned (.int .i64 i) ∧ IdxIs f l i ∧ Later w w' := by
  have H := hide h
  have HN := hide hn
  have HV := hide hv
  have eg := hv.1
  unfold Enters at eg
  clear h hn hv
  obtain ⟨FF, cs⟩ := v
  simp only [SetV.val]
  simp only at eg
  go_enter Tryz.func101, Tryz.ntmps101
  go_wp2
  go_loopw [8] (fun i wr => ∃ q : Nat, q ≤ n ∧ i = .int .i64 (q : Int) ∧ (l.take q).any f = false ∧ Later w wr) (fun i _ => n - (Go.RowKit.intOf i).toNat)
  case atStart => exact ⟨0, by omega, rfl, by simp, Later.refl _⟩
  case round =>
    obtain ⟨q, hq, rfl, hall, hlat⟩ := hrel
    have HA := hide hall
    have HL := hide hlat
    clear hall hlat
    by_cases hlt : q < n
    · obtain ⟨s, b, off, c', hs', hvv, _, _, _, hr⟩ := StepsAt.at_ (StepsAt.kept H.out (Kept.of_below HL.out _)) (i := q) (by rw [← HN.out]; exact hlt)
      rw [← HN.out] at hvv
      obtain ⟨rfl, rfl⟩ : A = some ⟨b, off, none⟩ ∧ cap = c' := by injection hvv with e1 _ e3; exact ⟨e1, e3⟩
      obtain ⟨r0, r1, r2, r3, r4, r5⟩ := range_step hr
      have HP := hide hs'
      have C := hide (HV.out.2 wr s HL.out)
      obtain ⟨t, ht⟩ : ∃ t, f s = t := ⟨_, rfl⟩
      rw [ht] at C
      have HT := hide ht
      unfold StepD.cells at C
      simp only at C
      clear hs' hvv hr ht
      go_wp2_with (fail)
      refine C.out.mono ?_
      rintro e w1 ⟨rfl, hl⟩
      have HL1 := hide (HL.out.trans hl)
      clear hl C r0 r1 r2 r3 r4 r5
      cases t with
      | false =>
        go_wp2
        go_roundw
        case rel =>
          refine ⟨q + 1, by omega, by go_num, ?_, HL1.out⟩
          rw [List.take_add_one, HP.out, List.any_append, HA.out]
          simp [HT.out]
        case measure => simp [Go.RowKit.intOf]; omega
      | true =>
        go_wp2
        go_ret
        have hf := find_at HA.out HP.out HT.out
        refine ⟨(q : Int), rfl, ?_, HL1.out⟩
        have hq2 : q < l.length := by rw [← HN.out]; exact hlt
        unfold IdxIs
        rw [hf, if_pos hq2]
    · have hall : l.any f = false := by
        have h1 := HA.out
        rwa [List.take_of_length_le (by have := HN.out; omega)] at h1
      have HALL := hide hall
      clear hall
      go_wp2
      go_ret
      exact ⟨-1, rfl, by unfold IdxIs; rw [find_none HALL.out, if_neg (by omega)], HL.out⟩

theorem pivot1_any (W : World) (a : StepD) : Calls Tryz.prog 102 #[.agg a.cells.toArray] W fun e W' => e = .returned (.bool a.pivot) ∧ Later W W' := by
  have HL : Hid (Later W (W.alloc (.cells a.cells.toArray 79 (0, 0)))) := (Below.refl _ _).alloc (Nat.le_refl _) _
  unfold StepD.cells at *
  go_enter Tryz.func102, Tryz.ntmps102
  go_wp2
  go_ret
  exact ⟨rfl, HL.out⟩
theorem enters_pivot1 : Enters 102 := fun args w => by go_simp

set_option maxHeartbeats 2000000 in
theorem pivot_any {F : Nat → Prop} {name : ByteArray} {v : Value} {l : List StepD} (h : StepsAt F w v l) (hs : l.length ≤ 1000) :
    Calls Tryz.prog 68 #[.agg #[.string name, v]] w fun e w' => e = .returned (.int .i64 ((pivotN l : Nat) : Int)) ∧ Later w w' := by
  obtain ⟨A, cap, rfl, hc1, hc2, _⟩ := FlatAt.shape h
  obtain ⟨n, hn⟩ : ∃ n, l.length = n := ⟨_, rfl⟩
  rw [hn] at h hc1 hs ⊢
  obtain ⟨W1, hW1⟩ : ∃ W1, W1 = w.alloc (.cells #[.string name, .slice A n cap] 35 (0, 0)) := ⟨_, rfl⟩
  obtain ⟨y, hy⟩ : ∃ y, y = w.heap.size := ⟨_, rfl⟩
  have B1 : Hid (DefBox y name (.slice A n cap) W1) := by rw [hW1, hy]; exact heap_alloc_new w _
  have L1 : Hid (Later w W1) := by rw [hW1]; exact (Below.refl _ _).alloc (Nat.le_refl _) _
  have C1 := hide (index_at (w := W1) (v := ⟨102, #[]⟩) (f := fun a => a.pivot) (StepsAt.kept h (Kept.of_below L1.out _)) hn.symm ⟨enters_pivot1, fun W t _ => pivot1_any W t⟩ hs)
  have HR : Hid (∀ i : Int, IdxIs (fun a => a.pivot) l i → i + 1 = ((pivotN l : Nat) : Int) ∧ -1 ≤ i ∧ i ≤ 1000) := fun i hi => by
    unfold pivotN
    unfold IdxIs at hi
    by_cases hq : l.findIdx (fun a => a.pivot) < l.length
    · rw [if_pos hq] at hi ⊢; omega
    · rw [if_neg hq] at hi ⊢; omega
  have HW1 := hide hW1.symm
  have HY := hide hy.symm
  simp only [SetV.val] at C1
  clear h hn hW1 hy hc1 hc2 hs
  go_enter Tryz.func68, Tryz.ntmps68
  go_wp2_with (fail)
  have hw := HW1.out
  have hyy := HY.out
  simp only [hw, hyy]
  clear hw hyy
  have c1 : W1.cell? ⟨y, 1, none⟩ = some (.slice A n cap) := B1.out.steps
  go_wp2_with (fail)
  refine C1.out.mono ?_
  rintro e w2 ⟨i, rfl, hi, hl2⟩
  obtain ⟨e1, e2, e3⟩ := HR.out i hi
  have HE := hide e1
  have HL := hide (L1.out.trans hl2)
  clear hi hl2 C1 e1
  go_wp2
  go_ret
  exact ⟨ret_int HE.out, HL.out⟩

set_option maxHeartbeats 4000000 in
theorem rpivot_any {F : Nat → Prop} {name : ByteArray} {v : Value} {l : List StepD} (h : StepsAt F w v l) (hs : l.length ≤ 1000) :
    Calls Tryz.prog 108 #[.agg #[.string name, v]] w fun e w' => e = .returned (.int .i64 ((pivotN l : Nat) : Int)) ∧ Later w w' := by
  obtain ⟨A, cap, rfl, hc1, hc2, _⟩ := FlatAt.shape h
  obtain ⟨n, hn⟩ : ∃ n, l.length = n := ⟨_, rfl⟩
  rw [hn] at h hc1 hs ⊢
  obtain ⟨W1, hW1⟩ : ∃ W1, W1 = w.alloc (.cells #[.string name, .slice A n cap] 35 (0, 0)) := ⟨_, rfl⟩
  obtain ⟨y, hy⟩ : ∃ y, y = w.heap.size := ⟨_, rfl⟩
  have B1 : Hid (DefBox y name (.slice A n cap) W1) := by rw [hW1, hy]; exact heap_alloc_new w _
  have L1 : Hid (Later w W1) := by rw [hW1]; exact (Below.refl _ _).alloc (Nat.le_refl _) _
  have H := hide (StepsAt.kept h (Kept.of_below L1.out _))
  obtain ⟨P, hP⟩ : ∃ P, pivotN l = P := ⟨_, rfl⟩
  rw [hP]
  have HP := hide hP
  have HN := hide hn
  have HW1 := hide hW1.symm
  have HY := hide hy.symm
  clear h hn hW1 hy hc1 hc2 hP
  go_enter Tryz.func108, Tryz.ntmps108
  go_wp2_with (fail)
  have hw := HW1.out
  have hyy := HY.out
  simp only [hw, hyy]
  clear hw hyy
  have c1 : W1.cell? ⟨y, 1, none⟩ = some (.slice A n cap) := B1.out.steps
  go_wp2_with (fail)
  go_loopw [8] (fun i wr => ∃ q : Nat, q ≤ n ∧ i = .int .i64 (q : Int) ∧ (l.take q).any (fun s => s.pivot) = false ∧ Later W1 wr) (fun i _ => n - (Go.RowKit.intOf i).toNat)
  case atStart => exact ⟨0, by omega, rfl, by simp, Later.refl _⟩
  case round =>
    obtain ⟨q, hq, rfl, hall, hlat⟩ := hrel
    have HA := hide hall
    have HL := hide hlat
    clear hall hlat
    by_cases hlt : q < n
    · obtain ⟨s, b, off, c', hs', hvv, _, _, _, hr⟩ := StepsAt.at_ (StepsAt.kept H.out (Kept.of_below HL.out _)) (i := q) (by rw [HN.out]; exact hlt)
      rw [HN.out] at hvv
      obtain ⟨rfl, rfl⟩ : A = some ⟨b, off, none⟩ ∧ cap = c' := by injection hvv with e1 _ e3; exact ⟨e1, e3⟩
      obtain ⟨r0, r1, r2, r3, r4, r5⟩ := range_step hr
      have HSI := hide hs'
      have HL2 := fun (o : Obj) => hide (HL.out.alloc (Below.size HL.out) o)
      obtain ⟨p, hp⟩ : ∃ p, s.pivot = p := ⟨_, rfl⟩
      rw [hp] at r5
      have HPV := hide hp
      clear hs' hvv hr hp
      cases p with
      | true =>
        have hv : P = q + 1 := by rw [← HP.out]; exact pivot_at HA.out HSI.out HPV.out
        subst hv
        go_wp2
        go_ret
        exact ⟨ret_int (by omega), L1.out.trans (HL2 _).out⟩
      | false =>
        go_wp2
        go_roundw
        case rel =>
          refine ⟨q + 1, by omega, by go_num, ?_, (HL2 _).out⟩
          rw [List.take_add_one, HSI.out, List.any_append, HA.out]
          simp [HPV.out]
        case measure => simp [Go.RowKit.intOf]; omega
    · have hv : P = 0 := by
        rw [← HP.out]
        have h1 := HA.out
        rw [List.take_of_length_le (by have := HN.out; omega)] at h1
        exact pivot_none h1
      subst hv
      go_wp2
      go_ret
      exact ⟨rfl, L1.out.trans HL.out⟩

theorem tries_any (s : StepD) (h : I64 s.retry) : Calls Tryz.prog 118 #[.agg s.cells.toArray] w fun e w' => e = .returned (.int .i64 (triesF s)) ∧ Later w w' := by
  have HL : Hid (Later w (w.alloc (.cells s.cells.toArray 79 (0, 0)))) := (Below.refl _ _).alloc (Nat.le_refl _) _
  unfold I64 at h
  obtain ⟨T, hT⟩ : ∃ T, triesF s = T := ⟨_, rfl⟩
  rw [hT]
  unfold triesF outB at hT
  have HT := hide hT
  unfold StepD.cells at *
  obtain ⟨nm, st, r, wt, un, pv⟩ := s
  simp only at *
  clear hT
  by_cases h1 : r < 0
  · obtain rfl : T = 0 := by rw [← HT.out]; simp [h1]
    go_enter Tryz.func118, Tryz.ntmps118
    go_wp2
    go_ret
    exact ⟨rfl, HL.out⟩
  · by_cases h2 : 9 < r
    · obtain rfl : T = 0 := by rw [← HT.out]; simp [h2]
      go_enter Tryz.func118, Tryz.ntmps118
      go_wp2
      go_ret
      exact ⟨rfl, HL.out⟩
    · obtain rfl : T = r + 1 := by rw [← HT.out]; simp [h1, h2]
      clear HT
      go_enter Tryz.func118, Tryz.ntmps118
      go_wp2
      go_ret
      exact ⟨rfl, HL.out⟩
theorem enters_tries : Enters 118 := fun args w => by go_simp

theorem hit_no {hs : List Bool} {k : Int} (h : k < 1 ∨ (hs.length : Int) < k) : hitB hs k = false := by
  unfold hitB
  rcases h with h | h
  · rw [decide_eq_false (show ¬ 0 < k by omega)]; rfl
  · rw [decide_eq_false (show ¬ k ≤ (hs.length : Int) by omega)]; simp
theorem hit_at {hs : List Bool} {q : Nat} {x : Bool} (h : hs[q]? = some x) : hitB hs ((q : Int) + 1) = x := by
  have hq := (List.getElem?_eq_some_iff.1 h).1
  unfold hitB
  rw [decide_eq_true (show (0 : Int) < (q : Int) + 1 by omega), decide_eq_true (show (q : Int) + 1 ≤ (hs.length : Int) by omega), show ((q : Int) + 1 - 1).toNat = q from by omega, h]
  simp
set_option maxHeartbeats 2000000 in
theorem isHit_any {F : Nat → Prop} {v : Value} {hs : List Bool} {k : Int} (h : BoolsAt F w v hs) :
    Calls Tryz.prog 119 #[v, .int .i64 k] w fun e w' => e = .returned (.bool (hitB hs k)) ∧ w' = w := by
  obtain ⟨A, c, rfl, h1, h2, _⟩ := FlatAt.shape h
  obtain ⟨n, hn⟩ : ∃ n, hs.length = n := ⟨_, rfl⟩
  rw [hn] at h1
  by_cases hk1 : k < 1
  · rw [hit_no (.inl hk1), hn]
    clear h hn
    have hk2 : ¬ 0 < k := by omega
    go_enter Tryz.func119, Tryz.ntmps119
    go_wp2
    go_ret
    exact ⟨rfl, rfl⟩
  · by_cases hk3 : (n : Int) < k
    · rw [hit_no (.inr (by omega)), hn]
      clear h hn
      have hk2 : 0 < k := by omega
      have hk4 : ¬ k ≤ (n : Int) := by omega
      go_enter Tryz.func119, Tryz.ntmps119
      go_wp2
      go_ret
      exact ⟨rfl, rfl⟩
    · obtain ⟨q, rfl⟩ : ∃ q : Nat, k = (q : Int) + 1 := ⟨(k - 1).toNat, by omega⟩
      have hqn : q < n := by omega
      have hq64 : (q : Int) < 9223372036854775807 := by unfold maxLen at h2; omega
      obtain ⟨x, b, off, c', hx, hvv, _, _, _, hr⟩ := BoolsAt.at_ h (i := q) (by omega)
      rw [hn] at hvv ⊢
      obtain ⟨rfl, rfl⟩ : A = some ⟨b, off, none⟩ ∧ c = c' := by injection hvv with e1 _ e3; exact ⟨e1, e3⟩
      rw [hit_at hx]
      have hk2 : (0 : Int) < (q : Int) + 1 := by omega
      have hk4 : (q : Int) + 1 ≤ (n : Int) := by omega
      have hk5 : (q : Int) + 1 - 1 = (q : Int) := by omega
      clear h hn hvv hx hk1 hk3
      go_enter Tryz.func119, Tryz.ntmps119
      go_wp2
      go_ret
      exact ⟨rfl, rfl⟩
set_option maxHeartbeats 2000000 in
theorem ris_any {F : Nat → Prop} {v : Value} {hs : List Bool} {k : Int} (h : BoolsAt F w v hs) (hk : I64 k) :
    Calls Tryz.prog 109 #[v, .int .i64 k] w fun e w' => e = .returned (.bool (hitB hs k)) ∧ w' = w := by
  obtain ⟨A, c, rfl, h1, h2, _⟩ := FlatAt.shape h
  obtain ⟨n, hn⟩ : ∃ n, hs.length = n := ⟨_, rfl⟩
  rw [hn] at h1
  unfold I64 at hk
  by_cases hk1 : k < 1
  · rw [hit_no (.inl hk1), hn]
    clear h hn
    have hk2 : ¬ 1 ≤ k := by omega
    go_enter Tryz.func109, Tryz.ntmps109
    go_wp2
    go_ret
    exact ⟨rfl, rfl⟩
  · by_cases hk3 : (n : Int) < k
    · rw [hit_no (.inr (by omega)), hn]
      clear h hn
      have hk2 : 1 ≤ k := by omega
      have hk4 : ¬ k ≤ (n : Int) := by omega
      go_enter Tryz.func109, Tryz.ntmps109
      go_wp2
      go_ret
      exact ⟨rfl, rfl⟩
    · obtain ⟨q, rfl⟩ : ∃ q : Nat, k = (q : Int) + 1 := ⟨(k - 1).toNat, by omega⟩
      have hqn : q < n := by omega
      obtain ⟨x, b, off, c', hx, hvv, _, _, _, hr⟩ := BoolsAt.at_ h (i := q) (by omega)
      rw [hn] at hvv ⊢
      obtain ⟨rfl, rfl⟩ : A = some ⟨b, off, none⟩ ∧ c = c' := by injection hvv with e1 _ e3; exact ⟨e1, e3⟩
      rw [hit_at hx]
      have hk2 : (1 : Int) ≤ (q : Int) + 1 := by omega
      have hk4 : (q : Int) + 1 ≤ (n : Int) := by omega
      have hk5 : (q : Int) + 1 - 1 = (q : Int) := by omega
      clear h hn hvv hx hk1 hk3
      go_enter Tryz.func109, Tryz.ntmps109
      go_wp2
      go_ret
      exact ⟨rfl, rfl⟩
end
end Go.Proofs.YtdkiopajilakcaaGreat
/- How often a step may be tried, and whether there is no way back: the code's and the document's. -/
namespace Go.Proofs.YtdkiopajilakcaaGreat
open Go.RowKit

theorem triesN_no {l : List StepD} {k : Int} (h : k < 1 ∨ (l.length : Int) < k) : triesN l k = 0 := by unfold triesN; rw [if_pos h]
theorem triesN_at {l : List StepD} {q : Nat} {s : StepD} (h : l[q]? = some s) : triesN l ((q : Int) + 1) = triesF s := by
  have hq := (List.getElem?_eq_some_iff.1 h).1
  unfold triesN
  rw [if_neg (by omega), show ((q : Int) + 1 - 1).toNat = q from by omega, h]
  rfl
section
variable {w : World}
set_option maxHeartbeats 4000000 in
theorem Tries_any {F : Nat → Prop} {name : ByteArray} {v : Value} {l : List StepD} {k : Int} (h : StepsAt F w v l) (hk : I64 k) (hw : ∀ s ∈ l, s.wf) :
    Calls Tryz.prog 93 #[.agg #[.string name, v], .int .i64 k] w fun e w' => e = .returned (.int .i64 (triesN l k)) ∧ Later w w' := by
  obtain ⟨A, cap, rfl, hc1, hc2, _⟩ := FlatAt.shape h
  obtain ⟨n, hn⟩ : ∃ n, l.length = n := ⟨_, rfl⟩
  rw [hn] at h hc1 ⊢
  obtain ⟨W1, hW1⟩ : ∃ W1, W1 = w.alloc (.cells #[.string name, .slice A n cap] 35 (0, 0)) := ⟨_, rfl⟩
  obtain ⟨y, hy⟩ : ∃ y, y = w.heap.size := ⟨_, rfl⟩
  have B1 : Hid (DefBox y name (.slice A n cap) W1) := by rw [hW1, hy]; exact heap_alloc_new w _
  have L1 : Hid (Later w W1) := by rw [hW1]; exact (Below.refl _ _).alloc (Nat.le_refl _) _
  have HW1 := hide hW1.symm
  have HY := hide hy.symm
  have H := hide (StepsAt.kept h (Kept.of_below L1.out _))
  have c1 : W1.cell? ⟨y, 1, none⟩ = some (.slice A n cap) := B1.out.steps
  obtain ⟨T, hT⟩ : ∃ T, triesN l k = T := ⟨_, rfl⟩
  rw [hT]
  have HT := hide hT
  unfold I64 at hk
  have HN := hide hn
  clear h hW1 hy hT hc2 hn
  by_cases hk1 : k < 1
  · obtain rfl : T = 0 := by rw [← HT.out]; exact triesN_no (.inl hk1)
    go_enter Tryz.func93, Tryz.ntmps93
    go_wp2_with (fail)
    have hw := HW1.out
    have hyy := HY.out
    simp only [hw, hyy]
    clear hw hyy
    go_wp2
    go_ret
    exact ⟨rfl, L1.out⟩
  · by_cases hk3 : (n : Int) < k
    · obtain rfl : T = 0 := by rw [← HT.out]; exact triesN_no (.inr (by rw [HN.out]; exact hk3))
      go_enter Tryz.func93, Tryz.ntmps93
      go_wp2_with (fail)
      have hw := HW1.out
      have hyy := HY.out
      simp only [hw, hyy]
      clear hw hyy
      go_wp2
      go_ret
      exact ⟨rfl, L1.out⟩
    · obtain ⟨q, rfl⟩ : ∃ q : Nat, k = (q : Int) + 1 := ⟨(k - 1).toNat, by omega⟩
      have hqn : q < n := by omega
      obtain ⟨s, b, off, c', hx, hvv, _, _, _, hr⟩ := StepsAt.at_ H.out (i := q) (by rw [HN.out]; exact hqn)
      rw [HN.out] at hvv
      obtain ⟨rfl, rfl⟩ : A = some ⟨b, off, none⟩ ∧ cap = c' := by injection hvv with e1 _ e3; exact ⟨e1, e3⟩
      obtain rfl : T = triesF s := by rw [← HT.out]; exact triesN_at hx
      have C := hide (tries_any (w := W1) s (hw s (List.mem_of_getElem? hx)).2.2.1)
      obtain ⟨r0, r1, r2, r3, r4, r5⟩ := range_step hr
      have hk5 : (q : Int) + 1 - 1 = (q : Int) := by omega
      have hk6 : ¬ ((n : Int) < (q : Int) + 1) := hk3
      have hk7 : ¬ ((q : Int) + 1 < 1) := hk1
      clear hvv hx hk1 hk3 hw hr
      unfold StepD.cells at C
      rw [← HW1.out] at r0 r1 r2 r3 r4 r5
      go_enter Tryz.func93, Tryz.ntmps93
      go_wp2_with (fail)
      have hw := HW1.out
      simp only [hw]
      clear hw r0 r1 r2 r3 r4 r5
      refine C.out.mono ?_
      rintro e w2 ⟨rfl, hl2⟩
      have HL := hide (L1.out.trans hl2)
      clear hl2 C
      go_wp2
      go_ret
      exact ⟨rfl, HL.out⟩

set_option maxHeartbeats 4000000 in
theorem rTries_any {F : Nat → Prop} {name : ByteArray} {v : Value} {l : List StepD} {k : Int} (h : StepsAt F w v l) (hk : I64 k) (hw : ∀ s ∈ l, s.wf) :
    Calls Tryz.prog 107 #[.agg #[.string name, v], .int .i64 k] w fun e w' => e = .returned (.int .i64 (triesN l k)) ∧ Later w w' := by
  obtain ⟨A, cap, rfl, hc1, hc2, _⟩ := FlatAt.shape h
  obtain ⟨n, hn⟩ : ∃ n, l.length = n := ⟨_, rfl⟩
  rw [hn] at h hc1 ⊢
  obtain ⟨W1, hW1⟩ : ∃ W1, W1 = w.alloc (.cells #[.string name, .slice A n cap] 35 (0, 0)) := ⟨_, rfl⟩
  obtain ⟨y, hy⟩ : ∃ y, y = w.heap.size := ⟨_, rfl⟩
  have B1 : Hid (DefBox y name (.slice A n cap) W1) := by rw [hW1, hy]; exact heap_alloc_new w _
  have L1 : Hid (Later w W1) := by rw [hW1]; exact (Below.refl _ _).alloc (Nat.le_refl _) _
  have HW1 := hide hW1.symm
  have HY := hide hy.symm
  have H := hide (StepsAt.kept h (Kept.of_below L1.out _))
  have c1 : W1.cell? ⟨y, 1, none⟩ = some (.slice A n cap) := B1.out.steps
  obtain ⟨T, hT⟩ : ∃ T, triesN l k = T := ⟨_, rfl⟩
  rw [hT]
  have HT := hide hT
  unfold I64 at hk
  have HN := hide hn
  clear h hW1 hy hT hc2 hn
  by_cases hk1 : k < 1
  · obtain rfl : T = 0 := by rw [← HT.out]; exact triesN_no (.inl hk1)
    go_enter Tryz.func107, Tryz.ntmps107
    go_wp2_with (fail)
    have hw := HW1.out
    have hyy := HY.out
    simp only [hw, hyy]
    clear hw hyy
    go_wp2
    go_ret
    exact ⟨rfl, L1.out⟩
  · by_cases hk3 : (n : Int) < k
    · obtain rfl : T = 0 := by rw [← HT.out]; exact triesN_no (.inr (by rw [HN.out]; exact hk3))
      go_enter Tryz.func107, Tryz.ntmps107
      go_wp2_with (fail)
      have hw := HW1.out
      have hyy := HY.out
      simp only [hw, hyy]
      clear hw hyy
      go_wp2
      go_ret
      exact ⟨rfl, L1.out⟩
    · obtain ⟨q, rfl⟩ : ∃ q : Nat, k = (q : Int) + 1 := ⟨(k - 1).toNat, by omega⟩
      have hqn : q < n := by omega
      obtain ⟨s, b, off, c', hx, hvv, _, _, _, hr⟩ := StepsAt.at_ H.out (i := q) (by rw [HN.out]; exact hqn)
      rw [HN.out] at hvv
      obtain ⟨rfl, rfl⟩ : A = some ⟨b, off, none⟩ ∧ cap = c' := by injection hvv with e1 _ e3; exact ⟨e1, e3⟩
      have hTs : T = triesF s := by rw [← HT.out]; exact triesN_at hx
      have hwf := (hw s (List.mem_of_getElem? hx)).2.2.1
      unfold triesF outB at hTs
      unfold I64 at hwf
      obtain ⟨r0, r1, r2, r3, r4, r5⟩ := range_step hr
      have hk5 : (q : Int) + 1 - 1 = (q : Int) := by omega
      have hk6 : ¬ ((n : Int) < (q : Int) + 1) := hk3
      have hk7 : ¬ ((q : Int) + 1 < 1) := hk1
      obtain ⟨r, hrr⟩ : ∃ r, s.retry = r := ⟨_, rfl⟩
      rw [hrr] at r2 hTs hwf
      clear hvv hx hk1 hk3 hw hr r0 r1 r3 r4 r5 hrr
      by_cases h1 : r < 0
      · obtain rfl : T = 0 := by rw [hTs]; simp [h1]
        clear hTs
        rw [← HW1.out] at r2
        go_enter Tryz.func107, Tryz.ntmps107
        go_wp2
        rw [HW1.out]
        go_ret
        exact ⟨rfl, L1.out⟩
      · by_cases h2 : 9 < r
        · obtain rfl : T = 0 := by rw [hTs]; simp [h2]
          clear hTs
          rw [← HW1.out] at r2
          go_enter Tryz.func107, Tryz.ntmps107
          go_wp2
          rw [HW1.out]
          go_ret
          exact ⟨rfl, L1.out⟩
        · obtain rfl : T = r + 1 := by rw [hTs]; simp [h1, h2]
          clear hTs HT
          rw [← HW1.out] at r2
          go_enter Tryz.func107, Tryz.ntmps107
          go_wp2
          rw [HW1.out]
          go_ret
          exact ⟨rfl, L1.out⟩

set_option maxHeartbeats 2000000 in
theorem sealed_any {F G : Nat → Prop} {name : ByteArray} {v v2 : Value} {l : List StepD} {hs : List Bool} (h : StepsAt F w v l) (hl : l.length ≤ 1000) (hh : BoolsAt G w v2 hs) :
    Calls Tryz.prog 100 #[.agg #[.string name, v], v2] w fun e w' => e = .returned (.bool (sealedF l hs)) ∧ Later w w' := by
  obtain ⟨A, cap, rfl, hc1, hc2, _⟩ := FlatAt.shape h
  obtain ⟨A2, cap2, rfl, _, _, _⟩ := FlatAt.shape hh
  obtain ⟨n, hn⟩ : ∃ n, l.length = n := ⟨_, rfl⟩
  obtain ⟨n2, hn2⟩ : ∃ n, hs.length = n := ⟨_, rfl⟩
  rw [hn] at h hc1
  rw [hn2] at hh
  rw [hn, hn2]
  obtain ⟨W1, hW1⟩ : ∃ W1, W1 = w.alloc (.cells #[.string name, .slice A n cap] 35 (0, 0)) := ⟨_, rfl⟩
  obtain ⟨y, hy⟩ : ∃ y, y = w.heap.size := ⟨_, rfl⟩
  have B1 : Hid (DefBox y name (.slice A n cap) W1) := by rw [hW1, hy]; exact heap_alloc_new w _
  have L1 : Hid (Later w W1) := by rw [hW1]; exact (Below.refl _ _).alloc (Nat.le_refl _) _
  have HW1 := hide hW1.symm
  have HY := hide hy.symm
  have C1 := hide (pivot_any (name := name) (StepsAt.kept h (Kept.of_below L1.out _)) hl)
  have C2 : Hid (∀ W, Later w W → Calls Tryz.prog 119 #[.slice A2 n2 cap2, .int .i64 ((pivotN l : Nat) : Int)] W fun e w' => e = .returned (.bool (sealedF l hs)) ∧ w' = W) := fun W hlW => isHit_any (BoolsAt.kept hh (Kept.of_below hlW _))
  have c0 : W1.cell? ⟨y, 0, none⟩ = some (.string name) := B1.out.name_
  have c1 : W1.cell? ⟨y, 1, none⟩ = some (.slice A n cap) := B1.out.steps
  obtain ⟨S, hS⟩ : ∃ S, sealedF l hs = S := ⟨_, rfl⟩
  obtain ⟨P, hP⟩ : ∃ P : Nat, pivotN l = P := ⟨_, rfl⟩
  rw [hS] at C2 ⊢
  rw [hP] at C1 C2
  clear h hh hn hn2 hW1 hy hc1 hc2 hS hP
  go_enter Tryz.func100, Tryz.ntmps100
  go_wp2_with (fail)
  have hw := HW1.out
  have hyy := HY.out
  simp only [hw, hyy]
  clear hw hyy
  go_wp2_with (fail)
  refine C1.out.mono ?_
  rintro e w2 ⟨rfl, hl2⟩
  have HL := hide (L1.out.trans hl2)
  clear hl2 C1 c0 c1
  go_wp2_with (fail)
  refine (C2.out _ HL.out).mono ?_
  rintro e w3 ⟨rfl, hq⟩
  obtain rfl := hq.symm
  go_wp2
  go_ret
  exact ⟨rfl, HL.out⟩

set_option maxHeartbeats 2000000 in
theorem rsealed_any {F G : Nat → Prop} {name : ByteArray} {v v2 : Value} {l : List StepD} {hs : List Bool} (h : StepsAt F w v l) (hl : l.length ≤ 1000) (hh : BoolsAt G w v2 hs) :
    Calls Tryz.prog 82 #[.agg #[.string name, v], v2] w fun e w' => e = .returned (.bool (sealedF l hs)) ∧ Later w w' := by
  obtain ⟨A, cap, rfl, hc1, hc2, _⟩ := FlatAt.shape h
  obtain ⟨A2, cap2, rfl, _, _, _⟩ := FlatAt.shape hh
  obtain ⟨n, hn⟩ : ∃ n, l.length = n := ⟨_, rfl⟩
  obtain ⟨n2, hn2⟩ : ∃ n, hs.length = n := ⟨_, rfl⟩
  have hle := pivotN_le l
  rw [hn] at h hc1
  rw [hn2] at hh
  rw [hn, hn2]
  obtain ⟨W1, hW1⟩ : ∃ W1, W1 = w.alloc (.cells #[.string name, .slice A n cap] 35 (0, 0)) := ⟨_, rfl⟩
  obtain ⟨y, hy⟩ : ∃ y, y = w.heap.size := ⟨_, rfl⟩
  have B1 : Hid (DefBox y name (.slice A n cap) W1) := by rw [hW1, hy]; exact heap_alloc_new w _
  have L1 : Hid (Later w W1) := by rw [hW1]; exact (Below.refl _ _).alloc (Nat.le_refl _) _
  have HW1 := hide hW1.symm
  have HY := hide hy.symm
  have C1 : Hid (∀ W, Later w W → Calls Tryz.prog 108 #[.agg #[.string name, .slice A n cap]] W fun e w' => e = .returned (.int .i64 ((pivotN l : Nat) : Int)) ∧ Later W w') := by
    have h2 := fun W (hlW : Later w W) => rpivot_any (name := name) (StepsAt.kept h (Kept.of_below hlW _)) hl
    exact h2
  have C2 : Hid (∀ W, Later w W → Calls Tryz.prog 109 #[.slice A2 n2 cap2, .int .i64 ((pivotN l : Nat) : Int)] W fun e w' => e = .returned (.bool (sealedF l hs)) ∧ w' = W) := fun W hlW => ris_any (BoolsAt.kept hh (Kept.of_below hlW _)) (by unfold I64; omega)
  have c0 : W1.cell? ⟨y, 0, none⟩ = some (.string name) := B1.out.name_
  have c1 : W1.cell? ⟨y, 1, none⟩ = some (.slice A n cap) := B1.out.steps
  obtain ⟨S, hS⟩ : ∃ S, sealedF l hs = S := ⟨_, rfl⟩
  have HS0 : Hid (pivotN l = 0 → S = false) := fun h0 => by rw [← hS]; unfold sealedF; exact hit_no (.inl (by rw [h0]; decide))
  obtain ⟨P, hP⟩ : ∃ P : Nat, pivotN l = P := ⟨_, rfl⟩
  rw [hS] at C2 ⊢
  rw [hP] at C1 C2 HS0 hle
  clear h hh hn hn2 hW1 hy hc1 hc2 hS hP
  go_enter Tryz.func82, Tryz.ntmps82
  go_wp2_with (fail)
  have hw := HW1.out
  have hyy := HY.out
  simp only [hw, hyy]
  clear hw hyy
  go_wp2_with (fail)
  refine (C1.out _ L1.out).mono ?_
  rintro e w2 ⟨rfl, hl2⟩
  have B2 := hide (B1.out.below hl2)
  have HL := hide (L1.out.trans hl2)
  have d0 : w2.cell? ⟨y, 0, none⟩ = some (.string name) := B2.out.name_
  have d1 : w2.cell? ⟨y, 1, none⟩ = some (.slice A n cap) := B2.out.steps
  clear hl2 c0 c1
  by_cases hp : P = 0
  · subst hp
    obtain rfl : S = false := HS0.out rfl
    go_wp2
    go_ret
    exact ⟨rfl, HL.out⟩
  · have hp2 : (0 : Int) < (P : Int) := by omega
    go_wp2_with (fail)
    refine (C1.out _ HL.out).mono ?_
    rintro e w3 ⟨rfl, hl3⟩
    have HL3 := hide (HL.out.trans hl3)
    clear hl3 d0 d1 C1
    go_wp2_with (fail)
    refine (C2.out _ HL3.out).mono ?_
    rintro e w4 ⟨rfl, hq⟩
    obtain rfl := hq.symm
    go_wp2
    go_ret
    exact ⟨rfl, HL3.out⟩
end
end Go.Proofs.YtdkiopajilakcaaGreat
/- The way down: steps are gone down by a range over a function. -/
namespace Go.Proofs.YtdkiopajilakcaaGreat
open Go.RowKit Go.Shelf

attribute [local go_sem] Oper.semAt_some

def noStep : StepD := ⟨⟨#[]⟩, 0, 0, 0, false, false⟩
/-- What has come when k rounds are over: steps N, N - 1, .. with their numbers. -/
def cameN (l : List StepD) (N k : Nat) : List (Nat × StepD) := (List.range k).map fun j => (N - j, (l[N - j - 1]?).getD noStep)
theorem came_succ (l : List StepD) (N k : Nat) : cameN l N (k + 1) = cameN l N k ++ [(N - k, (l[N - k - 1]?).getD noStep)] := by simp [cameN, List.range_succ]
theorem came_len (l : List StepD) (N k : Nat) : (cameN l N k).length = k := by simp [cameN]
theorem came_mem {l : List StepD} {N k j : Nat} (h : j < k) : (N - j, (l[N - j - 1]?).getD noStep) ∈ cameN l N k := by
  simp only [cameN, List.mem_map, List.mem_range]; exact ⟨j, h, rfl⟩
def offB (hs : List Bool) (p : Nat × StepD) : Bool := p.2.undo && hitB hs (p.1 : Int)
theorem off_at {l : List StepD} {hs : List Bool} {N j : Nat} (h : j < N) (hN : N ≤ l.length) : offB hs (N - j, (l[N - j - 1]?).getD noStep) = okAt l hs (N - j - 1) := by
  have hl : l[N - j - 1]? = some l[N - j - 1] := List.getElem?_eq_getElem (by omega)
  rw [okAt_hit hl]
  unfold offB
  rw [hl]
  simp only [Option.getD_some]
  rw [show ((N - j : Nat) : Int) = ((N - j - 1 : Nat) : Int) + 1 from by omega]
theorem down_skip {l : List StepD} {hs : List Bool} {N : Nat} : ∀ (k : Nat), k ≤ N → (∀ j, j < k → okAt l hs (N - j - 1) = false) → downN l hs N = downN l hs (N - k)
  | 0, _, _ => rfl
  | k + 1, hk, h => by
    rw [down_skip k (by omega) fun j hj => h j (by omega)]
    have h1 := h k (by omega)
    obtain ⟨m, hm⟩ : ∃ m, N - k = m + 1 := ⟨N - k - 1, by omega⟩
    rw [show N - k - 1 = m from by omega] at h1
    rw [hm, show N - (k + 1) = m from by omega, downN, if_neg (by rw [h1]; simp)]
theorem down_all {l : List StepD} {hs : List Bool} {N : Nat} (hN : N ≤ l.length) (h : ∀ p ∈ cameN l N N, offB hs p = false) : downN l hs N = 0 := by
  rw [down_skip N (Nat.le_refl _) fun j hj => by rw [← off_at hj hN]; exact h _ (came_mem hj), Nat.sub_self]
  rfl
theorem down_found {l : List StepD} {hs : List Bool} {N k : Nat} (hN : N ≤ l.length) (hk : k ≤ N) {ini : List (Nat × StepD)} {p : Nat × StepD} (he : cameN l N k = ini ++ [p]) (hi : ∀ q ∈ ini, offB hs q = false) (hp : offB hs p = true) : downN l hs N = p.1 := by
  obtain ⟨k', rfl⟩ : ∃ k', k = k' + 1 := by
    cases k with
    | zero => simp [cameN] at he
    | succ k' => exact ⟨k', rfl⟩
  rw [came_succ] at he
  obtain ⟨rfl, e5⟩ := List.append_inj' he rfl
  obtain rfl : (N - k', (l[N - k' - 1]?).getD noStep) = p := by simpa using e5
  rw [down_skip k' (by omega) fun j hj => by rw [← off_at (by omega) hN]; exact hi _ (came_mem hj)]
  rw [off_at (by omega) hN] at hp
  obtain ⟨m, hm⟩ : ∃ m, N - k' = m + 1 := ⟨N - k' - 1, by omega⟩
  rw [hm, Nat.add_sub_cancel] at hp
  rw [hm, downN, if_pos hp]

/-- All have come, or the body has said no. -/
def Gave (l : List StepD) (N : Nat) (J Jx : List (Nat × StepD) → World → Prop) (W : World) : Prop := (∃ ys, ys = cameN l N N ∧ J ys W) ∨ (∃ pre, (∃ k, k ≤ N ∧ pre = cameN l N k) ∧ Jx pre W)
/-- What a round is handed. -/
abbrev encS (x : Nat × StepD) : Array Value := #[.int .i64 (x.1 : Int), .agg #[.string x.2.name, .int .i64 x.2.stub, .int .i64 x.2.retry, .int .i64 x.2.wait, .bool x.2.undo, .bool x.2.pivot]]

set_option maxRecDepth 100000 in
set_option maxHeartbeats 2000000 in
/-- The steps, down from a number: for every body of a loop that keeps what lay. -/
theorem down1_in {G : Nat → Prop} (F : Fence) (n : Nat) (hF : F.fn 138) (hro : F.round = none) (hn : 1 ≤ n) (lr bf bl len cap N : Nat) {A : Option Addr} {l : List StepD} {w : World} (H : Hid (StepsAt G w (.slice A len cap) l)) (hlen : Hid (l.length = len)) (M : Int) (hM : M ≤ (len : Int)) (hM2 : -9223372036854775808 ≤ M) (hlen2 : len ≤ 1000) (hN : N = M.toNat) (fr : Int) (hfr : min fr (len : Int) = M) (J Jx : List (Nat × StepD) → World → Prop)
    (hY : ∀ pre x W, J pre W → pre.length < N → YieldAt F (n - 1) Tryz.prog lr (encS x) W fun e W' =>
      (e = .returned (.bool true) ∧ J (pre ++ [x]) W' ∧ Below w.heap.size W W') ∨ (e = .returned (.bool false) ∧ Jx (pre ++ [x]) W'))
    (W : World) (hW : Below w.heap.size w W) (bF : bf < w.heap.size) (bL : bl < w.heap.size) (hf : w.cell? ⟨bf, 0, none⟩ = some (.int .i64 fr)) (hl : w.cell? ⟨bl, 0, none⟩ = some (.slice A len cap)) (h0 : J [] W) :
    CallsIn F n Tryz.prog 138 #[.func (.yield lr) #[] #[], .pointer (some ⟨bf, 0, none⟩), .pointer (some ⟨bl, 0, none⟩)] W fun e W' => (∃ v, e = .returned v) ∧ Gave l N J Jx W' := by
  have cf : W.cell? ⟨bf, 0, none⟩ = some (.int .i64 fr) := (hW.cell (p := ⟨bf, 0, none⟩) bF).trans hf
  have cl : W.cell? ⟨bl, 0, none⟩ = some (.slice A len cap) := (hW.cell (p := ⟨bl, 0, none⟩) bL).trans hl
  have HM := hide hfr
  have HL := hide hl
  clear hfr hf hl
  refine callsIn_of_wp Tryz.func138 rfl hF ?_ hro
  simp only [Tryz.ntmps138, List.size_toArray, List.length_cons, List.length_nil, Nat.reduceAdd, Nat.reduceSub, Array.replicate_succ, Array.replicate_zero, List.push_toArray, List.append_toArray, List.nil_append, List.cons_append]
  gi_wp2
  have hm := HM.out
  simp only [hm]
  clear hm cf cl
  gi_loopw [4] (fun i wr => ∃ k : Nat, k ≤ N ∧ i = .int .i64 (M - (k : Int)) ∧ J (cameN l N k) wr ∧ Below w.heap.size w wr)
    (fun i _ => (Go.RowKit.intOf i).toNat)
  case atStart => exact ⟨0, Nat.zero_le _, by simp, h0, hW⟩
  case round =>
    obtain ⟨k, hk, rfl, hJs, hnx⟩ := hrel
    have cl : wr.cell? ⟨bl, 0, none⟩ = some (.slice A len cap) := (hnx.cell (p := ⟨bl, 0, none⟩) bL).trans HL.out
    by_cases hlt : k < N
    · have hq : N - k - 1 < len := by omega
      obtain ⟨s, b, off, c', hx, hvv, _, _, _, hr⟩ := StepsAt.at_ (StepsAt.kept H.out (Kept.of_below hnx _)) (i := N - k - 1) (by rw [hlen.out]; exact hq)
      rw [hlen.out] at hvv
      obtain ⟨rfl, rfl⟩ : A = some ⟨b, off, none⟩ ∧ cap = c' := by injection hvv with e1 _ e3; exact ⟨e1, e3⟩
      obtain ⟨fn, tmps, assign, body, hy, hR⟩ := hY _ (N - k, s) wr hJs (by rw [came_len]; exact hlt)
      obtain ⟨q, hqq⟩ : ∃ q : Nat, N - k - 1 = q := ⟨_, rfl⟩
      rw [hqq] at hr hq hx
      obtain ⟨r0, r1, r2, r3, r4, r5⟩ := range_step hr
      have e1 : M - (k : Int) = (q : Int) + 1 := by omega
      have e2 : N - k = q + 1 := by omega
      have e3 : (q : Int) + 1 - 1 = (q : Int) := by omega
      have HX := hide hx
      have HQ := hide hqq
      dsimp only [encS] at hy
      rw [e2] at hy hR
      simp only [Int.natCast_add, Int.cast_ofNat_Int] at hy
      have HK := hide hk
      have HLT := hide hlt
      have HN := hide hN
      have HMM := hide hM
      have hq0 : 0 < (q : Int) + 1 := by omega
      have HE1 := hide e1
      have HE2 := hide e2
      simp only [e1]
      clear hx hqq hvv hr e1 e2 hk hlt hN hM
      gi_wp2
      refine hR.mono ?_
      have hcame : cameN l N k ++ [(q + 1, s)] = cameN l N (k + 1) := by
        rw [came_succ, HE2.out, Nat.add_sub_cancel, HX.out]
        rfl
      rw [hcame]
      rintro e W3 (⟨rfl, hJ3, hk3⟩ | ⟨rfl, hJx3⟩)
      · gi_wp2
        go_roundw
        case rel => exact ⟨k + 1, HLT.out, by have := HE1.out; rw [show (q : Int) = M - ((k + 1 : Nat) : Int) from by omega], hJ3, hnx.trans hk3⟩
        case measure => simp [Go.RowKit.intOf]
      · gi_wp2
        refine bodyPost_ret (results_none rfl _ _ _) rfl ?_
        exact ⟨⟨_, rfl⟩, .inr ⟨_, ⟨k + 1, HLT.out, rfl⟩, hJx3⟩⟩
    · have hno : ¬ 0 < M - (k : Int) := by omega
      have hkN : k = N := by omega
      rw [hkN] at hJs
      have HJ := hide hJs
      clear hN hkN hJs hlt hk hM hM2 hY
      gi_wp2
      go_end0
      exact ⟨⟨_, rfl⟩, .inl ⟨_, rfl, HJ.out⟩⟩

theorem down_stops {G : Nat → Prop} (F : Fence) (n : Nat) (hF : F.fn 138) (hro : F.round = none) (hn : 1 ≤ n) (bf bl len cap N : Nat) {A : Option Addr} {l : List StepD} {w : World} (H : StepsAt G w (.slice A len cap) l) (hlen : l.length = len) (hlen2 : len ≤ 1000) (fr : Int) (hfr : I64 fr) (hN : N = (min fr (len : Int)).toNat)
    (bF : bf < w.heap.size) (bL : bl < w.heap.size) (hf : w.cell? ⟨bf, 0, none⟩ = some (.int .i64 fr)) (hl : w.cell? ⟨bl, 0, none⟩ = some (.slice A len cap)) :
    SeqStopsK F n Tryz.prog 138 #[.pointer (some ⟨bf, 0, none⟩), .pointer (some ⟨bl, 0, none⟩)] encS (Below w.heap.size) (fun ys => ys = cameN l N N) (fun pre => ∃ k, k ≤ N ∧ pre = cameN l N k) N w :=
  fun lr J Jx W hW _ _ hY h0 => down1_in F n hF hro hn lr bf bl len cap N (hide H) (hide hlen) (min fr (len : Int)) (by omega) (by unfold I64 at hfr; omega) hlen2 hN fr rfl J Jx hY W hW bF bL hf hl h0

theorem step_own {β : Type} (B : Nat) (s : StepD) : Own (fun (_ : β) W => StepBox B s W) := fun _ X Y row hs hg hrow =>
  (hg.block B (lt_of_block hs) (fun e => by obtain ⟨o, h1, h2⟩ := hrow B e.symm; rw [show X.heap[B]? = _ from hs] at h1; cases h1; cases h2)).trans hs

set_option maxHeartbeats 1000000 in
theorem downF_any (A : Option Addr) (len cap : Nat) (fr : Int) (w : World) :
    Calls Tryz.prog 120 #[.slice A len cap, .int .i64 fr] w fun e w' => e = .returned (.func (.func 138) #[] #[.pointer (some ⟨w.heap.size + 1, 0, none⟩), .pointer (some ⟨w.heap.size, 0, none⟩)]) ∧ w' = (w.alloc (.cells #[.slice A len cap] 33 (0, 0))).alloc (.cells #[.int .i64 fr] 3 (0, 0)) := by
  go_enter Tryz.func120, Tryz.ntmps120
  go_wp2
  go_ret
  exact ⟨rfl, rfl⟩

theorem iint_own {β : Type} (B : Nat) (t : TypeId) (v : Value) : Own (fun (_ : β) W => Boxed W B t v) := boxed_own B t fun _ => v
set_option maxRecDepth 100000 in
set_option maxHeartbeats 4000000 in
theorem Down_any {G G2 : Nat → Prop} {name : ByteArray} {v v2 : Value} {l : List StepD} {hs : List Bool} {fr : Int} {w : World} (h : StepsAt G w v l) (hl : l.length ≤ 1000) (hh : BoolsAt G2 w v2 hs) (hfr : I64 fr) :
    Calls Tryz.prog 104 #[.agg #[.string name, v], v2, .int .i64 fr] w fun e w' => e = .returned (.int .i64 ((downF l hs fr : Nat) : Int)) ∧ Later w w' := by
  obtain ⟨A, cap, rfl, hc1, hc2, _⟩ := FlatAt.shape h
  obtain ⟨A2, cap2, rfl, _, _, _⟩ := FlatAt.shape hh
  obtain ⟨len, hn⟩ : ∃ n, l.length = n := ⟨_, rfl⟩
  obtain ⟨n2, hn2⟩ : ∃ n, hs.length = n := ⟨_, rfl⟩
  rw [hn] at h hc1 hl ⊢
  rw [hn2] at hh ⊢
  have HN2 := hide hn2
  obtain ⟨R, hR⟩ : ∃ R, downF l hs fr = R := ⟨_, rfl⟩
  rw [hR]
  obtain ⟨N, hN⟩ : ∃ N, N = (min fr (len : Int)).toNat := ⟨_, rfl⟩
  have hR2 : R = downN l hs N := by rw [← hR, hN]; unfold downF; rw [hn]
  have hNl : N ≤ l.length := by omega
  have HR := hide hR2
  have HN := hide hN
  have HNL := hide hNl
  have HLEN := hide hn
  have H := hide h
  have HH := hide hh
  clear h hh hn hn2 hR hR2 hc1 hc2 hN hNl
  refine (callsIn_wide (n := 5)).1 ?_
  refine callsIn_of_wp_marks Tryz.func104 rfl trivial ?_ rfl
  simp only [Tryz.ntmps104, List.size_toArray, List.length_cons, List.length_nil, Nat.reduceAdd, Nat.reduceSub, Array.replicate_succ, Array.replicate_zero, List.push_toArray, List.append_toArray, List.nil_append, List.cons_append]
  gi_wp2_with (refine ⟨trivial, ?_⟩; gi_at_call 120; refine (callsIn_wide.2 (downF_any _ _ _ _ _)).mono ?_; rintro e w' ⟨rfl, rfl⟩)
  have bH := (((Boxed.new (w.alloc (.cells #[.string name, .slice A len cap] 35 (0, 0))) 138 (.slice A2 n2 cap2)).alloc (.cells #[.int .i64 0] 3 (0, 0))).alloc (.cells #[.slice A len cap] 33 (0, 0))).alloc (.cells #[.int .i64 fr] 3 (0, 0))
  have bR := ((Boxed.new ((w.alloc (.cells #[.string name, .slice A len cap] 35 (0, 0))).alloc (.cells #[.slice A2 n2 cap2] 138 (0, 0))) 3 (.int .i64 0)).alloc (.cells #[.slice A len cap] 33 (0, 0))).alloc (.cells #[.int .i64 fr] 3 (0, 0))
  have bL := (Boxed.new (((w.alloc (.cells #[.string name, .slice A len cap] 35 (0, 0))).alloc (.cells #[.slice A2 n2 cap2] 138 (0, 0))).alloc (.cells #[.int .i64 0] 3 (0, 0))) 33 (.slice A len cap)).alloc (.cells #[.int .i64 fr] 3 (0, 0))
  have bF := Boxed.new ((((w.alloc (.cells #[.string name, .slice A len cap] 35 (0, 0))).alloc (.cells #[.slice A2 n2 cap2] 138 (0, 0))).alloc (.cells #[.int .i64 0] 3 (0, 0))).alloc (.cells #[.slice A len cap] 33 (0, 0))) 3 (.int .i64 fr)
  have hB0 : Below w.heap.size w (((((w.alloc (.cells #[.string name, .slice A len cap] 35 (0, 0))).alloc (.cells #[.slice A2 n2 cap2] 138 (0, 0))).alloc (.cells #[.int .i64 0] 3 (0, 0))).alloc (.cells #[.slice A len cap] 33 (0, 0))).alloc (.cells #[.int .i64 fr] 3 (0, 0))) :=
    (((((Below.refl _ w).alloc (Nat.le_refl _) _).alloc (by simp) _).alloc (by simp; omega) _).alloc (by simp; omega) _).alloc (by simp; omega) _
  have hsz : (((((w.alloc (.cells #[.string name, .slice A len cap] 35 (0, 0))).alloc (.cells #[.slice A2 n2 cap2] 138 (0, 0))).alloc (.cells #[.int .i64 0] 3 (0, 0))).alloc (.cells #[.slice A len cap] 33 (0, 0))).alloc (.cells #[.int .i64 fr] 3 (0, 0))).heap.size = w.heap.size + 5 := by simp
  simp only [World.size_alloc] at bH bR bL bF
  obtain ⟨W0, hW0⟩ : ∃ W0, ((((w.alloc (.cells #[.string name, .slice A len cap] 35 (0, 0))).alloc (.cells #[.slice A2 n2 cap2] 138 (0, 0))).alloc (.cells #[.int .i64 0] 3 (0, 0))).alloc (.cells #[.slice A len cap] 33 (0, 0))).alloc (.cells #[.int .i64 fr] 3 (0, 0)) = W0 := ⟨_, rfl⟩
  rw [hW0] at bH bR bL bF hB0 hsz ⊢
  clear hW0
  have H0 := StepsAt.kept H.out (Kept.of_below hB0 _)
  refine wpIn_rangeFunc_ownH rfl (by omega) (gf := 138) (lb := #[.pointer (some ⟨w.heap.size + 1 + 1 + 1 + 1, 0, none⟩), .pointer (some ⟨w.heap.size + 1 + 1 + 1, 0, none⟩)]) rfl trivial (enters_of Tryz.func138 (by kernel_rfl) rfl)
    (down_stops Fence.wide _ trivial rfl (by omega) (w.heap.size + 1 + 1 + 1 + 1) (w.heap.size + 1 + 1 + 1) len cap N H0 HLEN.out hl fr hfr HN.out (by omega) (by omega) bF.cell bL.cell) belowK_t (belowK_b (Nat.le_refl _)) (Below.refl _ _) (fun _ => rfl)
    (fun pre W => (((∀ p ∈ pre, offB hs p = false) ∧ Boxed W (w.heap.size + 1 + 1) 3 (.int .i64 0)) ∧ Boxed W (w.heap.size + 1) 138 (.slice A2 n2 cap2)) ∧ (Below w.heap.size w W ∧ W0.heap.size ≤ W.heap.size))
    (fun c pre W => (c = .ret ∧ ∃ ini p, pre = ini ++ [p] ∧ (∀ q ∈ ini, offB hs q = false) ∧ offB hs p = true ∧ Boxed W (w.heap.size + 1 + 1) 3 (.int .i64 (p.1 : Int))) ∧ Below w.heap.size w W)
    (OwnFrom.and (OwnFrom.and (OwnFrom.and (ownFrom_pure _ _) (Own.from (boxed_own _ _ _) _)) (Own.from (boxed_own _ _ _) _)) (OwnFrom.and (ownFrom_below (Nat.le_refl _) (by omega)) (fun _ X Y row hs' hg _ => Nat.le_trans hs' hg.size)))
    (fun c => OwnFrom.and (fun s X Y row hs' hg hr => by
      obtain ⟨hc, ini, p, e1, e2, e3, e4⟩ := hs'
      exact ⟨hc, ini, p, e1, e2, e3, boxed_own _ _ (fun (_ : Unit) => Value.int .i64 (p.1 : Int)) () X Y row e4 hg (fun r e => (hr r e).2)⟩) (ownFrom_below (Nat.le_refl _) (by omega)))
    ⟨⟨⟨by simp, bR⟩, bH⟩, hB0, Nat.le_refl _⟩
    (fun x a' W => ∃ Bx, w.heap.size + 4 < Bx ∧ StepBox Bx x.2 W ∧ a' = { tmps := #[.agg #[.string name, .slice A len cap], .slice A2 n2 cap2, .int .i64 fr, .pointer (some ⟨w.heap.size, 0, none⟩), .pointer (some ⟨w.heap.size + 1, 0, none⟩), undef, .pointer (some ⟨w.heap.size + 1 + 1, 0, none⟩), .int .i64 (x.1 : Int), .pointer (some ⟨Bx, 0, none⟩), .pointer (some ⟨w.heap.size, 1, none⟩), .slice A len cap, .int .i64 fr, .func (.func 138) #[] #[.pointer (some ⟨w.heap.size + 1 + 1 + 1 + 1, 0, none⟩), .pointer (some ⟨w.heap.size + 1 + 1 + 1, 0, none⟩)], .int .i64 (x.1 : Int), .agg #[.string x.2.name, .int .i64 x.2.stub, .int .i64 x.2.retry, .int .i64 x.2.wait, .bool x.2.undo, .bool x.2.pivot], undef, undef, undef, undef, undef, undef, undef, undef], defers := [] })
    (fun x a' _ X Y row hs' hg hr => by obtain ⟨Bx, e1, e2, e3⟩ := hs'; exact ⟨Bx, e1, step_own (β := Unit) Bx x.2 () X Y row e2 hg (fun r e => (hr r e).2), e3⟩)
    ?assign ?body ?done ?stop
  case assign =>
    rintro lr pre x W K ⟨⟨⟨hp, bR1⟩, bH1⟩, hB1, hS1⟩ hK
    gi_wp2
    exact hK _ _ ((KeepsOthers.alloc _ _).from _) ((Below.refl _ W).alloc hS1 _) ⟨⟨⟨hp, bR1.alloc _⟩, bH1.alloc _⟩, hB1.alloc hB1.size _, by simp; omega⟩ ⟨W.heap.size, by omega, heap_alloc_new W _, rfl⟩
  case body =>
    rintro lr pre x a' W hl' ⟨r, hr⟩ ⟨⟨⟨hp, bR1⟩, bH1⟩, hB1, hS1⟩ ⟨Bx, hBx, bX, rfl⟩ hlt
    have cH := bH1.cell
    have cR := bR1.cell
    have fR := bR1.frozen
    obtain ⟨b0, b1, b2, b3, b4, b5, bf⟩ := bX.cells
    have C := hide (isHit_any (k := (x.1 : Int)) (BoolsAt.kept HH.out (Kept.of_below hB1 _)))
    obtain ⟨q, hq⟩ : ∃ q, hitB hs (x.1 : Int) = q := ⟨_, rfl⟩
    obtain ⟨un, hun⟩ : ∃ un, x.2.undo = un := ⟨_, rfl⟩
    have HOF : Hid (offB hs x = (un && q)) := by show _ = _; unfold offB; rw [hq, hun]
    rw [hq] at C
    rw [hun] at b4
    have HP := hide hp
    clear b0 b1 b2 b3 b5 bf hq hun hp
    cases un with
    | false =>
      gi_wp2
      refine ⟨trivial, ?_⟩
      gi_wp2
      refine ⟨KeepsFrom.refl _ _, Below.refl _ _, ⟨⟨fun p hp' => ?_, bR1⟩, bH1⟩, hB1, hS1⟩
      rcases List.mem_append.1 hp' with h1 | h1
      · exact HP.out p h1
      · obtain rfl : p = x := by simpa using h1
        rw [HOF.out]; rfl
    | true =>
      gi_wp2_with (refine ⟨trivial, ?_⟩; gi_at_call 119; refine (CallsIn.inRound lr (callsIn_wide.2 C.out)).mono ?_; rintro e w' ⟨rfl, rfl⟩)
      · rename_i hq
        subst hq
        exact ⟨(KeepsOthers.setCell _ _ _).from _, ⟨rfl, pre, x, rfl, HP.out, by rw [HOF.out]; rfl, bR1.set _⟩, hB1.setCell (p := ⟨w.heap.size + 1 + 1, 0, none⟩) (by simp; omega) _⟩
      · rename_i hq
        subst hq
        refine ⟨KeepsFrom.refl _ _, Below.refl _ _, ⟨⟨fun p hp' => ?_, bR1⟩, bH1⟩, hB1, hS1⟩
        rcases List.mem_append.1 hp' with h1 | h1
        · exact HP.out p h1
        · obtain rfl : p = x := by simpa using h1
          rw [HOF.out]; rfl
  case done =>
    rintro D ys W hD rfl ⟨⟨⟨hp, bR1⟩, bH1⟩, hB1, hS1⟩ hK
    have cR := bR1.cell
    have fR := bR1.frozen
    have hR0 : R = 0 := by rw [HR.out]; exact down_all HNL.out hp
    subst hR0
    clear hp
    gi_wp2
    have hK' := (KeepsOthers.setCell W ⟨w.heap.size + 1 + 1, 0, none⟩ (.int .i64 0)).same D _ hK rfl
    refine ⟨by simp, .inl ⟨_, _, rfl, run_takeDeferred hK', ?_⟩⟩
    have hc5 := cell_kept (bR1.set (.int .i64 0)).cell (grownBy_putObj' _ D (.deferred none)) (fun r e => by cases e; exact ⟨_, hK', rfl⟩)
    refine ⟨.int .i64 0, ?_, rfl, (hB1.setCell (p := ⟨w.heap.size + 1 + 1, 0, none⟩) (by simp; omega) _).trans (belowK_b (w := w) (Nat.le_refl _) _ D _ _ (by omega) hK' rfl rfl)⟩
    simp [results, Tryz.f104, go_sem, hc5]
  case stop =>
    rintro D c pre W hD ⟨k, hk, rfl⟩ ⟨⟨rfl, ini, p, e1, e2, e3, bR1⟩, hB1⟩ hK
    have hR0 : R = p.1 := by rw [HR.out]; exact down_found HNL.out hk e1 e2 e3
    subst hR0
    clear e1 e2 e3
    gi_wp2
    refine ⟨by simp, .inl ⟨_, _, rfl, run_takeDeferred hK, ?_⟩⟩
    have hc5 := cell_kept bR1.cell (grownBy_putObj' _ D (.deferred none)) (fun r e => by cases e; exact ⟨_, hK, rfl⟩)
    refine ⟨.int .i64 (p.1 : Int), ?_, rfl, hB1.trans (belowK_b (w := w) (Nat.le_refl _) W D _ _ (by omega) hK rfl rfl)⟩
    simp [results, Tryz.f104, go_sem, hc5]
end Go.Proofs.YtdkiopajilakcaaGreat
/- The small functions of package saga: at, ended, hit, upTo. -/
namespace Go.Proofs.YtdkiopajilakcaaGreat
open Go.RowKit

/-- A call that says v and makes memory alone. -/
def Gives (v : Value) (w : World) (e : Ending) (w' : World) : Prop := e = .returned v ∧ Later w w'
theorem heap_second (w : World) (A B : Obj) : ((w.alloc A).alloc B).heap[w.heap.size + 1]? = some B := by
  have h := heap_alloc_new (w.alloc A) B
  rwa [show (w.alloc A).heap.size = w.heap.size + 1 from by simp] at h
section
variable {w : World}
set_option maxHeartbeats 2000000 in
theorem at_any (s : SagaD) (st step : Int) : Calls Tryz.prog 96 #[s.val, .int .i64 st, .int .i64 step] w (Gives (s.at_ st step).val w) := by
  unfold SagaD.val SagaD.at_ SagaD.cells
  simp only
  go_enter Tryz.func96, Tryz.ntmps96
  go_wp2
  refine bodyPost_ret (results_cell_row Tryz.results96 _ _ (w.heap.size + 1) 72 _ (0, 0) _ (by rfl) (heap_second _ _ _) Tryz.underlying72 (by rfl) (by kernel_rfl)) (by rfl) ?_
  exact ⟨rfl, ((Below.refl _ _).alloc (Nat.le_refl _) _).alloc (by simp) _⟩
set_option maxHeartbeats 2000000 in
theorem ended_any (s : SagaD) (st step : Int) : Calls Tryz.prog 103 #[s.val, .int .i64 st, .int .i64 step] w (Gives (s.ended st step).val w) := by
  unfold SagaD.val SagaD.ended SagaD.cells
  simp only
  go_enter Tryz.func103, Tryz.ntmps103
  go_wp2
  refine bodyPost_ret (results_cell_row Tryz.results103 _ _ (w.heap.size + 1) 72 _ (0, 0) _ (by rfl) (heap_second _ _ _) Tryz.underlying72 (by rfl) (by kernel_rfl)) (by rfl) ?_
  exact ⟨rfl, ((Below.refl _ _).alloc (Nat.le_refl _) _).alloc (by simp) _⟩
/-- Hits in a block of its own. -/
def HitBox (g : Nat) (x : Hits) (w : World) : Prop := w.heap[g]? = some (.cells x.cells.toArray 70 (0, 0))
theorem HitBox.cells {g : Nat} {x : Hits} (h : HitBox g x w) : w.cell? ⟨g, 0, none⟩ = some (.bool x.a0) ∧ w.cell? ⟨g, 1, none⟩ = some (.bool x.a1) ∧ w.cell? ⟨g, 2, none⟩ = some (.bool x.a2) ∧ w.cell? ⟨g, 3, none⟩ = some (.bool x.a3) ∧
    w.cell? ⟨g, 4, none⟩ = some (.bool x.a4) ∧ w.cell? ⟨g, 5, none⟩ = some (.bool x.a5) ∧ w.cell? ⟨g, 6, none⟩ = some (.bool x.a6) ∧ w.cell? ⟨g, 7, none⟩ = some (.bool x.a7) ∧ ∀ i, w.frozen? ⟨g, i, none⟩ = false :=
  ⟨(cell_of_row w g 0 _ _ _ h).trans rfl, (cell_of_row w g 1 _ _ _ h).trans rfl, (cell_of_row w g 2 _ _ _ h).trans rfl, (cell_of_row w g 3 _ _ _ h).trans rfl, (cell_of_row w g 4 _ _ _ h).trans rfl, (cell_of_row w g 5 _ _ _ h).trans rfl, (cell_of_row w g 6 _ _ _ h).trans rfl, (cell_of_row w g 7 _ _ _ h).trans rfl, fun i => frozen_of_row w g i _ _ h⟩
theorem HitBox.set {g : Nat} {x y : Hits} {i : Nat} {v : Value} (h : HitBox g x w) (hs : y.cells.toArray = x.cells.toArray.setIfInBounds i v) : HitBox g y (w.setCell ⟨g, i, none⟩ v) := by
  unfold HitBox
  rw [hs]
  exact heap_setCell_same w g i _ _ v h
theorem up_next {q : Nat} (h : q < 8) : (upH ((q + 1 : Nat) : Int)).cells.toArray = (upH (q : Int)).cells.toArray.setIfInBounds q (.bool true) := by
  have hc : q = 0 ∨ q = 1 ∨ q = 2 ∨ q = 3 ∨ q = 4 ∨ q = 5 ∨ q = 6 ∨ q = 7 := by omega
  rcases hc with rfl | rfl | rfl | rfl | rfl | rfl | rfl | rfl <;> rfl
theorem up_cell {g q : Nat} {x : Hits} (h : HitBox g x w) (hq : q < 8) : ∃ b, w.cell? ⟨g, q, none⟩ = some (.bool b) := by
  obtain ⟨h0, h1, h2, h3, h4, h5, h6, h7, _⟩ := h.cells
  have hc : q = 0 ∨ q = 1 ∨ q = 2 ∨ q = 3 ∨ q = 4 ∨ q = 5 ∨ q = 6 ∨ q = 7 := by omega
  rcases hc with rfl | rfl | rfl | rfl | rfl | rfl | rfl | rfl
  all_goals first | exact ⟨_, h0⟩ | exact ⟨_, h1⟩ | exact ⟨_, h2⟩ | exact ⟨_, h3⟩ | exact ⟨_, h4⟩ | exact ⟨_, h5⟩ | exact ⟨_, h6⟩ | exact ⟨_, h7⟩
theorem hits_put (x y : Hits) : putAt x.cells.toArray 0 y.cells = y.cells.toArray := by simp [putAt, Hits.cells]
theorem up_neg {k : Int} (h : k ≤ 0) : upH k = upH ((0 : Nat) : Int) := by
  unfold upH
  simp only [Hits.mk.injEq, decide_eq_decide]
  omega
set_option maxHeartbeats 4000000 in
theorem upTo_any (k : Int) (hk : k ≤ 8) : Calls Tryz.prog 95 #[.int .i64 k] w (Gives (upH k).val w) := by
  have L0 : Hid (∀ o1 o2 : Obj, Later w ((w.alloc o1).alloc o2)) := fun o1 o2 => ((Below.refl _ _).alloc (Nat.le_refl _) _).alloc (by simp) _
  obtain ⟨W0, hW0⟩ : ∃ W0, W0 = (w.alloc (.cells (upH ((0 : Nat) : Int)).cells.toArray 70 (0, 0))).alloc (.cells (upH ((0 : Nat) : Int)).cells.toArray 70 (0, 0)) := ⟨_, rfl⟩
  obtain ⟨g, hg⟩ : ∃ g, g = w.heap.size := ⟨_, rfl⟩
  have B0 : Hid (HitBox g (upH ((0 : Nat) : Int)) W0) := by rw [hW0, hg]; exact (heap_alloc_old _ _ (by simp)).trans (heap_alloc_new _ _)
  have B1 : Hid (HitBox (g + 1) (upH ((0 : Nat) : Int)) W0) := by rw [hW0, hg]; exact heap_second _ _ _
  have L1 : Hid (Later w W0) := by rw [hW0]; exact L0.out _ _
  unfold Hits.cells upH at hW0
  simp only [Int.natCast_zero, Int.lt_irrefl, decide_false, show ¬ ((1:Int) < 0) by decide, show ¬ ((2:Int) < 0) by decide, show ¬ ((3:Int) < 0) by decide, show ¬ ((4:Int) < 0) by decide, show ¬ ((5:Int) < 0) by decide, show ¬ ((6:Int) < 0) by decide, show ¬ ((7:Int) < 0) by decide] at hW0
  have HW := hide hW0.symm
  have HG := hide hg.symm
  clear hW0 L0 hg
  go_enter Tryz.func95, Tryz.ntmps95
  go_wp2_with (fail)
  simp only [HW.out, HG.out]
  go_loopw [6] (fun i wr => ∃ q : Nat, i = .int .i64 (q : Int) ∧ ((q : Int) ≤ k ∨ q = 0) ∧ HitBox g (upH ((0 : Nat) : Int)) wr ∧ HitBox (g + 1) (upH (q : Int)) wr ∧ Later w wr) (fun i _ => (k - Go.RowKit.intOf i).toNat)
  case atStart => exact ⟨0, rfl, .inr rfl, B0.out, B1.out, L1.out⟩
  case round =>
    obtain ⟨q, rfl, hq, hb0, hb1, hl⟩ := hrel
    have HB0 := hide hb0
    have HB1 := hide hb1
    have HL := hide hl
    by_cases hlt : (q : Int) < k
    · have hq8 : q < 8 := by omega
      have HN := hide (hb1.set (up_next hq8))
      have HO : Hid (HitBox g (upH ((0 : Nat) : Int)) (wr.setCell ⟨g + 1, q, none⟩ (.bool true))) := (heap_setCell_other _ _ _ _ (by simp)).trans HB0.out
      have hgl : w.heap.size ≤ g + 1 := by rw [HG.out.symm]; omega
      have HL2 := hide (HL.out.setCell (p := ⟨g + 1, q, none⟩) hgl (.bool true))
      obtain ⟨ov, hov⟩ := up_cell hb1 hq8
      have hf := hb1.cells.2.2.2.2.2.2.2.2 q
      have hlq := hlt
      clear hb0 hb1 hl hgl hlt hq
      go_wp2
      go_roundw
      case rel => exact ⟨q + 1, by go_num, .inl (by omega), HO.out, HN.out, HL2.out⟩
      case measure => simp [Go.RowKit.intOf]; omega
    · have hu : upH (q : Int) = upH k := by
        rcases hq with hq | rfl
        · rw [show (q : Int) = k from by omega]
        · rw [up_neg (k := k) (by omega)]
      rw [hu] at hb1
      obtain ⟨d0, d1, d2, d3, d4, d5, d6, d7, df⟩ := hb1.cells
      obtain ⟨e0, e1, e2, e3, e4, e5, e6, e7, ef⟩ := hb0.cells
      have hgl : w.heap.size ≤ g := by rw [HG.out.symm]; omega
      clear hb0 hb1 hl hu hq
      go_wp2_with (fail)
      have hfin : (wr.setCells g 0 (upH k).cells).heap[g]? = some (.cells (upH k).cells.toArray 70 (0, 0)) := by
        have h1 := heap_setCells g (upH k).cells 0 wr _ HB0.out
        rwa [hits_put] at h1
      have HLF : Hid (Later w (wr.setCells g 0 (upH k).cells)) := HL.out.grown (grown_setCells g (upH k).cells 0 wr) (Below.size HL.out) (fun k hk => by have := Option.some.inj hk; omega)
      refine bodyPost_ret (results_cell_row Tryz.results95 _ (wr.setCells g 0 (upH k).cells) g 70 _ (0, 0) _ (by rfl) hfin Tryz.underlying70 (by rfl) (by kernel_rfl)) (by rfl) ?_
      exact ⟨rfl, HLF.out⟩
end
end Go.Proofs.YtdkiopajilakcaaGreat
/- A saga in a block of its own: read and written whole, or cell by cell. -/
namespace Go.Proofs.YtdkiopajilakcaaGreat
open Go.RowKit

def SBox (T : TypeId) (g : Nat) (s : SagaD) (w : World) : Prop := w.heap[g]? = some (.cells s.cells.toArray T (0, 0))
theorem SagaD.one (s : SagaD) : ∀ u ∈ s.cells, u.oneCell' = true := by
  intro u hu
  simp only [SagaD.cells, List.mem_cons, List.not_mem_nil, or_false] at hu
  rcases hu with rfl | rfl | rfl | rfl | rfl | rfl | rfl | rfl | rfl | rfl | rfl | rfl | rfl <;> rfl
theorem saga_put (x y : SagaD) : putAt x.cells.toArray 0 y.cells = y.cells.toArray := by simp [putAt, SagaD.cells]
section
variable {T : TypeId} {w w' : World} {g : Nat} {s : SagaD}
theorem SBox.lt (h : SBox T g s w) : g < w.heap.size := lt_of_block h
theorem SBox.below (h : SBox T g s w) (hl : Later w w') : SBox T g s w' := (Below.block hl g (lt_of_block h)).trans h
theorem SBox.other (h : SBox T g s w) {r : Option Nat} (hg : w.grownBy w' r) (hr : some g ≠ r) : SBox T g s w' := (hg.block g h.lt hr).trans h
theorem SBox.c0 (h : SBox T g s w) : w.cell? ⟨g, 0, none⟩ = some (.string s.name) := (cell_of_row w g 0 _ _ _ h).trans rfl
theorem SBox.c1 (h : SBox T g s w) : w.cell? ⟨g, 1, none⟩ = some (.slice s.p s.n s.c) := (cell_of_row w g 1 _ _ _ h).trans rfl
theorem SBox.c2 (h : SBox T g s w) : w.cell? ⟨g, 2, none⟩ = some (.int .i64 s.st) := (cell_of_row w g 2 _ _ _ h).trans rfl
theorem SBox.c3 (h : SBox T g s w) : w.cell? ⟨g, 3, none⟩ = some (.int .i64 s.step) := (cell_of_row w g 3 _ _ _ h).trans rfl
theorem SBox.c4 (h : SBox T g s w) : w.cell? ⟨g, 4, none⟩ = some (.int .i64 s.tr) := (cell_of_row w g 4 _ _ _ h).trans rfl
theorem SBox.hit (h : SBox T g s w) : w.cell? ⟨g, 5, none⟩ = some (.bool s.hit.a0) ∧ w.cell? ⟨g, 6, none⟩ = some (.bool s.hit.a1) ∧ w.cell? ⟨g, 7, none⟩ = some (.bool s.hit.a2) ∧ w.cell? ⟨g, 8, none⟩ = some (.bool s.hit.a3) ∧
    w.cell? ⟨g, 9, none⟩ = some (.bool s.hit.a4) ∧ w.cell? ⟨g, 10, none⟩ = some (.bool s.hit.a5) ∧ w.cell? ⟨g, 11, none⟩ = some (.bool s.hit.a6) ∧ w.cell? ⟨g, 12, none⟩ = some (.bool s.hit.a7) :=
  ⟨(cell_of_row w g 5 _ _ _ h).trans rfl, (cell_of_row w g 6 _ _ _ h).trans rfl, (cell_of_row w g 7 _ _ _ h).trans rfl, (cell_of_row w g 8 _ _ _ h).trans rfl, (cell_of_row w g 9 _ _ _ h).trans rfl, (cell_of_row w g 10 _ _ _ h).trans rfl, (cell_of_row w g 11 _ _ _ h).trans rfl, (cell_of_row w g 12 _ _ _ h).trans rfl⟩
theorem SBox.thaw (h : SBox T g s w) (i : Nat) : w.frozen? ⟨g, i, none⟩ = false := frozen_of_row w g i _ _ h
/-- What is hit, as a slice of the array. -/
theorem SBox.bools (h : SBox T g s w) : BoolsAt (fun _ => True) w (.slice (some ⟨g, 5, none⟩) 8 8) s.hit.l := by
  obtain ⟨h0, h1, h2, h3, h4, h5, h6, h7⟩ := h.hit
  refine ⟨rfl, ?_, some ⟨g, 5, none⟩, 8, rfl, Nat.le_refl _, by unfold maxLen; omega, (fun e => by cases e), fun _ => ⟨g, 5, rfl, trivial, h.lt, fun j u hj => ?_⟩⟩
  · intro u hu
    simp only [Hits.l, List.map_cons, List.map_nil, List.mem_cons, List.not_mem_nil, or_false] at hu
    rcases hu with rfl | rfl | rfl | rfl | rfl | rfl | rfl | rfl <;> rfl
  · have hj8 : j < 8 := (List.getElem?_eq_some_iff.1 hj).1
    have hc : j = 0 ∨ j = 1 ∨ j = 2 ∨ j = 3 ∨ j = 4 ∨ j = 5 ∨ j = 6 ∨ j = 7 := by omega
    rcases hc with rfl | rfl | rfl | rfl | rfl | rfl | rfl | rfl
    · obtain rfl : Value.bool s.hit.a0 = u := Option.some.inj hj
      exact h0
    · obtain rfl : Value.bool s.hit.a1 = u := Option.some.inj hj
      exact h1
    · obtain rfl : Value.bool s.hit.a2 = u := Option.some.inj hj
      exact h2
    · obtain rfl : Value.bool s.hit.a3 = u := Option.some.inj hj
      exact h3
    · obtain rfl : Value.bool s.hit.a4 = u := Option.some.inj hj
      exact h4
    · obtain rfl : Value.bool s.hit.a5 = u := Option.some.inj hj
      exact h5
    · obtain rfl : Value.bool s.hit.a6 = u := Option.some.inj hj
      exact h6
    · obtain rfl : Value.bool s.hit.a7 = u := Option.some.inj hj
      exact h7
end
section
variable {ops : Array Oper} {rest : List Oper} {op : Oper} {a : Act} {w : World} {Q : Exit → Act → World → Prop} {T : TypeId} {g : Nat} {s z : SagaD}
theorem wpList_load_saga (hgd : op.guard = none) (x : Operand) (ho : op.op = .load 72 x) (hx : a.eval x = .pointer (some ⟨g, 0, none⟩)) (hg : SBox T g s w)
    (h : wpList Tryz.prog ops Q rest (a.put op.dst s.val) w) : wpList Tryz.prog ops Q (op :: rest) a w :=
  wpList_load_box hgd 72 x ho g 0 hx T _ hg 13 _ Tryz.underlying72 (by rfl) (by kernel_rfl) s.cells (by rfl) (by rfl) h
theorem exec_load_saga (x : Operand) (ho : op.op = .load 72 x) (hx : a.eval x = .pointer (some ⟨g, 0, none⟩)) (hg : SBox T g s w) : (execOp a.eval op).run Tryz.prog w = .ok (.value s.val) w :=
  exec_load_box 72 x ho g 0 hx T _ hg 13 _ Tryz.underlying72 (by rfl) (by kernel_rfl) s.cells (by rfl) (by rfl)
theorem exec_load_hits (x : Operand) (ho : op.op = .load 70 x) (hx : a.eval x = .pointer (some ⟨g, 5, none⟩)) (hg : SBox T g s w) : (execOp a.eval op).run Tryz.prog w = .ok (.value s.hit.val) w :=
  exec_load_box 70 x ho g 5 hx T _ hg 8 _ Tryz.underlying70 (by rfl) (by kernel_rfl) s.hit.cells (by rfl) (by rfl)
theorem exec_load_sdef (x : Operand) (ho : op.op = .load 35 x) (hx : a.eval x = .pointer (some ⟨g, 0, none⟩)) (hg : SBox T g s w) : (execOp a.eval op).run Tryz.prog w = .ok (.value (.agg #[.string s.name, .slice s.p s.n s.c])) w :=
  exec_load_box 35 x ho g 0 hx T _ hg 2 _ Tryz.underlying35 (by rfl) (by kernel_rfl) [.string s.name, .slice s.p s.n s.c] (by rfl) (by rfl)
theorem wpList_store_saga (hgd : op.guard = none) (x y : Operand) (ho : op.op = .store 72 x y) (hx : a.eval x = .pointer (some ⟨g, 0, none⟩)) (hg : SBox T g z w) (hy : a.eval y = s.val)
    (h : ∀ w', SBox T g s w' → w.grownBy w' (some g) → wpList Tryz.prog ops Q rest (a.put op.dst undef) w') : wpList Tryz.prog ops Q (op :: rest) a w :=
  wpList_store_box hgd 72 x y ho g 0 s.cells.toArray hx hy T _ hg (by kernel_rfl) (by exact Nat.le_of_ble_eq_true rfl) (by exact s.one) (fun w' hb hg' => h w' (by rw [show s.cells.toArray.toList = s.cells from rfl, saga_put] at hb; exact hb) hg')
theorem wp_store_saga {K : Act → World → Prop} (x y : Operand) (ho : op.op = .store 72 x y) (hx : a.eval x = .pointer (some ⟨g, 0, none⟩)) (hg : SBox T g z w) (hy : a.eval y = s.val)
    (h : ∀ w', SBox T g s w' → w.grownBy w' (some g) → K (a.put op.dst undef) w') : op.wp Tryz.prog a w K Q :=
  wp_store_box 72 x y ho g 0 s.cells.toArray hx hy T _ hg (by kernel_rfl) (by exact Nat.le_of_ble_eq_true rfl) (by exact s.one) (fun w' hb hg' => h w' (by rw [show s.cells.toArray.toList = s.cells from rfl, saga_put] at hb; exact hb) hg')
end
/-- Two sets of hits are compared. -/
theorem eql_hits (x y : Hits) (w : World) : (binOp .eql 70 x.val y.val).run Tryz.prog w = .ok (.bool (decide (x = y))) w := by
  obtain ⟨x0, x1, x2, x3, x4, x5, x6, x7⟩ := x
  obtain ⟨y0, y1, y2, y3, y4, y5, y6, y7⟩ := y
  obtain ⟨i, hi, _⟩ := info_parts (show (Tryz.prog.info? 4).map (fun i => (i.zero, i.size, i.bytes)) = some (some (.bool false), 1, 1) from by kernel_rfl)
  obtain ⟨r, hr, hiff⟩ := run_eqItems_plain (P := Tryz.prog) w 9998 (e := 4) (by kernel_rfl) (Hits.cells ⟨x0, x1, x2, x3, x4, x5, x6, x7⟩).toArray (Hits.cells ⟨y0, y1, y2, y3, y4, y5, y6, y7⟩).toArray (D := 1) (D' := 1) (List.range 8)
    [[.bool x0], [.bool x1], [.bool x2], [.bool x3], [.bool x4], [.bool x5], [.bool x6], [.bool x7]] [[.bool y0], [.bool y1], [.bool y2], [.bool y3], [.bool y4], [.bool y5], [.bool y6], [.bool y7]] (by kernel_rfl) (by kernel_rfl)
  have e : r = decide ((⟨x0, x1, x2, x3, x4, x5, x6, x7⟩ : Hits) = ⟨y0, y1, y2, y3, y4, y5, y6, y7⟩) := by
    rw [Bool.eq_iff_iff, hiff]
    simp
  rw [run_eql_struct, show (10000 : Nat) = 9999 + 1 from rfl, run_equalIn_array w 9999 _ _ Tryz.underlying70 hi, show (9999 : Nat) = 9998 + 1 from rfl, hr, e]
  rfl
end Go.Proofs.YtdkiopajilakcaaGreat
/- A step is hit, or not any more. -/
namespace Go.Proofs.YtdkiopajilakcaaGreat
open Go.RowKit
section
variable {w : World}
set_option maxHeartbeats 8000000 in
theorem hit_any (s : SagaD) (b : Bool) (h1 : 1 ≤ s.step) (h8 : s.step ≤ 8) : Calls Tryz.prog 69 #[s.val, .bool b] w (Gives (s.hitN b).val w) := by
  unfold SagaD.val SagaD.hitN SagaD.cells
  obtain ⟨nm, p, n, c, st, step, tr, ⟨a0, a1, a2, a3, a4, a5, a6, a7⟩⟩ := s
  simp only at h1 h8 ⊢
  have hc : step = 1 ∨ step = 2 ∨ step = 3 ∨ step = 4 ∨ step = 5 ∨ step = 6 ∨ step = 7 ∨ step = 8 := by omega
  clear h1 h8
  rcases hc with rfl | rfl | rfl | rfl | rfl | rfl | rfl | rfl
  all_goals
    go_enter Tryz.func69, Tryz.ntmps69
    go_wp2
    refine bodyPost_ret (results_cell_row Tryz.results69 _ _ (w.heap.size + 1) 72 _ (0, 0) _ (by rfl) (heap_second _ _ _) Tryz.underlying72 (by rfl) (by kernel_rfl)) (by rfl) ?_
    exact ⟨rfl, ((Below.refl _ _).alloc (Nat.le_refl _) _).alloc (by simp) _⟩

end
end Go.Proofs.YtdkiopajilakcaaGreat
/- slices.Clone at steps and operations. -/
namespace Go.Proofs.YtdkiopajilakcaaGreat.Sd
open Go.RowKit

theorem Tryz.infoStep : (Tryz.prog.info? 79).map (fun i => (i.zero, i.size, i.bytes)) = some (some (.agg #[.string ⟨#[]⟩, .int .i64 0, .int .i64 0, .int .i64 0, .bool false, .bool false]), 6, 48) := by kernel_rfl
theorem Tryz.infoOp : (Tryz.prog.info? 37).map (fun i => (i.zero, i.size, i.bytes)) = some (some (.agg #[.int .i64 0, .int .i64 0, .int .i64 0, .string ⟨#[]⟩, .slice none 0 0, .int .i64 0, .int .i64 0, .int .i64 0, .bool false, .bool false]), 10, 96) := by kernel_rfl

/-- What Clone hands back: a slice of the call's own, that holds the same cells. -/
def Cloned (E k : Nat) (n : Nat) (xs : List Value) (w : World) (e : Ending) (w' : World) : Prop :=
  ∃ v, e = .returned v ∧ w'.ownsRow w.heap.size E k v n xs ∧ Below w.heap.size w w'

set_option maxHeartbeats 1000000 in
set_option maxRecDepth 100000 in
theorem clone_steps (F : Nat → Prop) (v : Value) (n : Nat) (xs : List Value) (w : World) (h : FlatAt F w 6 v n xs) (hn : n ≤ 1000000) :
    Calls Tryz.prog 91 #[v] w (Cloned 79 6 n xs w) := by
  obtain ⟨i0, hi, hz0, hz1, hz2⟩ := info_parts Tryz.infoStep
  obtain ⟨A, c, rfl, h1, h2, h3⟩ := h.shape
  have H := hide h
  rcases A with _ | a
  · have hc := h3 rfl
    subst hc
    obtain rfl : n = 0 := by omega
    have hxs : xs = [] := List.eq_nil_of_length_eq_zero (by have := h.len; simpa using this)
    subst hxs
    have hq := fun w => Lib.run_eql_slice_nil (P := Tryz.prog) w 33 _ none 0 0 0 0 Tryz.underlying33
    clear h h3
    go_enter Tryz.func91, Tryz.ntmps91
    go_wp2
    go_ret
    exact ⟨_, rfl, World.ownsRow_nil _ _ _ _, Below.refl _ _⟩
  · have hq := fun w => Lib.run_eql_slice_nil (P := Tryz.prog) w 33 _ (some a) n c 0 0 Tryz.underlying33
    clear h h3
    go_enter Tryz.func91, Tryz.ntmps91
    go_wp2_with (at_builtin; refine wpList_append_flat _ rfl _ _ 33 rfl w.heap.size 79 i0 _ 6 48 Tryz.underlying33 hi hz0 hz1 hz2 rfl (by decide) _ 0 [] rfl (ownsRow_lit w _ 6) F _ n c xs rfl (H.out.kept (Kept.of_below ((Below.refl _ _).alloc (Nat.le_refl _) _) F)) (by unfold maxLen; omega) (by omega) (by simp) ?_; intro v' w1 ho hg)
    go_ret
    exact ⟨_, rfl, by simpa using ho, ((Below.refl _ _).alloc (Nat.le_refl _) _).trans (later_own (ownsRow_lit w _ 6) (by simp) hg)⟩

end Go.Proofs.YtdkiopajilakcaaGreat.Sd
/- A step looked at; a definition looked at. -/
namespace Go.Proofs.YtdkiopajilakcaaGreat
open Go.RowKit

section
variable {w : World}
theorem err_bad {done : List StepD} {s : StepD} (h : stepBad s = true) : stepErr done s = 2 := by unfold stepErr; rw [if_pos h]
theorem err_late {done : List StepD} {s : StepD} (h : stepBad s = false) (h2 : (namedB done s || (pivotB done && s.pivot)) = true) : stepErr done s = 9 := by unfold stepErr; rw [if_neg (by simp [h]), if_pos h2]
theorem err_undo {done : List StepD} {s : StepD} (h : stepBad s = false) (h2 : (namedB done s || (pivotB done && s.pivot)) = false) (h3 : (s.undo == (pivotB done || s.pivot)) = true) : stepErr done s = 10 := by unfold stepErr; rw [if_neg (by simp [h]), if_neg (by simp [h2]), if_pos h3]
theorem err_none {done : List StepD} {s : StepD} (h : stepBad s = false) (h2 : (namedB done s || (pivotB done && s.pivot)) = false) (h3 : (s.undo == (pivotB done || s.pivot)) = false) : stepErr done s = 0 := by unfold stepErr; rw [if_neg (by simp [h]), if_neg (by simp [h2]), if_neg (by simp [h3])]

set_option maxHeartbeats 8000000 in
set_option maxRecDepth 100000 in
theorem checkStep_any {F : Nat → Prop} {s : StepD} {done : List StepD} {A : Option Addr} {n cap : Nat} (h : StepsAt F w (.slice A n cap) done) (hn : n = done.length) (hs : n ≤ 1000) :
    Calls Tryz.prog 117 #[.agg s.cells.toArray, .slice A n cap] w fun e w' => e = .returned (.int .i64 ((stepErr done s : Nat) : Int)) ∧ Later w w' := by
  obtain ⟨E, hE⟩ : ∃ E, stepErr done s = E := ⟨_, rfl⟩
  rw [hE]
  have HE := hide hE
  obtain ⟨W1, hW1⟩ : ∃ W1, W1 = w.alloc (.cells s.cells.toArray 79 (0, 0)) := ⟨_, rfl⟩
  obtain ⟨x, hx⟩ : ∃ x, x = w.heap.size := ⟨_, rfl⟩
  have B1 : Hid (StepBox x s W1) := by rw [hW1, hx]; exact heap_alloc_new w _
  have L1 : Hid (Later w W1) := by rw [hW1]; exact (Below.refl _ _).alloc (Nat.le_refl _) _
  have C1 := hide (contains_ask (w := W1) (v := ⟨136, #[.pointer (some ⟨x, 0, none⟩)]⟩) (f := fun a => decide (a.name = s.name)) (StepsAt.kept h (Kept.of_below L1.out _)) hn ⟨enters_named1, fun W t hl => named1_any W t s x (by
    have h2 : StepBox x s W := (Below.block hl x (lt_of_block B1.out)).trans B1.out
    exact h2.cells.1)⟩ hs)
  have H := hide h
  have HN := hide hn
  unfold StepD.cells at hW1
  obtain ⟨nm, hnm⟩ : ∃ nm, namedB done s = nm := ⟨_, rfl⟩
  obtain ⟨bh, hbh⟩ : ∃ bh, pivotB done = bh := ⟨_, rfl⟩
  have hC : (done.any fun a => decide (a.name = s.name)) = nm := hnm
  have hP : (done.any fun a => a.pivot) = bh := hbh
  rw [hC] at C1
  have HNM := hide hnm
  have HBH := hide hbh
  have HP := hide hP
  have HW1 := hide hW1.symm
  have HX := hide hx.symm
  simp only [SetV.val] at C1
  unfold StepD.cells
  clear h hn hW1 hx hC hP hnm hbh hE
  go_enter Tryz.func117, Tryz.ntmps117
  go_wp2_with (fail)
  have hw := HW1.out
  have hxx := HX.out
  simp only [hw, hxx]
  clear hw hxx
  refine C1.out.mono ?_
  rintro e w2 ⟨rfl, hl2⟩
  have L2 := hide (L1.out.trans hl2)
  have B2 : Hid (StepBox x s w2) := (Below.block hl2 x (lt_of_block B1.out)).trans B1.out
  have C2 := hide (contains_ask (w := w2) (v := ⟨137, #[]⟩) (f := fun a => a.pivot) (StepsAt.kept H.out (Kept.of_below L2.out _)) HN.out ⟨enters_pivot2, fun W t _ => pivot2_any W t⟩ hs)
  rw [HP.out] at C2
  simp only [SetV.val] at C2
  clear C1 hl2 L1 B1 HP
  go_wp2_with (fail)
  refine C2.out.mono ?_
  rintro e w3 ⟨rfl, hl3⟩
  have L3 := hide (L2.out.trans hl3)
  have B3 : Hid (StepBox x s w3) := (Below.block hl3 x (lt_of_block B2.out)).trans B2.out
  obtain ⟨b0, b1, b2, b3, b4, b5, bf⟩ := B3.out.cells
  have CN := hide (name_any (w := w3) s.name)
  clear C2 hl3 L2 B2 bf b1 b2 b3 b4 b5
  go_wp2_with (fail)
  refine CN.out.mono ?_
  rintro e w4 ⟨rfl, hl4⟩
  have L4 := hide (L3.out.trans hl4)
  have B4 : Hid (StepBox x s w4) := (Below.block hl4 x (lt_of_block B3.out)).trans B3.out
  obtain ⟨b0', b1, b2, b3, b4, b5, bf⟩ := B4.out.cells
  obtain ⟨q0, hq0⟩ : ∃ q, nameF s.name.data.toList = q := ⟨_, rfl⟩
  obtain ⟨q1, hq1⟩ : ∃ q, outB s.stub 1 4 = q := ⟨_, rfl⟩
  obtain ⟨q2, hq2⟩ : ∃ q, outB s.retry 0 9 = q := ⟨_, rfl⟩
  obtain ⟨q3, hq3⟩ : ∃ q, outB s.wait 1 99 = q := ⟨_, rfl⟩
  have o1 := fun w => outside_any (w := w) s.stub 1 4
  have o2 := fun w => outside_any (w := w) s.retry 0 9
  have o3 := fun w => outside_any (w := w) s.wait 1 99
  rw [hq1] at o1
  rw [hq2] at o2
  rw [hq3] at o3
  have O1 := hide o1
  have O2 := hide o2
  have O3 := hide o3
  have HBAD : Hid (stepBad s = (!q0 || (q1 || (q2 || q3)))) := by show _ = _; unfold stepBad; rw [hq0, hq1, hq2, hq3]
  rw [hq0]
  clear CN hl4 L3 B3 bf b0 o1 o2 o3 hq0 hq1 hq2 hq3
  cases q0 with
  | false =>
    go_wp2
    go_ret
    exact ⟨ret_int (by rw [← HE.out, err_bad HBAD.out]; rfl), L4.out⟩
  | true =>
    cases q1 with
    | true =>
      go_wp2_with (fail)
      refine (O1.out _).mono ?_
      rintro e w5 ⟨rfl, hq⟩
      obtain rfl := hq.symm
      go_wp2
      go_ret
      exact ⟨ret_int (by rw [← HE.out, err_bad HBAD.out]; rfl), L4.out⟩
    | false =>
      cases q2 with
      | true =>
        go_wp2_with (fail)
        refine (O1.out _).mono ?_
        rintro e w5 ⟨rfl, hq⟩
        obtain rfl := hq.symm
        go_wp2_with (fail)
        refine (O2.out _).mono ?_
        rintro e w6 ⟨rfl, hq⟩
        obtain rfl := hq.symm
        go_wp2
        go_ret
        exact ⟨ret_int (by rw [← HE.out, err_bad HBAD.out]; rfl), L4.out⟩
      | false =>
        go_wp2_with (fail)
        refine (O1.out _).mono ?_
        rintro e w5 ⟨rfl, hq⟩
        obtain rfl := hq.symm
        go_wp2_with (fail)
        refine (O2.out _).mono ?_
        rintro e w6 ⟨rfl, hq⟩
        obtain rfl := hq.symm
        go_wp2_with (fail)
        refine (O3.out _).mono ?_
        rintro e w7 ⟨rfl, hq⟩
        obtain rfl := hq.symm
        clear O1 O2 O3
        cases q3 with
        | true =>
          go_wp2
          go_ret
          exact ⟨ret_int (by rw [← HE.out, err_bad HBAD.out]; rfl), L4.out⟩
        | false =>
          have HB0 : Hid (stepBad s = false) := HBAD.out
          obtain ⟨un, hun⟩ : ∃ un, s.undo = un := ⟨_, rfl⟩
          obtain ⟨pv, hpv⟩ : ∃ pv, s.pivot = pv := ⟨_, rfl⟩
          rw [hun] at b4
          rw [hpv] at b5
          have HUN := hide hun
          have HPV := hide hpv
          clear hun hpv HBAD
          cases nm with
          | true =>
            go_wp2
            go_ret
            exact ⟨ret_int (by rw [← HE.out, err_late HB0.out (by rw [HNM.out]; rfl)]; rfl), L4.out⟩
          | false =>
            cases bh <;> cases pv <;> cases un <;> (
              go_wp2
              go_ret
              refine ⟨ret_int ?_, L4.out⟩
              rw [← HE.out]
              first
                | (rw [err_late HB0.out (by rw [HNM.out, HBH.out, HPV.out]; rfl)]; rfl)
                | (rw [err_undo HB0.out (by rw [HNM.out, HBH.out, HPV.out]; rfl) (by rw [HBH.out, HPV.out, HUN.out]; rfl)]; rfl)
                | (rw [err_none HB0.out (by rw [HNM.out, HBH.out, HPV.out]; rfl) (by rw [HBH.out, HPV.out, HUN.out]; rfl)]; rfl))
end
end Go.Proofs.YtdkiopajilakcaaGreat
/- A definition looked at. -/
namespace Go.Proofs.YtdkiopajilakcaaGreat
open Go.RowKit

theorem steps_to {k n c : Nat} (hk : k ≤ n) (hn : n ≤ c) (A : Option Addr) (w : World) :
    (Instr.slice 33 (.slice A n c) none (some (.int .i64 (k : Int))) none).run Tryz.prog w = .ok (.slice A k c) w := by
  have ht : Tryz.prog.underlying 33 = some (.slice (Tryz.prog.elem 33)) := by kernel_rfl
  obtain ⟨i0, hi, hz0, hz1, hz2⟩ := info_parts (show (Tryz.prog.info? (Tryz.prog.elem 33)).map (fun i => (i.zero, i.size, i.bytes)) = some (some (.agg #[.string ⟨#[]⟩, .int .i64 0, .int .i64 0, .int .i64 0, .bool false, .bool false]), 6, 48) from by kernel_rfl)
  have h1 := run_slice_h (P := Tryz.prog) w 33 A n c ht .i64 (k : Int) (by omega) (by omega)
  rw [h1]
  have hs : (sizeOf (Tryz.prog.elem 33)).run Tryz.prog w = .ok 6 w := by simp [sizeOf, typeInfo, hi, hz1]
  rw [hs]
  simp only [Result.andThen, sliced, Int.toNat_natCast, Nat.sub_zero]
  rcases A with _ | a
  · simp
  · simp [Addr.add]
theorem exec_to {op : Oper} {a : Act} {w : World} (x z : Operand) (ho : op.op = .slice 33 x none (some z) none) (A : Option Addr) (n c k : Nat) (hx : a.eval x = .slice A n c) (hz : a.eval z = .int .i64 (k : Int)) (hk : k ≤ n) (hn : n ≤ c) :
    (execOp a.eval op).run Tryz.prog w = .ok (.value (.slice A k c)) w := by
  have ht : Tryz.prog.underlying 33 = some (.slice (Tryz.prog.elem 33)) := by kernel_rfl
  have h1 := steps_to hk hn A w
  unfold execOp
  simp only [ho, hx, hz, Option.map_some, Option.map_none, Sem.run_bind, Sem.run_pure]
  rw [run_sliceAt_slice _ _ _ _ _ _ ht, h1]
  rfl
theorem steps_take {F : Nat → Prop} {w : World} {A : Option Addr} {n c k : Nat} {l : List StepD} (h : StepsAt F w (.slice A n c) l) (hn : n = l.length) (hk : k ≤ n) : StepsAt F w (.slice A k c) (l.take k) := by
  subst hn
  obtain ⟨h1, h2, A', c', hv, h3, h4, h5, h6⟩ := h
  obtain ⟨rfl, rfl⟩ : A = A' ∧ c = c' := by injection hv with e1 _ e3; exact ⟨e1, e3⟩
  have hl : (l.take k).length = k := by simp; omega
  have hf := Sd.flat_take StepD.cells 6 l k (fun s _ => s.len)
  unfold StepsAt
  rw [hl, hf]
  refine ⟨?_, fun u hu => h2 u (List.mem_of_mem_take hu), A, c, rfl, by omega, h4, h5, fun h0 => ?_⟩
  · rw [List.length_take, h1]
    have := Nat.mul_le_mul_right 6 hk
    omega
  · obtain ⟨b, off, hA, hF, hb, hr⟩ := h6 (by omega)
    refine ⟨b, off, hA, hF, hb, fun j u hj => hr j u ?_⟩
    rw [List.getElem?_take_of_lt (by have := (List.getElem?_eq_some_iff.1 hj).1; rw [List.length_take] at this; omega)] at hj
    exact hj

section
variable {w : World}
set_option maxHeartbeats 8000000 in
set_option maxRecDepth 100000 in
theorem check_any {F : Nat → Prop} {name : ByteArray} {v : Value} {steps : List StepD} (h : StepsAt F w v steps) :
    Calls Tryz.prog 92 #[.agg #[.string name, v]] w fun e w' => e = .returned (.tuple #[.int .i64 (((checkF name steps).1 : Nat) : Int), .int .i64 (((checkF name steps).2 : Nat) : Int)]) ∧ Later w w' := by
  obtain ⟨A, cap, rfl, hc1, hc2, _⟩ := FlatAt.shape h
  obtain ⟨n, hn⟩ : ∃ n, steps.length = n := ⟨_, rfl⟩
  rw [hn] at h hc1 ⊢
  obtain ⟨c1, hc1'⟩ : ∃ c, (checkF name steps).1 = c := ⟨_, rfl⟩
  obtain ⟨c2, hc2'⟩ : ∃ c, (checkF name steps).2 = c := ⟨_, rfl⟩
  rw [hc1', hc2']
  have HC1 := hide hc1'
  have HC2 := hide hc2'
  obtain ⟨W1, hW1⟩ : ∃ W1, W1 = w.alloc (.cells #[.string name, .slice A n cap] 35 (0, 0)) := ⟨_, rfl⟩
  obtain ⟨y, hy⟩ : ∃ y, y = w.heap.size := ⟨_, rfl⟩
  have B1 : Hid (W1.heap[y]? = some (.cells #[.string name, .slice A n cap] 35 (0, 0))) := by rw [hW1, hy]; exact heap_alloc_new w _
  have L1 : Hid (Later w W1) := by rw [hW1]; exact (Below.refl _ _).alloc (Nat.le_refl _) _
  have CN := hide (name_any (w := W1) name)
  obtain ⟨q0, hq0⟩ : ∃ q, nameF name.data.toList = q := ⟨_, rfl⟩
  rw [hq0] at CN
  obtain ⟨q1, hq1⟩ : ∃ q, outB (n : Int) 1 8 = q := ⟨_, rfl⟩
  have o1 := fun w => outside_any (w := w) (n : Int) 1 8
  rw [hq1] at o1
  have O1 := hide o1
  have hbad : (!nameF name.data.toList || (decide (steps.length < 1) || decide (8 < steps.length))) = (!q0 || q1) := by
    rw [hq0, ← hq1, hn]
    congr 1
    unfold outB
    congr 1
    · rw [decide_eq_decide]; omega
    · rw [decide_eq_decide]; omega
  have HBAD := hide hbad
  have HQ1 := hide hq1
  have H := hide h
  have HN := hide hn
  have HW1 := hide hW1.symm
  have HY := hide hy.symm
  clear h hn hW1 hy hc1' hc2' hq0 hq1 hbad o1
  go_enter Tryz.func92, Tryz.ntmps92
  go_wp2_with (fail)
  have hw := HW1.out
  have hyy := HY.out
  simp only [hw, hyy]
  clear hw hyy
  have c0 : W1.cell? ⟨y, 0, none⟩ = some (.string name) := (cell_of_row W1 y 0 _ _ _ B1.out).trans rfl
  have hy1 : y < W1.heap.size := lt_of_block B1.out
  go_wp2_with (fail)
  refine CN.out.mono ?_
  rintro e w2 ⟨rfl, hl2⟩
  have L2 := hide (L1.out.trans hl2)
  have B2 : Hid (w2.heap[y]? = some (.cells #[.string name, .slice A n cap] 35 (0, 0))) := (Below.block hl2 y (lt_of_block B1.out)).trans B1.out
  have c1' : w2.cell? ⟨y, 1, none⟩ = some (.slice A n cap) := (cell_of_row w2 y 1 _ _ _ B2.out).trans rfl
  have hy2 : y < w2.heap.size := lt_of_block B2.out
  clear CN hl2 L1 c0 hy1
  cases q0 with
  | false =>
    have HF : Hid (checkF name steps = (0, 2)) := by show _ = _; unfold checkF; rw [HBAD.out]; rfl
    have e1 : c1 = 0 := by rw [← HC1.out, HF.out]
    have e2 : c2 = 2 := by rw [← HC2.out, HF.out]
    have E1 := hide e1
    have E2 := hide e2
    clear e1 e2
    go_wp2
    go_ret2
    exact ⟨by rw [E1.out, E2.out]; rfl, L2.out⟩
  | true =>
    go_wp2_with (fail)
    refine (O1.out _).mono ?_
    rintro e w3 ⟨rfl, hq⟩
    obtain rfl := hq.symm
    clear O1
    cases q1 with
    | true =>
      have HF : Hid (checkF name steps = (0, 2)) := by show _ = _; unfold checkF; rw [HBAD.out]; rfl
      have e1 : c1 = 0 := by rw [← HC1.out, HF.out]
      have e2 : c2 = 2 := by rw [← HC2.out, HF.out]
      have E1 := hide e1
      have E2 := hide e2
      clear e1 e2
      go_wp2
      go_ret2
      exact ⟨by rw [E1.out, E2.out]; rfl, L2.out⟩
    | false =>
      have HF : Hid (checkF name steps = firstBad (steps.take 0) (steps.drop 0)) := by show _ = _; unfold checkF; rw [HBAD.out]; rfl
      have hn8 : n ≤ 8 := by
        have := HQ1.out
        simp only [outB, Bool.or_eq_false_iff, decide_eq_false_iff_not] at this
        omega
      clear HBAD HQ1
      go_wp2_with (fail)
      go_loopw [20] (fun v wr => ∃ i : Nat, v = .int .i64 (i : Int) ∧ i ≤ n ∧ checkF name steps = firstBad (steps.take i) (steps.drop i) ∧ Later w2 wr) (fun v _ => n - (Go.RowKit.intOf v).toNat)
      case atStart => exact ⟨0, rfl, by omega, HF.out, Later.refl _⟩
      case round =>
        obtain ⟨i, rfl, hi, hsum, hlat⟩ := hrel
        have HS := hide hsum
        have HL := hide hlat
        have BR : Hid (wr.heap[y]? = some (.cells #[.string name, .slice A n cap] 35 (0, 0))) := (Below.block hlat y (lt_of_block B2.out)).trans B2.out
        clear hsum hlat
        by_cases hlt : i < n
        · have HR := hide (StepsAt.kept H.out (Kept.of_below (L2.out.trans HL.out) F))
          obtain ⟨s, b, off, c', hs', hvv, _, _, _, hr⟩ := StepsAt.at_ HR.out (i := i) (by rw [HN.out]; exact hlt)
          rw [HN.out] at hvv
          obtain ⟨rfl, rfl⟩ : A = some ⟨b, off, none⟩ ∧ cap = c' := by injection hvv with e1 _ e3; exact ⟨e1, e3⟩
          obtain ⟨r0, r1, r2, r3, r4, r5⟩ := range_step hr
          have HSI := hide hs'
          obtain ⟨W5, hW5⟩ : ∃ W5, W5 = wr.alloc (.cells s.cells.toArray 79 (0, 0)) := ⟨_, rfl⟩
          obtain ⟨x, hx⟩ : ∃ x, x = wr.heap.size := ⟨_, rfl⟩
          have B5 : Hid (StepBox x s W5) := by rw [hW5, hx]; exact heap_alloc_new wr _
          have L5 : Hid (Later wr W5) := by rw [hW5]; exact (Below.refl _ _).alloc (Nat.le_refl _) _
          have BR5 : Hid (W5.heap[y]? = some (.cells #[.string name, .slice (some ⟨b, off, none⟩) n cap] 35 (0, 0))) := (Below.block L5.out y (lt_of_block BR.out)).trans BR.out
          have CS := hide (checkStep_any (w := W5.drew) (s := s) (done := steps.take i) (steps_take (StepsAt.kept HR.out (Kept.of_below (L5.out.trans (Later.drew W5)) F)) HN.out.symm (by omega : i ≤ n)) (by rw [List.length_take, HN.out]; omega) (by omega))
          obtain ⟨E, hE⟩ : ∃ E, stepErr (steps.take i) s = E := ⟨_, rfl⟩
          rw [hE] at CS
          have HE := hide hE
          have d1 : W5.cell? ⟨y, 1, none⟩ = some (.slice (some ⟨b, off, none⟩) n cap) := (cell_of_row W5 y 1 _ _ _ BR5.out).trans rfl
          have hy5 : y < W5.heap.size := lt_of_block BR5.out
          unfold StepD.cells at hW5
          have HW5 := hide hW5.symm
          have HX := hide hx.symm
          clear hs' hvv hr hW5 hx hE
          have cR : wr.cell? ⟨y, 1, none⟩ = some (.slice (some ⟨b, off, none⟩) n cap) := (cell_of_row wr y 1 _ _ _ BR.out).trans rfl
          go_wp2_with (fail)
          have hw := HW5.out
          have hxx := HX.out
          simp only [hw, hxx]
          clear hw hxx r0 r1 r2 r3 r4 r5
          refine wp_region_L (by kernel_rfl) ?_
          refine wpAnyL_take (i := 0) (d := some 25) (v := .agg s.cells.toArray) rfl rfl (by kernel_rfl) (by kernel_rfl) (by kernel_rfl) (fun _ _ _ h => h) (by rfl) ?yab0 ?_
          case yab0 => (intro w' hw'; exact exec_load_box 79 _ (by rfl) x 0 (by rfl) 79 _ ((Below.block ((Later.drew _).trans hw') x (lt_of_block B5.out)).trans B5.out) 6 _ Tryz.underlying79 (by rfl) (by kernel_rfl) s.cells (by rfl) (by rfl))
          simp only [Act.put]; try simp only [List.setIfInBounds_toArray]; try simp only [List.set_cons_zero, List.set_cons_succ]
          refine wpAnyL_take (i := 1) (d := some 26) (v := ?vab1) rfl rfl (by kernel_rfl) (by kernel_rfl) (by kernel_rfl) (fun _ _ _ h => h) (by rfl) ?yab1 ?_
          case yab1 => (intro w' hw'; go_simp; try (with_reducible rfl))
          simp only [Act.put]; try simp only [List.setIfInBounds_toArray]; try simp only [List.set_cons_zero, List.set_cons_succ]
          refine wpAnyL_take (i := 2) (d := some 27) (v := .slice (some ⟨b, off, none⟩) n cap) rfl rfl (by kernel_rfl) (by kernel_rfl) (by kernel_rfl) (fun _ _ _ h => h) (by rfl) ?yab2 ?_
          case yab2 => (intro w' hw'; have y := later_cell ((Later.drew _).trans hw') d1; go_simp)
          simp only [Act.put]; try simp only [List.setIfInBounds_toArray]; try simp only [List.set_cons_zero, List.set_cons_succ]
          refine wpAnyL_take (i := 3) (d := some 28) (v := ?vab3) rfl rfl (by kernel_rfl) (by kernel_rfl) (by kernel_rfl) (fun _ _ _ h => h) (by rfl) ?yab3 ?_
          case yab3 => (intro w' hw'; go_simp; try (with_reducible rfl))
          simp only [Act.put]; try simp only [List.setIfInBounds_toArray]; try simp only [List.set_cons_zero, List.set_cons_succ]
          refine wpAnyL_take (i := 4) (d := some 29) (v := .slice (some ⟨b, off, none⟩) i cap) rfl rfl (by kernel_rfl) (by kernel_rfl) (by kernel_rfl) (fun _ _ _ h => h) (by rfl) ?yab4 ?_
          case yab4 => (intro w' hw'; exact exec_to _ _ (by rfl) (some ⟨b, off, none⟩) n cap i (by rfl) (by rfl) (by omega) hc1)
          simp only [Act.put]; try simp only [List.setIfInBounds_toArray]; try simp only [List.set_cons_zero, List.set_cons_succ]
          refine wpAnyL_only (i := 5) rfl (by kernel_rfl) (by rfl) fun K hK => ?_
          go_simp
          refine CS.out.mono ?_
          rintro e w6 ⟨rfl, hl6⟩
          have HL6 := hide (HL.out.trans (L5.out.trans ((Later.drew W5).trans hl6)))
          refine hK.out _ _ hl6 ?_
          clear hl6 CS
          clear hK K
          try (simp only [Act.put]; try simp only [List.setIfInBounds_toArray]; try simp only [List.set_cons_zero, List.set_cons_succ])
          refine wpAnyL_take (i := 6) (d := some 6) (v := ?vab6) rfl rfl (by kernel_rfl) (by kernel_rfl) (by kernel_rfl) (fun _ _ _ h => h) (by rfl) ?yab6 ?_
          case yab6 => (intro w' hw'; go_simp; try (with_reducible rfl))
          simp only [Act.put]; try simp only [List.setIfInBounds_toArray]; try simp only [List.set_cons_zero, List.set_cons_succ]
          refine wpAnyL_done (by kernel_rfl) ?_ _
          by_cases hE0 : E = 0
          · have hb : ((E : Int) != 0) = false := by rw [hE0]; rfl
            have HE0 := hide hE0
            clear hE0
            go_wp2_with (fail)
            go_roundw
            case rel =>
              refine ⟨i + 1, by go_num, by omega, ?_, HL6.out⟩
              rw [HS.out, firstBad_at HSI.out, HE.out, if_pos HE0.out]
            case measure => simp [Go.RowKit.intOf]; omega
          · have hb : ((E : Int) != 0) = true := by simp; omega
            have hres : checkF name steps = (i + 1, E) := by rw [HS.out, firstBad_at HSI.out, HE.out, if_neg hE0]
            have e1 : c1 = i + 1 := by rw [← HC1.out, hres]
            have e2 : c2 = E := by rw [← HC2.out, hres]
            have E1 := hide e1
            have E2 := hide e2
            clear hE0 hres e1 e2
            go_wp2_with (fail)
            go_ret2
            exact ⟨by rw [E1.out, E2.out]; rfl, L2.out.trans HL6.out⟩
        · have hie : i = n := by omega
          have hres : checkF name steps = (0, 0) := by rw [HS.out, hie, ← HN.out, firstBad_end]
          have e1 : c1 = 0 := by rw [← HC1.out, hres]
          have e2 : c2 = 0 := by rw [← HC2.out, hres]
          have E1 := hide e1
          have E2 := hide e2
          clear hres e1 e2 hie
          go_wp2_with (fail)
          go_ret2
          exact ⟨by rw [E1.out, E2.out]; rfl, L2.out.trans HL.out⟩
end
end Go.Proofs.YtdkiopajilakcaaGreat
/- The document's kinds of bytes, and its names. -/
namespace Go.Proofs.YtdkiopajilakcaaGreat
open Go.RowKit

section
variable {w : World}
theorem refSmall_any (b : Nat) : Calls Tryz.prog 139 #[.int .u8 (b : Int)] w fun e w' => e = .returned (.bool (smallB b)) ∧ w' = w := by
  unfold smallB
  go_enter Tryz.func139, Tryz.ntmps139
  by_cases h1 : 97 ≤ b
  · by_cases h2 : b ≤ 122
    · have e1 : (97 : Int) ≤ (b : Int) := by omega
      have e2 : (b : Int) ≤ 122 := by omega
      go_wp2
      go_ret
      exact ⟨ret_bool (by simp [h1, h2]), rfl⟩
    · have e1 : (97 : Int) ≤ (b : Int) := by omega
      have e2 : ¬ (b : Int) ≤ 122 := by omega
      go_wp2
      go_ret
      exact ⟨ret_bool (by simp), rfl⟩
  · have e1 : ¬ (97 : Int) ≤ (b : Int) := by omega
    go_wp2
    go_ret
    exact ⟨ret_bool (by simp), rfl⟩
theorem refDigit_any (b : Nat) : Calls Tryz.prog 151 #[.int .u8 (b : Int)] w fun e w' => e = .returned (.bool (digitB b)) ∧ w' = w := by
  unfold digitB
  go_enter Tryz.func151, Tryz.ntmps151
  by_cases h1 : 48 ≤ b
  · by_cases h2 : b ≤ 57
    · have e1 : (48 : Int) ≤ (b : Int) := by omega
      have e2 : (b : Int) ≤ 57 := by omega
      go_wp2
      go_ret
      exact ⟨ret_bool (by simp [h1, h2]), rfl⟩
    · have e1 : (48 : Int) ≤ (b : Int) := by omega
      have e2 : ¬ (b : Int) ≤ 57 := by omega
      go_wp2
      go_ret
      exact ⟨ret_bool (by simp), rfl⟩
  · have e1 : ¬ (48 : Int) ≤ (b : Int) := by omega
    go_wp2
    go_ret
    exact ⟨ret_bool (by simp), rfl⟩
set_option maxHeartbeats 1000000 in
theorem refPart_any (b : Nat) : Calls Tryz.prog 140 #[.int .u8 (b : Int)] w fun e w' => e = .returned (.bool (partB b)) ∧ w' = w := by
  unfold partB
  have CS := hide (refSmall_any (w := w) b)
  have CD := hide (refDigit_any (w := w) b)
  obtain ⟨p, hp⟩ : ∃ p, smallB b = p := ⟨_, rfl⟩
  obtain ⟨q, hq⟩ : ∃ q, digitB b = q := ⟨_, rfl⟩
  rw [hp] at CS ⊢
  rw [hq] at CD ⊢
  clear hp hq
  have e45 : (b == 45) = ((b : Int) == 45) := by rw [Bool.eq_iff_iff, beq_iff_eq, beq_iff_eq]; omega
  have e95 : (b == 95) = ((b : Int) == 95) := by rw [Bool.eq_iff_iff, beq_iff_eq, beq_iff_eq]; omega
  rw [e45, e95]
  clear e45 e95
  go_enter Tryz.func140, Tryz.ntmps140
  go_wp2_with (fail)
  refine CS.out.mono ?_
  rintro e w1 ⟨rfl, rfl⟩
  cases p with
  | true =>
    go_wp2_with (fail)
    go_ret
    exact ⟨ret_bool (by simp), rfl⟩
  | false =>
    go_wp2_with (fail)
    refine CD.out.mono ?_
    rintro e w1 ⟨rfl, rfl⟩
    cases q with
    | true =>
      go_wp2_with (fail)
      go_ret
      exact ⟨ret_bool (by simp), rfl⟩
    | false =>
      cases h45 : ((b : Int) == 45) with
      | true =>
        go_wp2_with (fail)
        go_ret
        exact ⟨ret_bool (by rw [h45]; simp), rfl⟩
      | false =>
        go_wp2_with (fail)
        go_ret
        exact ⟨ret_bool (by rw [h45]; simp), rfl⟩

/-- A text at a place. -/
theorem idx_at (s : ByteArray) (q : Nat) (c : UInt8) (hq : q < s.size) (hc : s.data.toList[q]? = some c) (W : World) : (Instr.index 9 (.string s) (.int .i64 (q : Int))).run Tryz.prog W = .ok (.int .u8 (c.toNat : Int)) W := by
  obtain ⟨c', hc', hx, _⟩ := byte_at s q hq
  obtain rfl : c = c' := by rw [hc] at hc'; injection hc'
  rw [run_index_string (P := Tryz.prog) W 9 s .i64 (q : Int) Tryz.underlying9, dif_pos ⟨by omega, by omega⟩]
  have e : (q : Int).toNat = q := by omega
  simp only [e, hx]

set_option maxHeartbeats 2000000 in
theorem refName_any (s : ByteArray) : Calls Tryz.prog 121 #[.string s] w fun e w' => e = .returned (.bool (nameF s.data.toList)) ∧ Later w w' := by
  obtain ⟨L, hL⟩ : ∃ L, L = s.data.toList := ⟨_, rfl⟩
  have hlen : L.length = s.size := by rw [hL, Array.length_toList]; rfl
  rw [← hL]
  have HL := hide hL
  have HLEN := hide hlen
  have L0 := hide (Later.refl w)
  by_cases h1 : s.size < 1
  · have hb : (s.size : Int) < 1 := by omega
    have hf : nameF L = false := by
      cases hn : nameF L with
      | false => rfl
      | true => have := ((nameF_iff L).1 hn).1; omega
    rw [hf]
    clear hL hlen hf
    go_enter Tryz.func121, Tryz.ntmps121
    go_wp2
    go_ret
    exact ⟨rfl, L0.out⟩
  · have hb : ¬ (s.size : Int) < 1 := by omega
    by_cases h2 : 16 < s.size
    · have hb2 : 16 < (s.size : Int) := by omega
      have hf : nameF L = false := by
        cases hn : nameF L with
        | false => rfl
        | true => have := ((nameF_iff L).1 hn).2.1; omega
      rw [hf]
      clear hL hlen hf
      go_enter Tryz.func121, Tryz.ntmps121
      go_wp2
      go_ret
      exact ⟨rfl, L0.out⟩
    · have hb2 : ¬ 16 < (s.size : Int) := by omega
      obtain ⟨c0, hc0⟩ : ∃ c, L[0]? = some c := ⟨_, List.getElem?_eq_getElem (by omega)⟩
      have hi0 : ∀ W : World, (Instr.index 9 (.string s) (.int .i64 0)).run Tryz.prog W = .ok (.int .u8 (c0.toNat : Int)) W := fun W => by
        have := idx_at s 0 c0 (by omega) (by rw [← hL]; exact hc0) W
        exact this
      have HC0 := hide hc0
      have CS := hide (refSmall_any (w := w) c0.toNat)
      clear hL hlen hc0
      cases hs : smallB c0.toNat with
      | false =>
        rw [hs] at CS
        have hf := nameF_not0 HC0.out hs
        rw [hf]
        clear hf hs
        go_enter Tryz.func121, Tryz.ntmps121
        go_wp2_with (fail)
        refine CS.out.mono ?_
        rintro e w1 ⟨rfl, rfl⟩
        go_wp2_with (fail)
        go_ret
        exact ⟨rfl, L0.out⟩
      | true =>
        rw [hs] at CS
        have HS := hide hs
        clear hs
        go_enter Tryz.func121, Tryz.ntmps121
        go_wp2_with (fail)
        refine CS.out.mono ?_
        rintro e w1 ⟨rfl, rfl⟩
        clear hi0 CS
        go_wp2_with (fail)
        go_loopw [3] (fun v wr => wr = w1 ∧ ∃ q : Nat, v = .int .i64 (q : Int) ∧ q ≤ L.length ∧ ∀ c ∈ L.take q, partB c.toNat = true) (fun v _ => L.length - (Go.RowKit.intOf v).toNat)
        case atStart => exact ⟨rfl, 0, rfl, by omega, by simp⟩
        case round =>
          obtain ⟨rfl, q, rfl, hq, hall⟩ := hrel
          have HA := hide hall
          clear hall
          by_cases hlt : q < L.length
          · obtain ⟨c, hc⟩ : ∃ c, L[q]? = some c := ⟨_, List.getElem?_eq_getElem hlt⟩
            have hls : (q : Int) < (s.size : Int) := by have := HLEN.out; omega
            have hi : ∀ W : World, (Instr.index 9 (.string s) (.int .i64 (q : Int))).run Tryz.prog W = .ok (.int .u8 (c.toNat : Int)) W := idx_at s q c (by omega) (by rw [← HL.out]; exact hc)
            have CP := hide (refPart_any (w := wr) c.toNat)
            have HC := hide hc
            clear hc
            cases hp : partB c.toNat with
            | false =>
              rw [hp] at CP
              have hf := nameF_not HC.out hp
              have HF := hide hf
              clear hf hp
              go_wp2_with (fail)
              refine CP.out.mono ?_
              rintro e w1 ⟨rfl, rfl⟩
              go_wp2_with (fail)
              go_ret
              exact ⟨ret_bool HF.out.symm, L0.out⟩
            | true =>
              rw [hp] at CP
              have HP := hide hp
              clear hp
              go_wp2_with (fail)
              refine CP.out.mono ?_
              rintro e w1 ⟨rfl, rfl⟩
              go_wp2_with (fail)
              go_roundw
              case rel =>
                refine ⟨trivial, q + 1, by go_num, by omega, ?_⟩
                intro y hy
                rw [List.take_add_one, HC.out] at hy
                simp only [Option.toList_some, List.mem_append, List.mem_singleton] at hy
                rcases hy with hy | rfl
                · exact HA.out y hy
                · exact HP.out
              case measure => simp [Go.RowKit.intOf]; omega
          · have hls : ¬ (q : Int) < (s.size : Int) := by have := HLEN.out; omega
            have hf : nameF L = true := by
              rw [nameF_iff]
              refine ⟨by have := HLEN.out; omega, by have := HLEN.out; omega, fun c hc => ?_, ?_⟩
              · rw [HC0.out] at hc
                injection hc with hc
                rw [← hc]
                exact HS.out
              · have := HA.out
                rwa [List.take_of_length_le (by omega)] at this
            go_wp2_with (fail)
            go_ret
            exact ⟨rfl, L0.out⟩
end
end Go.Proofs.YtdkiopajilakcaaGreat
/- The document's Check. -/
namespace Go.Proofs.YtdkiopajilakcaaGreat
open Go.RowKit

section
variable {w : World}
theorem decide_gt (a b : Int) : decide (a > b) = decide (b < a) := rfl
set_option maxHeartbeats 16000000 in
set_option maxRecDepth 100000 in
theorem rcheck_any {F : Nat → Prop} {name : ByteArray} {v : Value} {steps : List StepD} (h : StepsAt F w v steps) :
    Calls Tryz.prog 105 #[.agg #[.string name, v]] w fun e w' => e = .returned (.tuple #[.int .i64 (((checkF name steps).1 : Nat) : Int), .int .i64 (((checkF name steps).2 : Nat) : Int)]) ∧ Later w w' := by
  obtain ⟨A, cap, rfl, hc1, hc2, _⟩ := FlatAt.shape h
  obtain ⟨n, hn⟩ : ∃ n, steps.length = n := ⟨_, rfl⟩
  rw [hn] at h hc1 ⊢
  obtain ⟨c1, hc1'⟩ : ∃ c, (checkF name steps).1 = c := ⟨_, rfl⟩
  obtain ⟨c2, hc2'⟩ : ∃ c, (checkF name steps).2 = c := ⟨_, rfl⟩
  rw [hc1', hc2']
  have HC1 := hide hc1'
  have HC2 := hide hc2'
  obtain ⟨W1, hW1⟩ : ∃ W1, W1 = w.alloc (.cells #[.string name, .slice A n cap] 35 (0, 0)) := ⟨_, rfl⟩
  obtain ⟨y, hy⟩ : ∃ y, y = w.heap.size := ⟨_, rfl⟩
  have B1 : Hid (W1.heap[y]? = some (.cells #[.string name, .slice A n cap] 35 (0, 0))) := by rw [hW1, hy]; exact heap_alloc_new w _
  have L1 : Hid (Later w W1) := by rw [hW1]; exact (Below.refl _ _).alloc (Nat.le_refl _) _
  have CN := hide (refName_any (w := W1) name)
  obtain ⟨q0, hq0⟩ : ∃ q, nameF name.data.toList = q := ⟨_, rfl⟩
  rw [hq0] at CN
  have HBAD : Hid ((!nameF name.data.toList || (decide (steps.length < 1) || decide (8 < steps.length))) = (!q0 || (decide (n < 1) || decide (8 < n)))) := by show _ = _; rw [hq0, hn]
  have H := hide h
  have HN := hide hn
  have HW1 := hide hW1.symm
  have HY := hide hy.symm
  clear h hn hW1 hy hc1' hc2' hq0
  go_enter Tryz.func105, Tryz.ntmps105
  go_wp2_with (fail)
  have hw := HW1.out
  have hyy := HY.out
  simp only [hw, hyy]
  clear hw hyy
  have c0 : W1.cell? ⟨y, 0, none⟩ = some (.string name) := (cell_of_row W1 y 0 _ _ _ B1.out).trans rfl
  have hy1 : y < W1.heap.size := lt_of_block B1.out
  go_wp2_with (fail)
  refine CN.out.mono ?_
  rintro e w2 ⟨rfl, hl2⟩
  have L2 := hide (L1.out.trans hl2)
  have B2 : Hid (w2.heap[y]? = some (.cells #[.string name, .slice A n cap] 35 (0, 0))) := (Below.block hl2 y (lt_of_block B1.out)).trans B1.out
  have c1' : w2.cell? ⟨y, 1, none⟩ = some (.slice A n cap) := (cell_of_row w2 y 1 _ _ _ B2.out).trans rfl
  have hy2 : y < w2.heap.size := lt_of_block B2.out
  clear CN hl2 L1 c0 hy1
  by_cases hbad : (!q0 || (decide (n < 1) || decide (8 < n))) = true
  · have HF : Hid (checkF name steps = (0, 2)) := by show _ = _; unfold checkF; rw [HBAD.out, hbad]; rfl
    have e1 : c1 = 0 := by rw [← HC1.out, HF.out]
    have e2 : c2 = 2 := by rw [← HC2.out, HF.out]
    have E1 := hide e1
    have E2 := hide e2
    clear e1 e2
    cases q0 with
    | false =>
      clear hbad HBAD
      go_wp2
      go_ret2
      exact ⟨by rw [E1.out, E2.out]; rfl, L2.out⟩
    | true =>
      by_cases h1 : n < 1
      · have k1 : decide ((n : Int) < 1) = true := decide_eq_true (by omega)
        clear hbad HBAD
        go_wp2
        go_ret2
        exact ⟨by rw [E1.out, E2.out]; rfl, L2.out⟩
      · have k1 : decide ((n : Int) < 1) = false := decide_eq_false (by omega)
        have h8 : 8 < n := by simp at hbad; omega
        have k2 : decide ((n : Int) > 8) = true := decide_eq_true (by omega)
        clear hbad HBAD
        go_wp2
        go_ret2
        exact ⟨by rw [E1.out, E2.out]; rfl, L2.out⟩
  · obtain rfl : q0 = true := by cases q0 <;> simp_all
    have h1 : ¬ n < 1 := by simp at hbad; omega
    have h8 : ¬ 8 < n := by simp at hbad; omega
    have HF : Hid (checkF name steps = firstBad (steps.take 0) (steps.drop 0)) := by show _ = _; unfold checkF; rw [HBAD.out, if_neg hbad]; rfl
    have k1 : decide ((n : Int) < 1) = false := decide_eq_false (by omega)
    have k2 : decide ((n : Int) > 8) = false := decide_eq_false (by omega)
    clear hbad HBAD
    go_wp2_with (fail)
    go_loopw [4, 28] (fun t4 v wr => ∃ i : Nat, v = .int .i64 (i : Int) ∧ i ≤ n ∧ t4 = .bool (pivotB (steps.take i)) ∧ checkF name steps = firstBad (steps.take i) (steps.drop i) ∧ Later w2 wr) (fun _ v _ => n - (Go.RowKit.intOf v).toNat)
    case atStart => exact ⟨0, rfl, by omega, rfl, HF.out, Later.refl _⟩
    case round =>
      obtain ⟨i, rfl, hi, rfl, hsum, hlat⟩ := hrel
      clear k1 k2
      have HS := hide hsum
      have HL := hide hlat
      have BR : Hid (wr.heap[y]? = some (.cells #[.string name, .slice A n cap] 35 (0, 0))) := (Below.block hlat y (lt_of_block B2.out)).trans B2.out
      clear hsum hlat
      obtain ⟨pb, hpb⟩ : ∃ pb, pivotB (steps.take i) = pb := ⟨_, rfl⟩
      rw [hpb]
      by_cases hlt : i < n
      · have HR := hide (StepsAt.kept H.out (Kept.of_below (L2.out.trans HL.out) F))
        obtain ⟨s, b, off, c', hs', hvv, _, _, _, hr⟩ := StepsAt.at_ HR.out (i := i) (by rw [HN.out]; exact hlt)
        rw [HN.out] at hvv
        obtain ⟨rfl, rfl⟩ : A = some ⟨b, off, none⟩ ∧ cap = c' := by injection hvv with e1 _ e3; exact ⟨e1, e3⟩
        obtain ⟨r0, r1, r2, r3, r4, r5⟩ := range_step hr
        have HSI := hide hs'
        have HPB := hide hpb
        obtain ⟨W5, hW5⟩ : ∃ W5, W5 = wr.alloc (.cells s.cells.toArray 79 (0, 0)) := ⟨_, rfl⟩
        obtain ⟨x, hx⟩ : ∃ x, x = wr.heap.size := ⟨_, rfl⟩
        have B5 : Hid (StepBox x s W5) := by rw [hW5, hx]; exact heap_alloc_new wr _
        have L5 : Hid (Later wr W5) := by rw [hW5]; exact (Below.refl _ _).alloc (Nat.le_refl _) _
        have BR5 : Hid (W5.heap[y]? = some (.cells #[.string name, .slice (some ⟨b, off, none⟩) n cap] 35 (0, 0))) := (Below.block L5.out y (lt_of_block BR.out)).trans BR.out
        have CS := hide (refName_any (w := W5) s.name)
        obtain ⟨q1, hq1⟩ : ∃ q, nameF s.name.data.toList = q := ⟨_, rfl⟩
        rw [hq1] at CS
        obtain ⟨E, hE⟩ : ∃ E, stepErr (steps.take i) s = E := ⟨_, rfl⟩
        have HE := hide hE
        have HQ1 := hide hq1
        have hx5 : x < W5.heap.size := lt_of_block B5.out
        obtain ⟨b0, b1, b2, b3, b4, b5, bf⟩ := B5.out.cells
        unfold StepD.cells at hW5
        have HW5 := hide hW5.symm
        have HX := hide hx.symm
        have cR : wr.cell? ⟨y, 1, none⟩ = some (.slice (some ⟨b, off, none⟩) n cap) := (cell_of_row wr y 1 _ _ _ BR.out).trans rfl
        clear hs' hvv hr hW5 hx hE hq1 hpb bf b1 b2 b3 b4 b5
        go_wp2_with (fail)
        have hw := HW5.out
        have hxx := HX.out
        simp only [hw, hxx]
        clear hw hxx r0 r1 r2 r3 r4 r5 cR
        go_wp2_with (fail)
        refine CS.out.mono ?_
        rintro e w6 ⟨rfl, hl6⟩
        have HL6 : Hid (Later w2 w6) := HL.out.trans (L5.out.trans hl6)
        have B6 : Hid (StepBox x s w6) := (Below.block hl6 x (lt_of_block B5.out)).trans B5.out
        have BR6 : Hid (w6.heap[y]? = some (.cells #[.string name, .slice (some ⟨b, off, none⟩) n cap] 35 (0, 0))) := (Below.block hl6 y (lt_of_block BR5.out)).trans BR5.out
        have hx6 : x < w6.heap.size := lt_of_block B6.out
        obtain ⟨b0', b1, b2, b3, b4, b5, bf⟩ := B6.out.cells
        clear CS hl6 hx5 b0 bf
        have HDONE : ∀ k : Nat, k ≠ 0 → E = k → c1 = i + 1 ∧ c2 = k := fun k hk hEk => by
          have hres : checkF name steps = (i + 1, E) := by rw [HS.out, firstBad_at HSI.out, HE.out, if_neg (by omega)]
          exact ⟨by rw [← HC1.out, hres], by rw [← HC2.out, hres, hEk]⟩
        have HDN := hide HDONE
        clear HDONE
        by_cases hbad : stepBad s = true
        · have hE2 : E = 2 := by rw [← HE.out]; exact err_bad hbad
          obtain ⟨e1, e2⟩ := HDN.out 2 (by omega) hE2
          have E1 := hide e1
          have E2 := hide e2
          have LR := hide (L2.out.trans HL6.out)
          clear hE2 e1 e2 HDN
          unfold stepBad outB at hbad
          rw [HQ1.out] at hbad
          cases q1 with
          | false =>
            clear hbad
            go_wp2
            go_ret2
            exact ⟨by rw [E1.out, E2.out]; rfl, LR.out⟩
          | true =>
            by_cases g0 : s.stub < 1
            · have f0 : decide (s.stub < 1) = true := decide_eq_true g0
              clear hbad
              go_wp2
              go_ret2
              exact ⟨by rw [E1.out, E2.out]; rfl, LR.out⟩
            · have f0 : decide (s.stub < 1) = false := decide_eq_false g0
              by_cases g1 : s.stub > 4
              · have f1 : decide (s.stub > 4) = true := decide_eq_true g1
                clear hbad
                go_wp2
                go_ret2
                exact ⟨by rw [E1.out, E2.out]; rfl, LR.out⟩
              · have f1 : decide (s.stub > 4) = false := decide_eq_false g1
                by_cases g2 : s.retry < 0
                · have f2 : decide (s.retry < 0) = true := decide_eq_true g2
                  clear hbad
                  go_wp2
                  go_ret2
                  exact ⟨by rw [E1.out, E2.out]; rfl, LR.out⟩
                · have f2 : decide (s.retry < 0) = false := decide_eq_false g2
                  by_cases g3 : s.retry > 9
                  · have f3 : decide (s.retry > 9) = true := decide_eq_true g3
                    clear hbad
                    go_wp2
                    go_ret2
                    exact ⟨by rw [E1.out, E2.out]; rfl, LR.out⟩
                  · have f3 : decide (s.retry > 9) = false := decide_eq_false g3
                    by_cases g4 : s.wait < 1
                    · have f4 : decide (s.wait < 1) = true := decide_eq_true g4
                      clear hbad
                      go_wp2
                      go_ret2
                      exact ⟨by rw [E1.out, E2.out]; rfl, LR.out⟩
                    · have f4 : decide (s.wait < 1) = false := decide_eq_false g4
                      have g5 : s.wait > 99 := by
                        simp at hbad
                        omega
                      have f5 : decide (s.wait > 99) = true := decide_eq_true g5
                      clear hbad
                      go_wp2
                      go_ret2
                      exact ⟨by rw [E1.out, E2.out]; rfl, LR.out⟩
        · have HB0 : Hid (stepBad s = false) := by show _ = _; simpa using hbad
          unfold stepBad outB at hbad
          rw [HQ1.out] at hbad
          simp only [Bool.or_eq_true, Bool.not_eq_true', decide_eq_true_eq, not_or, Bool.not_eq_false] at hbad
          obtain ⟨rfl, ⟨g1, g2⟩, ⟨g3, g4⟩, g5, g6⟩ := hbad
          have f1 : decide (s.stub < 1) = false := decide_eq_false g1
          have f2 : decide (s.stub > 4) = false := decide_eq_false g2
          have f3 : decide (s.retry < 0) = false := decide_eq_false g3
          have f4 : decide (s.retry > 9) = false := decide_eq_false g4
          have f5 : decide (s.wait < 1) = false := decide_eq_false g5
          have f6 : decide (s.wait > 99) = false := decide_eq_false g6
          have d1 : w6.cell? ⟨y, 1, none⟩ = some (.slice (some ⟨b, off, none⟩) n cap) := (cell_of_row w6 y 1 _ _ _ BR6.out).trans rfl
          have hy6 : y < w6.heap.size := lt_of_block BR6.out
          clear g1 g2 g3 g4 g5 g6 b4 b5
          go_wp2_with (fail)
          clear f1 f2 f3 f4 f5 f6 b1 b2 b3
          go_loopw [74] (fun v wr' => ∃ j : Nat, v = .int .i64 (j : Int) ∧ j ≤ i ∧ namedB (steps.take j) s = false ∧ Later w6 wr') (fun v _ => i - (Go.RowKit.intOf v).toNat)
          case atStart => exact ⟨0, rfl, by omega, rfl, Later.refl _⟩
          case round =>
            obtain ⟨j, rfl, hj, hnm, hlat⟩ := hrel
            have HNM := hide hnm
            have HLJ := hide hlat
            clear hnm hlat
            have BJ : Hid (StepBox x s wr) := (Below.block HLJ.out x (lt_of_block B6.out)).trans B6.out
            by_cases hlj : j < i
            · have HRJ := hide (StepsAt.kept H.out (Kept.of_below (L2.out.trans (HL6.out.trans HLJ.out)) F))
              obtain ⟨sj, b', off', c'', hs', hvv, _, _, _, hr⟩ := StepsAt.at_ HRJ.out (i := j) (by rw [HN.out]; omega)
              rw [HN.out] at hvv
              obtain ⟨e1, rfl⟩ : (some ⟨b, off, none⟩ : Option Addr) = some ⟨b', off', none⟩ ∧ cap = c'' := by injection hvv with e1 _ e3; exact ⟨e1, e3⟩
              obtain ⟨rfl, rfl⟩ : b = b' ∧ off = off' := by injection e1 with e1; injection e1 with e1 e2; exact ⟨e1, e2⟩
              obtain ⟨r0, r1, r2, r3, r4, r5⟩ := range_step hr
              have HSJ := hide hs'
              have LJ : Hid (Later w2 wr) := HL6.out.trans HLJ.out
              obtain ⟨W8, hW8⟩ : ∃ W8, W8 = wr.alloc (.cells sj.cells.toArray 79 (0, 0)) := ⟨_, rfl⟩
              obtain ⟨z, hz⟩ : ∃ z, z = wr.heap.size := ⟨_, rfl⟩
              have B8 : Hid (StepBox z sj W8) := by rw [hW8, hz]; exact heap_alloc_new wr _
              have L8 : Hid (Later wr W8) := by rw [hW8]; exact (Below.refl _ _).alloc (Nat.le_refl _) _
              have BX8 : Hid (StepBox x s W8) := (Below.block L8.out x (lt_of_block BJ.out)).trans BJ.out
              have a0 := B8.out.cells.1
              have a1 := BX8.out.cells.1
              have hz8 : z < W8.heap.size := lt_of_block B8.out
              have hx8 : x < W8.heap.size := lt_of_block BX8.out
              unfold StepD.cells at hW8
              have HW8 := hide hW8.symm
              have HZ := hide hz.symm
              have aJ := BJ.out.cells.1
              have hxj : x < wr.heap.size := lt_of_block BJ.out
              have a1r := a1
              have hx8r := hx8
              rw [hW8] at a1r hx8r
              clear hs' hvv hr hW8 hz e1 a0 hz8
              by_cases hnn : sj.name = s.name
              · have hE9 : E = 9 := by
                  rw [← HE.out]
                  refine err_late HB0.out ?_
                  have : namedB (steps.take i) s = true := by
                    unfold namedB
                    rw [List.any_eq_true]
                    refine ⟨sj, ?_, by simp [hnn]⟩
                    refine List.mem_of_getElem? (i := j) ?_
                    rw [List.getElem?_take_of_lt hlj]
                    exact HSJ.out
                  rw [this]; rfl
                obtain ⟨e1, e2⟩ := HDN.out 9 (by omega) hE9
                have E1 := hide e1
                have E2 := hide e2
                have LR : Hid (Later w W8) := L2.out.trans (LJ.out.trans L8.out)
                have hb : (sj.name.toList == s.name.toList) = true := by rw [hnn]; simp
                clear hE9 e1 e2 HDN hnn
                go_wp2_with (fail)
                have hw := HW8.out
                try simp only [hw]
                clear hw r0 r1 r2 r3 r4 r5
                go_ret2
                exact ⟨by rw [E1.out, E2.out]; rfl, LR.out⟩
              · have hb : (sj.name.toList == s.name.toList) = false := by rw [Sd.str_eq]; simpa using hnn
                have HNJ : Hid (namedB (steps.take (j + 1)) s = false) := by
                  show _ = _
                  have h0 := HNM.out
                  unfold namedB at h0 ⊢
                  rw [List.take_add_one, HSJ.out, List.any_append, h0]
                  simp [hnn]
                have LR : Hid (Later w6 W8) := HLJ.out.trans L8.out
                clear hnn
                go_wp2_with (fail)
                have hw := HW8.out
                try simp only [hw]
                clear hw r0 r1 r2 r3 r4 r5
                go_roundw
                case rel => exact ⟨j + 1, by go_num, by omega, HNJ.out, LR.out⟩
                case measure => simp [Go.RowKit.intOf]; omega
            · obtain rfl : j = i := by omega
              obtain ⟨_, b1, b2, b3, b4, b5, bf⟩ := BJ.out.cells
              have hxj : x < wr.heap.size := lt_of_block BJ.out
              have LR : Hid (Later w wr) := L2.out.trans (HL6.out.trans HLJ.out)
              have LQ : Hid (Later w2 wr) := HL6.out.trans HLJ.out
              obtain ⟨un, hun⟩ : ∃ un, s.undo = un := ⟨_, rfl⟩
              obtain ⟨pv, hpv⟩ : ∃ pv, s.pivot = pv := ⟨_, rfl⟩
              rw [hun] at b4
              rw [hpv] at b5
              have HUN := hide hun
              have HPV := hide hpv
              have HPP : Hid (pivotB (steps.take (j + 1)) = (pb || pv)) := by
                show _ = _
                have h0 := HPB.out
                unfold pivotB at h0 ⊢
                rw [List.take_add_one, HSI.out, List.any_append, h0, ← hpv]
                simp
              clear hun hpv b1 b2 b3 bf d1
              have HFB := firstBad_at HSI.out
              rw [HE.out] at HFB
              have HFB' := hide HFB
              clear HFB
              cases pb <;> cases pv <;> cases un <;> first
                | (have hEv : E = 9 := by rw [← HE.out]; exact err_late HB0.out (by rw [HNM.out, HPB.out, HPV.out]; rfl)
                   obtain ⟨e1, e2⟩ := HDN.out 9 (by omega) hEv
                   have E1 := hide e1
                   have E2 := hide e2
                   clear hEv e1 e2 HDN
                   go_wp2_with (fail)
                   go_ret2
                   exact ⟨by rw [E1.out, E2.out]; rfl, LR.out⟩)
                | (have hEv : E = 10 := by rw [← HE.out]; exact err_undo HB0.out (by rw [HNM.out, HPB.out, HPV.out]; rfl) (by rw [HPB.out, HPV.out, HUN.out]; rfl)
                   obtain ⟨e1, e2⟩ := HDN.out 10 (by omega) hEv
                   have E1 := hide e1
                   have E2 := hide e2
                   clear hEv e1 e2 HDN
                   go_wp2_with (fail)
                   go_ret2
                   exact ⟨by rw [E1.out, E2.out]; rfl, LR.out⟩)
                | (have hEv : Hid (E = 0) := by show _ = _; rw [← HE.out]; exact err_none HB0.out (by rw [HNM.out, HPB.out, HPV.out]; rfl) (by rw [HPB.out, HPV.out, HUN.out]; rfl)
                   clear HDN
                   go_wp2_with (fail)
                   go_roundw
                   case rel => exact ⟨j + 1, by go_num, by omega, by rw [HPP.out]; rfl, by rw [HS.out, HFB'.out, if_pos hEv.out], LQ.out⟩
                   case measure => simp [Go.RowKit.intOf]; omega)
      · have hie : i = n := by omega
        have hres : checkF name steps = (0, 0) := by rw [HS.out, hie, ← HN.out, firstBad_end]
        have e1 : c1 = 0 := by rw [← HC1.out, hres]
        have e2 : c2 = 0 := by rw [← HC2.out, hres]
        have E1 := hide e1
        have E2 := hide e2
        have cR : wr.cell? ⟨y, 1, none⟩ = some (.slice A n cap) := (cell_of_row wr y 1 _ _ _ BR.out).trans rfl
        clear hres e1 e2 hie
        go_wp2_with (fail)
        go_ret2
        exact ⟨by rw [E1.out, E2.out]; rfl, L2.out.trans HL.out⟩
end
end Go.Proofs.YtdkiopajilakcaaGreat
/- Sums over the steps: the code's, by a function that is given one, and the document's. -/
namespace Go.Proofs.YtdkiopajilakcaaGreat
open Go.RowKit

/-- The closure v tells f of each step that may be, in all later worlds. -/
def AskI (w : World) (v : SetV) (f : StepD → Int) : Prop :=
  Enters v.F ∧ ∀ (W : World) (s : StepD), Later w W → stepBad s = false → Calls Tryz.prog v.F (#[.agg s.cells.toArray] ++ v.cs) W fun e W' => e = .returned (.int .i64 (f s)) ∧ Later W W'
theorem good_in {name : ByteArray} {l : List StepD} {i : Nat} {s : StepD} (h : (checkF name l).2 = 0) (hs : l[i]? = some s) : stepBad s = false := (check_good h).2.2.2 s (List.mem_of_getElem? hs)
theorem sum_at {f : StepD → Int} (hf : ∀ s, stepBad s = false → 0 ≤ f s ∧ f s ≤ 1000) {name : ByteArray} {l : List StepD} (h : (checkF name l).2 = 0) (i : Nat) : 0 ≤ sumL f (l.take i) ∧ sumL f (l.take i) ≤ 16000 := by
  obtain ⟨h1, _, _, h3⟩ := check_good h
  have := sumL_range (f := f) (l := l.take i) fun s hs => hf s (h3 s (List.mem_of_mem_take hs))
  have h4 : (l.take i).length ≤ 8 := by rw [List.length_take]; omega
  omega
theorem sum_next (f : StepD → Int) {l : List StepD} {i : Nat} {s : StepD} (hs : l[i]? = some s) : sumL f (l.take (i + 1)) = sumL f (l.take i) + (if s.undo then f s * 2 else f s) := by
  rw [List.take_add_one, hs, Option.toList_some, sumL_app]

theorem wrap_fits {x : Int} (h : 0 ≤ x ∧ x ≤ 1000) : IntKind.i64.wrap x = x := by
  unfold IntKind.wrap
  simp [IntKind.bits, IntKind.signed]
  omega
section
variable {w : World}
end
end Go.Proofs.YtdkiopajilakcaaGreat
/- What comes of a saga: whether it came, is sealed, its next step, its way back. -/
namespace Go.Proofs.YtdkiopajilakcaaGreat
open Go.RowKit
section
variable {w : World}
set_option maxHeartbeats 4000000 in
theorem sealedS_any {F : Nat → Prop} {s : SagaD} {l : List StepD} (h : StepsAt F w s.v l) (hl : l.length ≤ 1000) : Calls Tryz.prog 67 #[s.val] w (Gives (.bool (sealedS l s)) w) := by
  obtain ⟨W1, hW1⟩ : ∃ W1, W1 = (w.alloc (.cells s.cells.toArray 72 (0, 0))) := ⟨_, rfl⟩
  obtain ⟨g, hg⟩ : ∃ g, g = w.heap.size := ⟨_, rfl⟩
  have X1 : Hid (SBox 72 g s W1) := by rw [hW1, hg]; exact heap_alloc_new _ _
  have L1 : Hid (Later w W1) := by rw [hW1]; exact (Below.refl _ _).alloc (Nat.le_refl _) _
  have HG0 : Hid (w.heap.size ≤ g) := Nat.le_of_eq hg.symm
  have C : Hid (∀ W, Later W1 W → Calls Tryz.prog 100 #[.agg #[.string s.name, .slice s.p s.n s.c], .slice (some ⟨g, 5, none⟩) 8 8] W fun e w' => e = .returned (.bool (sealedS l s)) ∧ Later W w') := fun W hW => sealed_any (StepsAt.kept h (Kept.of_below (L1.out.trans hW) _)) hl (X1.out.below hW).bools
  obtain ⟨q, hq⟩ : ∃ q, sealedS l s = q := ⟨_, rfl⟩
  rw [hq] at C ⊢
  have HW1 := hide hW1.symm
  have HG := hide hg.symm
  clear hW1 hg h hl hq
  go_enter Tryz.func67, Tryz.ntmps67
  go_wp2_with (fail)
  simp only [HW1.out, HG.out]
  have XD := hide (show SBox 72 g s W1.drew from X1.out)
  have LD := hide (L1.out.trans (Later.drew W1))
  refine wp_region_L (by kernel_rfl) ?_
  refine wpAnyL_take (i := 0) (d := some 3) (v := ?vaa0) rfl rfl (by kernel_rfl) (by kernel_rfl) (by kernel_rfl) (fun _ _ _ h => h) (by rfl) ?yaa0 ?_
  case yaa0 => (intro w' hw'; go_simp; try (with_reducible rfl))
  simp only [Act.put]; try simp only [List.setIfInBounds_toArray]; try simp only [List.set_cons_zero, List.set_cons_succ]
  refine wpAnyL_take (i := 1) (d := some 4) (v := .agg #[.string s.name, .slice s.p s.n s.c]) rfl rfl (by kernel_rfl) (by kernel_rfl) (by kernel_rfl) (fun _ _ _ h => h) (by rfl) ?yaa1 ?_
  case yaa1 => (intro w' hw'; exact exec_load_sdef _ (by rfl) (by rfl) (XD.out.below hw'))
  simp only [Act.put]; try simp only [List.setIfInBounds_toArray]; try simp only [List.set_cons_zero, List.set_cons_succ]
  refine wpAnyL_take (i := 2) (d := some 5) (v := ?vaa2) rfl rfl (by kernel_rfl) (by kernel_rfl) (by kernel_rfl) (fun _ _ _ h => h) (by rfl) ?yaa2 ?_
  case yaa2 => (intro w' hw'; go_simp; try (with_reducible rfl))
  simp only [Act.put]; try simp only [List.setIfInBounds_toArray]; try simp only [List.set_cons_zero, List.set_cons_succ]
  refine wpAnyL_take (i := 3) (d := some 6) (v := .slice (some ⟨g, 5, none⟩) 8 8) rfl rfl (by kernel_rfl) (by kernel_rfl) (by kernel_rfl) (fun _ _ _ h => h) (by rfl) ?yaa3 ?_
  case yaa3 => (intro w' hw'; go_simp; try (with_reducible rfl))
  simp only [Act.put]; try simp only [List.setIfInBounds_toArray]; try simp only [List.set_cons_zero, List.set_cons_succ]
  refine wpAnyL_only (i := 4) rfl (by kernel_rfl) (by rfl) fun K hK => ?_
  go_simp
  refine (C.out _ (Later.drew W1)).mono ?_
  rintro e w_4 ⟨rfl, hl_⟩
  have L4 := hide (LD.out.trans hl_)
  refine hK.out _ _ hl_ ?_
  clear hl_
  clear hK K
  try (simp only [Act.put]; try simp only [List.setIfInBounds_toArray]; try simp only [List.set_cons_zero, List.set_cons_succ])
  refine wpAnyL_take (i := 5) (d := some 2) (v := ?vaa5) rfl rfl (by kernel_rfl) (by kernel_rfl) (by kernel_rfl) (fun _ _ _ h => h) (by rfl) ?yaa5 ?_
  case yaa5 => (intro w' hw'; go_simp; try (with_reducible rfl))
  simp only [Act.put]; try simp only [List.setIfInBounds_toArray]; try simp only [List.set_cons_zero, List.set_cons_succ]
  refine wpAnyL_done (by kernel_rfl) ?_ _
  go_wp2
  go_ret
  exact ⟨rfl, L4.out⟩

theorem exec_eql_hits {op : Oper} {a : Act} {w : World} (x y : Hits) (p q : Operand) (t : TypeId) (ho : op.op = .binOp .eql 70 p q t) (hp : a.eval p = x.val) (hq : a.eval q = y.val) : (execOp a.eval op).run Tryz.prog w = .ok (.value (.bool (decide (x = y)))) w := by
  unfold execOp
  simp only [ho, hp, hq, Sem.run_bind, eql_hits, run_eqGuard_agg (P := Tryz.prog) w .eql 70 p q x.cells.toArray y.cells.toArray (by kernel_rfl), Result.andThen_ok, Sem.run_pure]
set_option maxHeartbeats 4000000 in
theorem came_yes {s : SagaD} (h1 : 1 ≤ s.step) (h8 : s.step ≤ 8) (hq : decide (s.hit = upH (s.step - 1)) = true) : Calls Tryz.prog 94 #[s.val] w (Gives (.bool (cameF s)) w) := by
  obtain ⟨W1, hW1⟩ : ∃ W1, W1 = (w.alloc (.cells s.cells.toArray 72 (0, 0))) := ⟨_, rfl⟩
  obtain ⟨g, hg⟩ : ∃ g, g = w.heap.size := ⟨_, rfl⟩
  have X1 : Hid (SBox 72 g s W1) := by rw [hW1, hg]; exact heap_alloc_new _ _
  have L1 : Hid (Later w W1) := by rw [hW1]; exact (Below.refl _ _).alloc (Nat.le_refl _) _
  have HG0 : Hid (w.heap.size ≤ g) := Nat.le_of_eq hg.symm
  have C : Hid (∀ (W : World) (k : Int), k ≤ 8 → Calls Tryz.prog 95 #[.int .i64 k] W (Gives (upH k).val W)) := fun W k hk => upTo_any k hk
  obtain ⟨Q, hQ⟩ : ∃ q, cameF s = q := ⟨_, rfl⟩
  have HQ : Hid (Q = (true || decide (s.hit = upH s.step))) := by show _ = _; rw [← hQ, ← hq]; rfl
  rw [hQ]
  have H1 := hide hq
  have hwr : IntKind.i64.wrap (s.step - 1) = s.step - 1 := wrap_fits (by omega)
  have HW1 := hide hW1.symm
  have HG := hide hg.symm
  clear hW1 hg hq hQ
  go_enter Tryz.func94, Tryz.ntmps94
  go_wp2_with (fail)
  simp only [HW1.out, HG.out]
  have XD := hide (show SBox 72 g s W1.drew from X1.out)
  have LD := hide (L1.out.trans (Later.drew W1))
  refine wp_region_L (by kernel_rfl) ?_
  refine wpAnyL_take (i := 0) (d := some 3) (v := ?vac00) rfl rfl (by kernel_rfl) (by kernel_rfl) (by kernel_rfl) (fun _ _ _ h => h) (by rfl) ?yac00 ?_
  case yac00 => (intro w' hw'; go_simp; try (with_reducible rfl))
  simp only [Act.put]; try simp only [List.setIfInBounds_toArray]; try simp only [List.set_cons_zero, List.set_cons_succ]
  refine wpAnyL_take (i := 1) (d := some 4) (v := s.hit.val) rfl rfl (by kernel_rfl) (by kernel_rfl) (by kernel_rfl) (fun _ _ _ h => h) (by rfl) ?yac01 ?_
  case yac01 => (intro w' hw'; exact exec_load_hits _ (by rfl) (by rfl) (XD.out.below hw'))
  simp only [Act.put]; try simp only [List.setIfInBounds_toArray]; try simp only [List.set_cons_zero, List.set_cons_succ]
  refine wpAnyL_take (i := 2) (d := some 5) (v := ?vac02) rfl rfl (by kernel_rfl) (by kernel_rfl) (by kernel_rfl) (fun _ _ _ h => h) (by rfl) ?yac02 ?_
  case yac02 => (intro w' hw'; go_simp; try (with_reducible rfl))
  simp only [Act.put]; try simp only [List.setIfInBounds_toArray]; try simp only [List.set_cons_zero, List.set_cons_succ]
  refine wpAnyL_take (i := 3) (d := some 6) (v := ?vac03) rfl rfl (by kernel_rfl) (by kernel_rfl) (by kernel_rfl) (fun _ _ _ h => h) (by rfl) ?yac03 ?_
  case yac03 => (intro w' hw'; have c3 := (XD.out.below hw').c3; go_simp; try (with_reducible rfl))
  simp only [Act.put]; try simp only [List.setIfInBounds_toArray]; try simp only [List.set_cons_zero, List.set_cons_succ]
  refine wpAnyL_take (i := 4) (d := some 7) (v := ?vac04) rfl rfl (by kernel_rfl) (by kernel_rfl) (by kernel_rfl) (fun _ _ _ h => h) (by rfl) ?yac04 ?_
  case yac04 => (intro w' hw'; go_simp; try (with_reducible rfl))
  simp only [Act.put]; try simp only [List.setIfInBounds_toArray]; try simp only [List.set_cons_zero, List.set_cons_succ]
  refine wpAnyL_only (i := 5) rfl (by kernel_rfl) (by rfl) fun K hK => ?_
  go_simp
  refine (C.out _ (s.step - 1) (by omega)).mono ?_
  rintro e w_5 ⟨rfl, hl_⟩
  have L5 := hide (LD.out.trans hl_)
  have X5 := hide (XD.out.below hl_)
  refine hK.out _ _ hl_ ?_
  clear hl_
  clear hK K
  try (simp only [Act.put]; try simp only [List.setIfInBounds_toArray]; try simp only [List.set_cons_zero, List.set_cons_succ])
  refine wpAnyL_take (i := 6) (d := some 9) (v := .bool true) rfl rfl (by kernel_rfl) (by kernel_rfl) (by kernel_rfl) (fun _ _ _ h => h) (by rfl) ?yac06 ?_
  case yac06 => (intro w' hw'; exact (exec_eql_hits s.hit (upH (s.step - 1)) _ _ _ (by rfl) (by rfl) (by rfl)).trans (by rw [H1.out]))
  simp only [Act.put]; try simp only [List.setIfInBounds_toArray]; try simp only [List.set_cons_zero, List.set_cons_succ]
  refine wpAnyL_take (i := 7) (d := some 10) (v := ?vac07) rfl rfl (by kernel_rfl) (by kernel_rfl) (by kernel_rfl) (fun _ _ _ h => h) (by rfl) ?yac07 ?_
  case yac07 => (intro w' hw'; go_simp; try (with_reducible rfl))
  simp only [Act.put]; try simp only [List.setIfInBounds_toArray]; try simp only [List.set_cons_zero, List.set_cons_succ]
  refine wpAnyL_pass (i := 8) (d := some 11) rfl rfl (by kernel_rfl) (by kernel_rfl) (by kernel_rfl) (fun _ _ _ h => h) (by rfl) ?_
  try (simp only [Act.put]; try simp only [List.setIfInBounds_toArray]; try simp only [List.set_cons_zero, List.set_cons_succ])
  refine wpAnyL_pass (i := 9) (d := some 12) rfl rfl (by kernel_rfl) (by kernel_rfl) (by kernel_rfl) (fun _ _ _ h => h) (by rfl) ?_
  try (simp only [Act.put]; try simp only [List.setIfInBounds_toArray]; try simp only [List.set_cons_zero, List.set_cons_succ])
  refine wpAnyL_pass (i := 10) (d := some 13) rfl rfl (by kernel_rfl) (by kernel_rfl) (by kernel_rfl) (fun _ _ _ h => h) (by rfl) ?_
  try (simp only [Act.put]; try simp only [List.setIfInBounds_toArray]; try simp only [List.set_cons_zero, List.set_cons_succ])
  refine wpAnyL_pass (i := 11) (d := some 14) rfl rfl (by kernel_rfl) (by kernel_rfl) (by kernel_rfl) (fun _ _ _ h => h) (by rfl) ?_
  try (simp only [Act.put]; try simp only [List.setIfInBounds_toArray]; try simp only [List.set_cons_zero, List.set_cons_succ])
  refine wpAnyL_pass (i := 12) (d := some 15) rfl rfl (by kernel_rfl) (by kernel_rfl) (by kernel_rfl) (fun _ _ _ h => h) (by rfl) ?_
  try (simp only [Act.put]; try simp only [List.setIfInBounds_toArray]; try simp only [List.set_cons_zero, List.set_cons_succ])
  refine wpAnyL_pass (i := 13) (d := some 16) rfl rfl (by kernel_rfl) (by kernel_rfl) (by kernel_rfl) (fun _ _ _ h => h) (by rfl) ?_
  try (simp only [Act.put]; try simp only [List.setIfInBounds_toArray]; try simp only [List.set_cons_zero, List.set_cons_succ])
  refine wpAnyL_take (i := 14) (d := some 17) (v := ?vac014) rfl rfl (by kernel_rfl) (by kernel_rfl) (by kernel_rfl) (fun _ _ _ h => h) (by rfl) ?yac014 ?_
  case yac014 => (intro w' hw'; go_simp; try (with_reducible rfl))
  simp only [Act.put]; try simp only [List.setIfInBounds_toArray]; try simp only [List.set_cons_zero, List.set_cons_succ]
  refine wpAnyL_take (i := 15) (d := some 2) (v := ?vac015) rfl rfl (by kernel_rfl) (by kernel_rfl) (by kernel_rfl) (fun _ _ _ h => h) (by rfl) ?yac015 ?_
  case yac015 => (intro w' hw'; go_simp; try (with_reducible rfl))
  simp only [Act.put]; try simp only [List.setIfInBounds_toArray]; try simp only [List.set_cons_zero, List.set_cons_succ]
  refine wpAnyL_done (by kernel_rfl) ?_ _
  go_wp2
  go_ret
  exact ⟨ret_bool (by rw [HQ.out]; rfl), L5.out⟩
set_option maxHeartbeats 4000000 in
theorem came_no {s : SagaD} (h1 : 1 ≤ s.step) (h8 : s.step ≤ 8) (hq : decide (s.hit = upH (s.step - 1)) = false) : Calls Tryz.prog 94 #[s.val] w (Gives (.bool (cameF s)) w) := by
  obtain ⟨W1, hW1⟩ : ∃ W1, W1 = (w.alloc (.cells s.cells.toArray 72 (0, 0))) := ⟨_, rfl⟩
  obtain ⟨g, hg⟩ : ∃ g, g = w.heap.size := ⟨_, rfl⟩
  have X1 : Hid (SBox 72 g s W1) := by rw [hW1, hg]; exact heap_alloc_new _ _
  have L1 : Hid (Later w W1) := by rw [hW1]; exact (Below.refl _ _).alloc (Nat.le_refl _) _
  have HG0 : Hid (w.heap.size ≤ g) := Nat.le_of_eq hg.symm
  have C : Hid (∀ (W : World) (k : Int), k ≤ 8 → Calls Tryz.prog 95 #[.int .i64 k] W (Gives (upH k).val W)) := fun W k hk => upTo_any k hk
  obtain ⟨Q, hQ⟩ : ∃ q, cameF s = q := ⟨_, rfl⟩
  have HQ : Hid (Q = (false || decide (s.hit = upH s.step))) := by show _ = _; rw [← hQ, ← hq]; rfl
  rw [hQ]
  have H1 := hide hq
  have hwr : IntKind.i64.wrap (s.step - 1) = s.step - 1 := wrap_fits (by omega)
  have HW1 := hide hW1.symm
  have HG := hide hg.symm
  clear hW1 hg hq hQ
  go_enter Tryz.func94, Tryz.ntmps94
  go_wp2_with (fail)
  simp only [HW1.out, HG.out]
  have XD := hide (show SBox 72 g s W1.drew from X1.out)
  have LD := hide (L1.out.trans (Later.drew W1))
  refine wp_region_L (by kernel_rfl) ?_
  refine wpAnyL_take (i := 0) (d := some 3) (v := ?vac10) rfl rfl (by kernel_rfl) (by kernel_rfl) (by kernel_rfl) (fun _ _ _ h => h) (by rfl) ?yac10 ?_
  case yac10 => (intro w' hw'; go_simp; try (with_reducible rfl))
  simp only [Act.put]; try simp only [List.setIfInBounds_toArray]; try simp only [List.set_cons_zero, List.set_cons_succ]
  refine wpAnyL_take (i := 1) (d := some 4) (v := s.hit.val) rfl rfl (by kernel_rfl) (by kernel_rfl) (by kernel_rfl) (fun _ _ _ h => h) (by rfl) ?yac11 ?_
  case yac11 => (intro w' hw'; exact exec_load_hits _ (by rfl) (by rfl) (XD.out.below hw'))
  simp only [Act.put]; try simp only [List.setIfInBounds_toArray]; try simp only [List.set_cons_zero, List.set_cons_succ]
  refine wpAnyL_take (i := 2) (d := some 5) (v := ?vac12) rfl rfl (by kernel_rfl) (by kernel_rfl) (by kernel_rfl) (fun _ _ _ h => h) (by rfl) ?yac12 ?_
  case yac12 => (intro w' hw'; go_simp; try (with_reducible rfl))
  simp only [Act.put]; try simp only [List.setIfInBounds_toArray]; try simp only [List.set_cons_zero, List.set_cons_succ]
  refine wpAnyL_take (i := 3) (d := some 6) (v := ?vac13) rfl rfl (by kernel_rfl) (by kernel_rfl) (by kernel_rfl) (fun _ _ _ h => h) (by rfl) ?yac13 ?_
  case yac13 => (intro w' hw'; have c3 := (XD.out.below hw').c3; go_simp; try (with_reducible rfl))
  simp only [Act.put]; try simp only [List.setIfInBounds_toArray]; try simp only [List.set_cons_zero, List.set_cons_succ]
  refine wpAnyL_take (i := 4) (d := some 7) (v := ?vac14) rfl rfl (by kernel_rfl) (by kernel_rfl) (by kernel_rfl) (fun _ _ _ h => h) (by rfl) ?yac14 ?_
  case yac14 => (intro w' hw'; go_simp; try (with_reducible rfl))
  simp only [Act.put]; try simp only [List.setIfInBounds_toArray]; try simp only [List.set_cons_zero, List.set_cons_succ]
  refine wpAnyL_only (i := 5) rfl (by kernel_rfl) (by rfl) fun K hK => ?_
  go_simp
  refine (C.out _ (s.step - 1) (by omega)).mono ?_
  rintro e w_5 ⟨rfl, hl_⟩
  have L5 := hide (LD.out.trans hl_)
  have X5 := hide (XD.out.below hl_)
  refine hK.out _ _ hl_ ?_
  clear hl_
  clear hK K
  try (simp only [Act.put]; try simp only [List.setIfInBounds_toArray]; try simp only [List.set_cons_zero, List.set_cons_succ])
  refine wpAnyL_take (i := 6) (d := some 9) (v := .bool false) rfl rfl (by kernel_rfl) (by kernel_rfl) (by kernel_rfl) (fun _ _ _ h => h) (by rfl) ?yac16 ?_
  case yac16 => (intro w' hw'; exact (exec_eql_hits s.hit (upH (s.step - 1)) _ _ _ (by rfl) (by rfl) (by rfl)).trans (by rw [H1.out]))
  simp only [Act.put]; try simp only [List.setIfInBounds_toArray]; try simp only [List.set_cons_zero, List.set_cons_succ]
  refine wpAnyL_take (i := 7) (d := some 10) (v := ?vac17) rfl rfl (by kernel_rfl) (by kernel_rfl) (by kernel_rfl) (fun _ _ _ h => h) (by rfl) ?yac17 ?_
  case yac17 => (intro w' hw'; go_simp; try (with_reducible rfl))
  simp only [Act.put]; try simp only [List.setIfInBounds_toArray]; try simp only [List.set_cons_zero, List.set_cons_succ]
  refine wpAnyL_take (i := 8) (d := some 11) (v := ?vac18) rfl rfl (by kernel_rfl) (by kernel_rfl) (by kernel_rfl) (fun _ _ _ h => h) (by rfl) ?yac18 ?_
  case yac18 => (intro w' hw'; go_simp; try (with_reducible rfl))
  simp only [Act.put]; try simp only [List.setIfInBounds_toArray]; try simp only [List.set_cons_zero, List.set_cons_succ]
  refine wpAnyL_take (i := 9) (d := some 12) (v := s.hit.val) rfl rfl (by kernel_rfl) (by kernel_rfl) (by kernel_rfl) (fun _ _ _ h => h) (by rfl) ?yac19 ?_
  case yac19 => (intro w' hw'; exact exec_load_hits _ (by rfl) (by rfl) (X5.out.below hw'))
  simp only [Act.put]; try simp only [List.setIfInBounds_toArray]; try simp only [List.set_cons_zero, List.set_cons_succ]
  refine wpAnyL_take (i := 10) (d := some 13) (v := ?vac110) rfl rfl (by kernel_rfl) (by kernel_rfl) (by kernel_rfl) (fun _ _ _ h => h) (by rfl) ?yac110 ?_
  case yac110 => (intro w' hw'; go_simp; try (with_reducible rfl))
  simp only [Act.put]; try simp only [List.setIfInBounds_toArray]; try simp only [List.set_cons_zero, List.set_cons_succ]
  refine wpAnyL_take (i := 11) (d := some 14) (v := ?vac111) rfl rfl (by kernel_rfl) (by kernel_rfl) (by kernel_rfl) (fun _ _ _ h => h) (by rfl) ?yac111 ?_
  case yac111 => (intro w' hw'; have c3 := (X5.out.below hw').c3; go_simp; try (with_reducible rfl))
  simp only [Act.put]; try simp only [List.setIfInBounds_toArray]; try simp only [List.set_cons_zero, List.set_cons_succ]
  refine wpAnyL_only (i := 12) rfl (by kernel_rfl) (by rfl) fun K hK => ?_
  go_simp
  refine (C.out _ s.step h8).mono ?_
  rintro e w_12 ⟨rfl, hl_⟩
  have L12 := hide (L5.out.trans hl_)
  refine hK.out _ _ hl_ ?_
  clear hl_
  clear hK K
  try (simp only [Act.put]; try simp only [List.setIfInBounds_toArray]; try simp only [List.set_cons_zero, List.set_cons_succ])
  refine wpAnyL_take (i := 13) (d := some 16) (v := .bool (decide (s.hit = upH s.step))) rfl rfl (by kernel_rfl) (by kernel_rfl) (by kernel_rfl) (fun _ _ _ h => h) (by rfl) ?yac113 ?_
  case yac113 => (intro w' hw'; exact exec_eql_hits s.hit (upH s.step) _ _ _ (by rfl) (by rfl) (by rfl))
  simp only [Act.put]; try simp only [List.setIfInBounds_toArray]; try simp only [List.set_cons_zero, List.set_cons_succ]
  refine wpAnyL_take (i := 14) (d := some 17) (v := ?vac114) rfl rfl (by kernel_rfl) (by kernel_rfl) (by kernel_rfl) (fun _ _ _ h => h) (by rfl) ?yac114 ?_
  case yac114 => (intro w' hw'; go_simp; try (with_reducible rfl))
  simp only [Act.put]; try simp only [List.setIfInBounds_toArray]; try simp only [List.set_cons_zero, List.set_cons_succ]
  refine wpAnyL_take (i := 15) (d := some 2) (v := ?vac115) rfl rfl (by kernel_rfl) (by kernel_rfl) (by kernel_rfl) (fun _ _ _ h => h) (by rfl) ?yac115 ?_
  case yac115 => (intro w' hw'; go_simp; try (with_reducible rfl))
  simp only [Act.put]; try simp only [List.setIfInBounds_toArray]; try simp only [List.set_cons_zero, List.set_cons_succ]
  refine wpAnyL_done (by kernel_rfl) ?_ _
  go_wp2
  go_ret
  exact ⟨ret_bool (by rw [HQ.out]; rfl), L12.out⟩
theorem came_any {s : SagaD} (h1 : 1 ≤ s.step) (h8 : s.step ≤ 8) : Calls Tryz.prog 94 #[s.val] w (Gives (.bool (cameF s)) w) := by
  cases hq : decide (s.hit = upH (s.step - 1)) with
  | true => exact came_yes h1 h8 hq
  | false => exact came_no h1 h8 hq
end
end Go.Proofs.YtdkiopajilakcaaGreat
/- What comes of a saga: its own memory, its next step, its way back. -/
namespace Go.Proofs.YtdkiopajilakcaaGreat
open Go.RowKit
section
variable {w : World}
theorem cells_one (l : List StepD) : ∀ u ∈ l.flatMap StepD.cells, u.oneCell' = true := by
  intro u hu
  obtain ⟨s, _, hs⟩ := List.mem_flatMap.1 hu
  simp only [StepD.cells, List.mem_cons, List.not_mem_nil, or_false] at hs
  rcases hs with rfl | rfl | rfl | rfl | rfl | rfl <;> rfl
/-- A call that says this saga, its steps in new memory. -/
def Owns (s : SagaD) (l : List StepD) (w : World) (e : Ending) (w' : World) : Prop := ∃ p n c, e = .returned (s.withV p n c).val ∧ StepsAt (w.heap.size ≤ ·) w' (.slice p n c) l ∧ Later w w'
set_option maxHeartbeats 4000000 in
theorem own_any {F : Nat → Prop} {s : SagaD} {l : List StepD} (h : StepsAt F w s.v l) (hl : l.length ≤ 1000000) : Calls Tryz.prog 66 #[s.val] w (Owns s l w) := by
  obtain ⟨W1, hW1⟩ : ∃ W1, W1 = (w.alloc (.cells s.cells.toArray 72 (0, 0))).alloc (.cells #[.string ⟨#[]⟩, .slice none 0 0, .int .i64 0, .int .i64 0, .int .i64 0, .bool false, .bool false, .bool false, .bool false, .bool false, .bool false, .bool false, .bool false] 72 (0, 0)) := ⟨_, rfl⟩
  obtain ⟨g, hg⟩ : ∃ g, g = w.heap.size := ⟨_, rfl⟩
  have X1 : Hid (SBox 72 g s W1) := by rw [hW1, hg]; exact (heap_alloc_old _ _ (by simp)).trans (heap_alloc_new _ _)
  have Y1 : Hid (SBox 72 (g + 1) SagaD.zero W1) := by rw [hW1, hg]; exact heap_second _ _ _
  have L1 : Hid (Later w W1) := by rw [hW1]; exact ((Below.refl _ _).alloc (Nat.le_refl _) _).alloc (by simp) _
  have HG0 : Hid (w.heap.size ≤ g) := Nat.le_of_eq hg.symm
  have C := hide (Sd.clone_steps F s.v l.length _ W1 (StepsAt.kept h (Kept.of_below L1.out _)) hl)
  have HW1 := hide hW1.symm
  have HG := hide hg.symm
  clear hW1 hg h hl
  have xe := X1.out
  rw [← HW1.out, ← HG.out] at xe
  have XE := hide xe
  clear xe
  have e1 := XE.out.c1
  go_enter Tryz.func66, Tryz.ntmps66
  unfold SagaD.v at C
  go_wp2_with (fail)
  simp only [HW1.out, HG.out]
  refine C.out.mono ?_
  rintro e w2 ⟨v, rfl, ho, hb⟩
  have hs : StepsAt (W1.heap.size ≤ ·) w2 v l := FlatAt.of_own ho (cells_one l)
  obtain ⟨A, c, rfl, _, _, _⟩ := FlatAt.shape hs
  have S2 : Hid (StepsAt (fun _ => True) w2 (.slice A l.length c) l) := FlatAt.mono hs (fun _ _ _ => trivial)
  have L2 := hide (L1.out.trans hb)
  have X2 := hide (X1.out.below hb)
  have Y2 := hide (Y1.out.below hb)
  have d1 := X2.out.c1
  have f1 := X2.out.thaw 1
  obtain ⟨n, hn⟩ : ∃ n, l.length = n := ⟨_, rfl⟩
  rw [hn] at S2 ⊢
  have X3 : Hid (SBox 72 g (s.withV A n c) (w2.setCell ⟨g, 1, none⟩ (.slice A n c))) := heap_setCell_same w2 g 1 _ _ _ X2.out
  have Y3 : Hid (SBox 72 (g + 1) SagaD.zero (w2.setCell ⟨g, 1, none⟩ (.slice A n c))) := (heap_setCell_other _ _ _ _ (by simp)).trans Y2.out
  have L3 : Hid (Later w (w2.setCell ⟨g, 1, none⟩ (.slice A n c))) := L2.out.setCell (p := ⟨g, 1, none⟩) HG0.out _
  have S3 : Hid (StepsAt (W1.heap.size ≤ ·) (w2.setCell ⟨g, 1, none⟩ (.slice A n c)) (.slice A n c) l) := by
    rw [hn] at hs
    exact StepsAt.kept hs ⟨by simp, fun i _ hf => heap_setCell_other _ _ _ _ (fun e => by have := X1.out.lt; simp at e; omega)⟩
  clear e1 ho hb hs C hn
  go_wp2_with (first | (refine wpList_load_saga (by rfl) _ (by rfl) (by rfl) X3.out ?_) | (refine wpList_store_saga (by rfl) _ _ (by rfl) (by rfl) Y3.out (by rfl) ?_; intro w4 Z4 G4))
  have S4 : Hid (StepsAt (w.heap.size ≤ ·) w4 (.slice A n c) l) := FlatAt.mono (StepsAt.kept S3.out (Kept.of_grown G4 (fun k hk hf => by have := Option.some.inj hk; have := Y1.out.lt; omega))) (fun i _ hf => Nat.le_trans (Below.size L1.out) hf)
  have HLF : Hid (Later w _) := L3.out.grown G4 (Below.size L3.out) (fun k hk => by have := Option.some.inj hk; have := HG0.out; omega)
  refine bodyPost_ret (results_cell_row Tryz.results66 _ _ (g + 1) 72 _ (0, 0) _ (by rfl) Z4 Tryz.underlying72 (by rfl) (by kernel_rfl)) (by rfl) ?_
  exact ⟨A, n, c, rfl, S4.out, HLF.out⟩
set_option maxHeartbeats 4000000 in
theorem next_end {s : SagaD} (hq : s.step = (s.n : Int)) : Calls Tryz.prog 75 #[s.val] w (Gives (s.ended 3 0).val w) := by
  obtain ⟨W1, hW1⟩ : ∃ W1, W1 = (w.alloc (.cells s.cells.toArray 72 (0, 0))).alloc (.cells #[.string ⟨#[]⟩, .slice none 0 0, .int .i64 0, .int .i64 0, .int .i64 0, .bool false, .bool false, .bool false, .bool false, .bool false, .bool false, .bool false, .bool false] 72 (0, 0)) := ⟨_, rfl⟩
  obtain ⟨g, hg⟩ : ∃ g, g = w.heap.size := ⟨_, rfl⟩
  have X1 : Hid (SBox 72 g s W1) := by rw [hW1, hg]; exact (heap_alloc_old _ _ (by simp)).trans (heap_alloc_new _ _)
  have Y1 : Hid (SBox 72 (g + 1) SagaD.zero W1) := by rw [hW1, hg]; exact heap_second _ _ _
  have L1 : Hid (Later w W1) := by rw [hW1]; exact ((Below.refl _ _).alloc (Nat.le_refl _) _).alloc (by simp) _
  have HG0 : Hid (w.heap.size ≤ g) := Nat.le_of_eq hg.symm
  have C := hide (fun W => ended_any (w := W) s 3 0)
  have HW1 := hide hW1.symm
  have HG := hide hg.symm
  clear hW1 hg 
  have xe := X1.out
  rw [← HW1.out, ← HG.out] at xe
  have XE := hide xe
  clear xe
  have e1 := XE.out.c1
  have e3 := XE.out.c3
  rw [hq] at e3
  clear hq
  go_enter Tryz.func75, Tryz.ntmps75
  go_wp2_with (refine wpList_load_saga (by rfl) _ (by rfl) (by rfl) XE.out ?_; simp only [HW1.out, HG.out])
  refine (C.out _).mono ?_
  rintro e w2 ⟨rfl, hl⟩
  have L2 := hide (L1.out.trans hl)
  have Y2 := hide (Y1.out.below hl)
  clear hl C e1 e3
  go_wp2_with (first | (refine wpList_load_saga (by rfl) _ (by rfl) (by rfl) X1.out ?_) | (refine wpList_store_saga (by rfl) _ _ (by rfl) (by rfl) Y2.out (by rfl) ?_; intro w3 Z3 G3))
  have HLF : Hid (Later w _) := L2.out.grown G3 (Below.size L2.out) (fun k hk => by have := Option.some.inj hk; have := HG0.out; omega)
  refine bodyPost_ret (results_cell_row Tryz.results75 _ _ (g + 1) 72 _ (0, 0) _ (by rfl) Z3 Tryz.underlying72 (by rfl) (by kernel_rfl)) (by rfl) ?_
  exact ⟨rfl, HLF.out⟩
set_option maxHeartbeats 4000000 in
theorem next_on {s : SagaD} (hq : s.step ≠ (s.n : Int)) (h1 : 0 ≤ s.step) (h8 : s.step ≤ 8) : Calls Tryz.prog 75 #[s.val] w (Gives (s.at_ 1 (s.step + 1)).val w) := by
  obtain ⟨W1, hW1⟩ : ∃ W1, W1 = (w.alloc (.cells s.cells.toArray 72 (0, 0))).alloc (.cells #[.string ⟨#[]⟩, .slice none 0 0, .int .i64 0, .int .i64 0, .int .i64 0, .bool false, .bool false, .bool false, .bool false, .bool false, .bool false, .bool false, .bool false] 72 (0, 0)) := ⟨_, rfl⟩
  obtain ⟨g, hg⟩ : ∃ g, g = w.heap.size := ⟨_, rfl⟩
  have X1 : Hid (SBox 72 g s W1) := by rw [hW1, hg]; exact (heap_alloc_old _ _ (by simp)).trans (heap_alloc_new _ _)
  have Y1 : Hid (SBox 72 (g + 1) SagaD.zero W1) := by rw [hW1, hg]; exact heap_second _ _ _
  have L1 : Hid (Later w W1) := by rw [hW1]; exact ((Below.refl _ _).alloc (Nat.le_refl _) _).alloc (by simp) _
  have HG0 : Hid (w.heap.size ≤ g) := Nat.le_of_eq hg.symm
  have C := hide (fun W => at_any (w := W) s 1 (s.step + 1))
  have c3 := X1.out.c3
  have HW1 := hide hW1.symm
  have HG := hide hg.symm
  clear hW1 hg 
  have xe := X1.out
  rw [← HW1.out, ← HG.out] at xe
  have XE := hide xe
  clear xe
  have e1 := XE.out.c1
  have e3 := XE.out.c3
  obtain ⟨k, hk⟩ : ∃ k, s.step = k := ⟨_, rfl⟩
  rw [hk] at c3 e3 C hq h1 h8 ⊢
  have hb : (k == (s.n : Int)) = false := by rw [beq_eq_false_iff_ne]; exact hq
  have hwr : IntKind.i64.wrap (k + 1) = k + 1 := wrap_fits (by omega)
  clear hq hk
  go_enter Tryz.func75, Tryz.ntmps75
  go_wp2_with (refine wpList_load_saga (by rfl) _ (by rfl) (by rfl) XE.out ?_; simp only [HW1.out, HG.out])
  refine (C.out _).mono ?_
  rintro e w2 ⟨rfl, hl⟩
  have L2 := hide (L1.out.trans hl)
  have Y2 := hide (Y1.out.below hl)
  clear hl C e1 e3
  go_wp2_with (first | (refine wpList_load_saga (by rfl) _ (by rfl) (by rfl) X1.out ?_) | (refine wpList_store_saga (by rfl) _ _ (by rfl) (by rfl) Y2.out (by rfl) ?_; intro w3 Z3 G3))
  have HLF : Hid (Later w _) := L2.out.grown G3 (Below.size L2.out) (fun k hk => by have := Option.some.inj hk; have := HG0.out; omega)
  refine bodyPost_ret (results_cell_row Tryz.results75 _ _ (g + 1) 72 _ (0, 0) _ (by rfl) Z3 Tryz.underlying72 (by rfl) (by kernel_rfl)) (by rfl) ?_
  exact ⟨rfl, HLF.out⟩
theorem next_any {s : SagaD} {l : List StepD} (hn : s.n = l.length) (h1 : 1 ≤ s.step) (h8 : s.step ≤ 8) : Calls Tryz.prog 75 #[s.val] w (Gives (nextS l s).val w) := by
  unfold nextS
  rw [← hn]
  by_cases hq : s.step = (s.n : Int)
  · rw [if_pos hq]; exact next_end hq
  · rw [if_neg hq]; exact next_on hq (by omega) h8
set_option maxHeartbeats 4000000 in
theorem downS_any {F : Nat → Prop} {s : SagaD} {l : List StepD} (h : StepsAt F w s.v l) (hl : l.length ≤ 1000) (h1 : I64 s.step) : Calls Tryz.prog 74 #[s.val] w (Gives (downS l s).val w) := by
  obtain ⟨W1, hW1⟩ : ∃ W1, W1 = (w.alloc (.cells s.cells.toArray 72 (0, 0))).alloc (.cells #[.string ⟨#[]⟩, .slice none 0 0, .int .i64 0, .int .i64 0, .int .i64 0, .bool false, .bool false, .bool false, .bool false, .bool false, .bool false, .bool false, .bool false] 72 (0, 0)) := ⟨_, rfl⟩
  obtain ⟨g, hg⟩ : ∃ g, g = w.heap.size := ⟨_, rfl⟩
  have X1 : Hid (SBox 72 g s W1) := by rw [hW1, hg]; exact (heap_alloc_old _ _ (by simp)).trans (heap_alloc_new _ _)
  have Y1 : Hid (SBox 72 (g + 1) SagaD.zero W1) := by rw [hW1, hg]; exact heap_second _ _ _
  have L1 : Hid (Later w W1) := by rw [hW1]; exact ((Below.refl _ _).alloc (Nat.le_refl _) _).alloc (by simp) _
  have HG0 : Hid (w.heap.size ≤ g) := Nat.le_of_eq hg.symm
  have C : Hid (∀ W, Later W1 W → Calls Tryz.prog 104 #[.agg #[.string s.name, .slice s.p s.n s.c], .slice (some ⟨g, 5, none⟩) 8 8, .int .i64 s.step] W fun e w' => e = .returned (.int .i64 ((downF l s.hit.l s.step : Nat) : Int)) ∧ Later W w') := fun W hW => Down_any (StepsAt.kept h (Kept.of_below (L1.out.trans hW) _)) hl (X1.out.below hW).bools h1
  have CA := hide (fun W k => at_any (w := W) s 2 k)
  have CE := hide (fun W => ended_any (w := W) s 4 0)
  obtain ⟨K, hK⟩ : ∃ K, downF l s.hit.l s.step = K := ⟨_, rfl⟩
  obtain ⟨R, hR⟩ : ∃ R, downS l s = R := ⟨_, rfl⟩
  have HD : Hid (R = if K = 0 then s.ended 4 0 else s.at_ 2 (K : Int)) := by show _ = _; rw [← hR, ← hK]; rfl
  rw [hK] at C
  rw [hR]
  have HW1 := hide hW1.symm
  have HG := hide hg.symm
  clear hW1 hg h hl hK h1 hR
  go_enter Tryz.func74, Tryz.ntmps74
  go_wp2_with (fail)
  simp only [HW1.out, HG.out]
  have XD := hide (show SBox 72 g s W1.drew from X1.out)
  have LD := hide (L1.out.trans (Later.drew W1))
  refine wp_region_L (by kernel_rfl) ?_
  refine wpAnyL_take (i := 0) (d := some 4) (v := ?vaa0) rfl rfl (by kernel_rfl) (by kernel_rfl) (by kernel_rfl) (fun _ _ _ h => h) (by rfl) ?yaa0 ?_
  case yaa0 => (intro w' hw'; go_simp; try (with_reducible rfl))
  simp only [Act.put]; try simp only [List.setIfInBounds_toArray]; try simp only [List.set_cons_zero, List.set_cons_succ]
  refine wpAnyL_take (i := 1) (d := some 5) (v := .agg #[.string s.name, .slice s.p s.n s.c]) rfl rfl (by kernel_rfl) (by kernel_rfl) (by kernel_rfl) (fun _ _ _ h => h) (by rfl) ?yaa1 ?_
  case yaa1 => (intro w' hw'; exact exec_load_sdef _ (by rfl) (by rfl) (XD.out.below hw'))
  simp only [Act.put]; try simp only [List.setIfInBounds_toArray]; try simp only [List.set_cons_zero, List.set_cons_succ]
  refine wpAnyL_take (i := 2) (d := some 6) (v := ?vaa2) rfl rfl (by kernel_rfl) (by kernel_rfl) (by kernel_rfl) (fun _ _ _ h => h) (by rfl) ?yaa2 ?_
  case yaa2 => (intro w' hw'; go_simp; try (with_reducible rfl))
  simp only [Act.put]; try simp only [List.setIfInBounds_toArray]; try simp only [List.set_cons_zero, List.set_cons_succ]
  refine wpAnyL_take (i := 3) (d := some 7) (v := .slice (some ⟨g, 5, none⟩) 8 8) rfl rfl (by kernel_rfl) (by kernel_rfl) (by kernel_rfl) (fun _ _ _ h => h) (by rfl) ?yaa3 ?_
  case yaa3 => (intro w' hw'; go_simp; try (with_reducible rfl))
  simp only [Act.put]; try simp only [List.setIfInBounds_toArray]; try simp only [List.set_cons_zero, List.set_cons_succ]
  refine wpAnyL_take (i := 4) (d := some 8) (v := ?vaa4) rfl rfl (by kernel_rfl) (by kernel_rfl) (by kernel_rfl) (fun _ _ _ h => h) (by rfl) ?yaa4 ?_
  case yaa4 => (intro w' hw'; go_simp; try (with_reducible rfl))
  simp only [Act.put]; try simp only [List.setIfInBounds_toArray]; try simp only [List.set_cons_zero, List.set_cons_succ]
  refine wpAnyL_take (i := 5) (d := some 9) (v := ?vaa5) rfl rfl (by kernel_rfl) (by kernel_rfl) (by kernel_rfl) (fun _ _ _ h => h) (by rfl) ?yaa5 ?_
  case yaa5 => (intro w' hw'; have c3 := (XD.out.below hw').c3; go_simp; try (with_reducible rfl))
  simp only [Act.put]; try simp only [List.setIfInBounds_toArray]; try simp only [List.set_cons_zero, List.set_cons_succ]
  refine wpAnyL_only (i := 6) rfl (by kernel_rfl) (by rfl) fun K hK => ?_
  go_simp
  refine (C.out _ (Later.drew W1)).mono ?_
  rintro e w_6 ⟨rfl, hl_⟩
  have L6 := hide (LD.out.trans hl_)
  have X6 := hide (XD.out.below hl_)
  have Y6 := hide (SBox.below (show SBox 72 (g + 1) SagaD.zero W1.drew from Y1.out) hl_)
  refine hK.out _ _ hl_ ?_
  clear hl_
  clear hK K
  try (simp only [Act.put]; try simp only [List.setIfInBounds_toArray]; try simp only [List.set_cons_zero, List.set_cons_succ])
  refine wpAnyL_take (i := 7) (d := some 3) (v := ?vaa7) rfl rfl (by kernel_rfl) (by kernel_rfl) (by kernel_rfl) (fun _ _ _ h => h) (by rfl) ?yaa7 ?_
  case yaa7 => (intro w' hw'; go_simp; try (with_reducible rfl))
  simp only [Act.put]; try simp only [List.setIfInBounds_toArray]; try simp only [List.set_cons_zero, List.set_cons_succ]
  refine wpAnyL_done (by kernel_rfl) ?_ _
  clear C
  by_cases hk : K = 0
  · subst hk
    obtain rfl : R = s.ended 4 0 := by rw [HD.out, if_pos rfl]
    clear HD
    go_wp2_with (refine wpList_load_saga (by rfl) _ (by rfl) (by rfl) X6.out ?_)
    refine (CE.out _).mono ?_
    rintro e w2 ⟨rfl, hl⟩
    have L2 := hide (L6.out.trans hl)
    have Y2 := hide (Y6.out.below hl)
    clear hl CE CA
    go_wp2_with (first | (refine wpList_load_saga (by rfl) _ (by rfl) (by rfl) X6.out ?_) | (refine wpList_store_saga (by rfl) _ _ (by rfl) (by rfl) Y2.out (by rfl) ?_; intro w3 Z3 G3))
    have HLF : Hid (Later w _) := L2.out.grown G3 (Below.size L2.out) (fun k hk => by have := Option.some.inj hk; have := HG0.out; omega)
    refine bodyPost_ret (results_cell_row Tryz.results74 _ _ (g + 1) 72 _ (0, 0) _ (by rfl) Z3 Tryz.underlying72 (by rfl) (by kernel_rfl)) (by rfl) ?_
    exact ⟨rfl, HLF.out⟩
  · obtain rfl : R = s.at_ 2 (K : Int) := by rw [HD.out, if_neg hk]
    have hk0 : 0 < (K : Int) := by omega
    clear HD
    go_wp2_with (refine wpList_load_saga (by rfl) _ (by rfl) (by rfl) X6.out ?_)
    refine (CA.out _ _).mono ?_
    rintro e w2 ⟨rfl, hl⟩
    have L2 := hide (L6.out.trans hl)
    have Y2 := hide (Y6.out.below hl)
    clear hl CE CA
    go_wp2_with (first | (refine wpList_load_saga (by rfl) _ (by rfl) (by rfl) X6.out ?_) | (refine wpList_store_saga (by rfl) _ _ (by rfl) (by rfl) Y2.out (by rfl) ?_; intro w3 Z3 G3))
    have HLF : Hid (Later w _) := L2.out.grown G3 (Below.size L2.out) (fun k hk => by have := Option.some.inj hk; have := HG0.out; omega)
    refine bodyPost_ret (results_cell_row Tryz.results74 _ _ (g + 1) 72 _ (0, 0) _ (by rfl) Z3 Tryz.underlying72 (by rfl) (by kernel_rfl)) (by rfl) ?_
    exact ⟨rfl, HLF.out⟩
set_option maxHeartbeats 4000000 in
theorem failsS_any {F : Nat → Prop} {s : SagaD} {l : List StepD} (h : StepsAt F w s.v l) (hl : l.length ≤ 1000) (h1 : I64 s.step) : Calls Tryz.prog 70 #[s.val] w (Gives (failsS l s).val w) := by
  obtain ⟨W1, hW1⟩ : ∃ W1, W1 = (w.alloc (.cells s.cells.toArray 72 (0, 0))).alloc (.cells #[.string ⟨#[]⟩, .slice none 0 0, .int .i64 0, .int .i64 0, .int .i64 0, .bool false, .bool false, .bool false, .bool false, .bool false, .bool false, .bool false, .bool false] 72 (0, 0)) := ⟨_, rfl⟩
  obtain ⟨g, hg⟩ : ∃ g, g = w.heap.size := ⟨_, rfl⟩
  have X1 : Hid (SBox 72 g s W1) := by rw [hW1, hg]; exact (heap_alloc_old _ _ (by simp)).trans (heap_alloc_new _ _)
  have Y1 : Hid (SBox 72 (g + 1) SagaD.zero W1) := by rw [hW1, hg]; exact heap_second _ _ _
  have L1 : Hid (Later w W1) := by rw [hW1]; exact ((Below.refl _ _).alloc (Nat.le_refl _) _).alloc (by simp) _
  have HG0 : Hid (w.heap.size ≤ g) := Nat.le_of_eq hg.symm
  have C : Hid (∀ W, Later W1 W → Calls Tryz.prog 67 #[s.val] W (Gives (.bool (sealedS l s)) W)) := fun W hW => sealedS_any (StepsAt.kept h (Kept.of_below (L1.out.trans hW) _)) hl
  have CD : Hid (∀ W, Later W1 W → Calls Tryz.prog 74 #[s.val] W (Gives (downS l s).val W)) := fun W hW => downS_any (StepsAt.kept h (Kept.of_below (L1.out.trans hW) _)) hl h1
  have CE := hide (fun W => ended_any (w := W) s 5 s.step)
  obtain ⟨q, hq⟩ : ∃ q, sealedS l s = q := ⟨_, rfl⟩
  obtain ⟨R, hR⟩ : ∃ R, failsS l s = R := ⟨_, rfl⟩
  have HD : Hid (R = if q then s.ended 5 s.step else downS l s) := by show _ = _; rw [← hR, ← hq]; rfl
  rw [hq] at C
  rw [hR]
  have HW1 := hide hW1.symm
  have HG := hide hg.symm
  clear hW1 hg h hl hq h1 hR
  have xe := X1.out
  rw [← HW1.out, ← HG.out] at xe
  have XE := hide xe
  clear xe
  go_enter Tryz.func70, Tryz.ntmps70
  go_wp2_with (refine wpList_load_saga (by rfl) _ (by rfl) (by rfl) XE.out ?_; simp only [HW1.out, HG.out])
  refine (C.out _ (Later.refl _)).mono ?_
  rintro e w2 ⟨rfl, hl⟩
  have L12 := hide hl
  have L2 := hide (L1.out.trans hl)
  have X2 := hide (X1.out.below hl)
  have Y2 := hide (Y1.out.below hl)
  clear hl C
  cases q with
  | true =>
    obtain rfl : R = s.ended 5 s.step := by rw [HD.out, if_pos rfl]
    clear HD
    have c3 := X2.out.c3
    go_wp2_with (refine wpList_load_saga (by rfl) _ (by rfl) (by rfl) X2.out ?_)
    refine (CE.out _).mono ?_
    rintro e w3 ⟨rfl, hl⟩
    have L3 := hide (L2.out.trans hl)
    have Y3 := hide (Y2.out.below hl)
    clear hl CE CD c3
    go_wp2_with (first | (refine wpList_load_saga (by rfl) _ (by rfl) (by rfl) X2.out ?_) | (refine wpList_store_saga (by rfl) _ _ (by rfl) (by rfl) Y3.out (by rfl) ?_; intro w4 Z4 G4))
    have HLF : Hid (Later w _) := L3.out.grown G4 (Below.size L3.out) (fun k hk => by have := Option.some.inj hk; have := HG0.out; omega)
    refine bodyPost_ret (results_cell_row Tryz.results70 _ _ (g + 1) 72 _ (0, 0) _ (by rfl) Z4 Tryz.underlying72 (by rfl) (by kernel_rfl)) (by rfl) ?_
    exact ⟨rfl, HLF.out⟩
  | false =>
    obtain rfl : R = downS l s := by rw [HD.out, if_neg (by simp)]
    clear HD
    go_wp2_with (refine wpList_load_saga (by rfl) _ (by rfl) (by rfl) X2.out ?_)
    refine (CD.out _ L12.out).mono ?_
    rintro e w3 ⟨rfl, hl⟩
    have L3 := hide (L2.out.trans hl)
    have Y3 := hide (Y2.out.below hl)
    clear hl CE CD
    go_wp2_with (first | (refine wpList_load_saga (by rfl) _ (by rfl) (by rfl) X2.out ?_) | (refine wpList_store_saga (by rfl) _ _ (by rfl) (by rfl) Y3.out (by rfl) ?_; intro w4 Z4 G4))
    have HLF : Hid (Later w _) := L3.out.grown G4 (Below.size L3.out) (fun k hk => by have := Option.some.inj hk; have := HG0.out; omega)
    refine bodyPost_ret (results_cell_row Tryz.results70 _ _ (g + 1) 72 _ (0, 0) _ (by rfl) Z4 Tryz.underlying72 (by rfl) (by kernel_rfl)) (by rfl) ?_
    exact ⟨rfl, HLF.out⟩
set_option maxHeartbeats 8000000 in
theorem missed_any {F : Nat → Prop} {s : SagaD} {l : List StepD} (h : StepsAt F w s.v l) (hl : l.length ≤ 1000) (hw : ∀ x ∈ l, x.wf) (h1 : I64 s.step) (h2 : 0 ≤ s.tr) (h3 : s.tr ≤ 900) : Calls Tryz.prog 73 #[s.val] w (Gives (missedS l s).val w) := by
  obtain ⟨W1, hW1⟩ : ∃ W1, W1 = (w.alloc (.cells s.cells.toArray 72 (0, 0))).alloc (.cells #[.string ⟨#[]⟩, .slice none 0 0, .int .i64 0, .int .i64 0, .int .i64 0, .bool false, .bool false, .bool false, .bool false, .bool false, .bool false, .bool false, .bool false] 72 (0, 0)) := ⟨_, rfl⟩
  obtain ⟨g, hg⟩ : ∃ g, g = w.heap.size := ⟨_, rfl⟩
  have X1 : Hid (SBox 72 g s W1) := by rw [hW1, hg]; exact (heap_alloc_old _ _ (by simp)).trans (heap_alloc_new _ _)
  have Y1 : Hid (SBox 72 (g + 1) SagaD.zero W1) := by rw [hW1, hg]; exact heap_second _ _ _
  have L1 : Hid (Later w W1) := by rw [hW1]; exact ((Below.refl _ _).alloc (Nat.le_refl _) _).alloc (by simp) _
  have HG0 : Hid (w.heap.size ≤ g) := Nat.le_of_eq hg.symm
  have C : Hid (∀ W, Later W1 W → Calls Tryz.prog 93 #[.agg #[.string s.name, .slice s.p s.n s.c], .int .i64 s.step] W fun e w' => e = .returned (.int .i64 (triesN l s.step)) ∧ Later W w') := fun W hW => Tries_any (StepsAt.kept h (Kept.of_below (L1.out.trans hW) _)) h1 hw
  have CF : Hid (∀ W, Later W1 W → Calls Tryz.prog 70 #[s.val] W (Gives (failsS l s).val W)) := fun W hW => failsS_any (StepsAt.kept h (Kept.of_below (L1.out.trans hW) _)) hl h1
  have CE := hide (fun W => ended_any (w := W) s 5 s.step)
  obtain ⟨T, hT⟩ : ∃ T, triesN l s.step = T := ⟨_, rfl⟩
  obtain ⟨R, hR⟩ : ∃ R, missedS l s = R := ⟨_, rfl⟩
  have HD : Hid (R = if s.tr < T then ⟨s.name, s.p, s.n, s.c, s.st, s.step, s.tr + 1, s.hit⟩ else if s.st = 2 then s.ended 5 s.step else failsS l s) := by show _ = _; rw [← hR, ← hT]; rfl
  rw [hT] at C
  rw [hR]
  have hwr : IntKind.i64.wrap (s.tr + 1) = s.tr + 1 := wrap_fits (by omega)
  have HW1 := hide hW1.symm
  have HG := hide hg.symm
  clear hW1 hg h hl hT h1 h2 h3 hw hR
  go_enter Tryz.func73, Tryz.ntmps73
  go_wp2_with (fail)
  simp only [HW1.out, HG.out]
  have XD := hide (show SBox 72 g s W1.drew from X1.out)
  have LD := hide (L1.out.trans (Later.drew W1))
  refine wp_region_L (by kernel_rfl) ?_
  refine wpAnyL_take (i := 0) (d := some 4) (v := ?vaa0) rfl rfl (by kernel_rfl) (by kernel_rfl) (by kernel_rfl) (fun _ _ _ h => h) (by rfl) ?yaa0 ?_
  case yaa0 => (intro w' hw'; go_simp; try (with_reducible rfl))
  simp only [Act.put]; try simp only [List.setIfInBounds_toArray]; try simp only [List.set_cons_zero, List.set_cons_succ]
  refine wpAnyL_take (i := 1) (d := some 5) (v := ?vaa1) rfl rfl (by kernel_rfl) (by kernel_rfl) (by kernel_rfl) (fun _ _ _ h => h) (by rfl) ?yaa1 ?_
  case yaa1 => (intro w' hw'; have c4 := (XD.out.below hw').c4; go_simp; try (with_reducible rfl))
  simp only [Act.put]; try simp only [List.setIfInBounds_toArray]; try simp only [List.set_cons_zero, List.set_cons_succ]
  refine wpAnyL_take (i := 2) (d := some 6) (v := ?vaa2) rfl rfl (by kernel_rfl) (by kernel_rfl) (by kernel_rfl) (fun _ _ _ h => h) (by rfl) ?yaa2 ?_
  case yaa2 => (intro w' hw'; go_simp; try (with_reducible rfl))
  simp only [Act.put]; try simp only [List.setIfInBounds_toArray]; try simp only [List.set_cons_zero, List.set_cons_succ]
  refine wpAnyL_take (i := 3) (d := some 7) (v := .agg #[.string s.name, .slice s.p s.n s.c]) rfl rfl (by kernel_rfl) (by kernel_rfl) (by kernel_rfl) (fun _ _ _ h => h) (by rfl) ?yaa3 ?_
  case yaa3 => (intro w' hw'; exact exec_load_sdef _ (by rfl) (by rfl) (XD.out.below hw'))
  simp only [Act.put]; try simp only [List.setIfInBounds_toArray]; try simp only [List.set_cons_zero, List.set_cons_succ]
  refine wpAnyL_take (i := 4) (d := some 8) (v := ?vaa4) rfl rfl (by kernel_rfl) (by kernel_rfl) (by kernel_rfl) (fun _ _ _ h => h) (by rfl) ?yaa4 ?_
  case yaa4 => (intro w' hw'; go_simp; try (with_reducible rfl))
  simp only [Act.put]; try simp only [List.setIfInBounds_toArray]; try simp only [List.set_cons_zero, List.set_cons_succ]
  refine wpAnyL_take (i := 5) (d := some 9) (v := ?vaa5) rfl rfl (by kernel_rfl) (by kernel_rfl) (by kernel_rfl) (fun _ _ _ h => h) (by rfl) ?yaa5 ?_
  case yaa5 => (intro w' hw'; have c3 := (XD.out.below hw').c3; go_simp; try (with_reducible rfl))
  simp only [Act.put]; try simp only [List.setIfInBounds_toArray]; try simp only [List.set_cons_zero, List.set_cons_succ]
  refine wpAnyL_only (i := 6) rfl (by kernel_rfl) (by rfl) fun K hK => ?_
  go_simp
  refine (C.out _ (Later.drew W1)).mono ?_
  rintro e w_6 ⟨rfl, hl_⟩
  have L16 := hide ((Later.drew W1).trans hl_)
  have L6 := hide (LD.out.trans hl_)
  have X6 := hide (XD.out.below hl_)
  have Y6 := hide (SBox.below (show SBox 72 (g + 1) SagaD.zero W1.drew from Y1.out) hl_)
  refine hK.out _ _ hl_ ?_
  clear hl_
  clear hK K
  try (simp only [Act.put]; try simp only [List.setIfInBounds_toArray]; try simp only [List.set_cons_zero, List.set_cons_succ])
  refine wpAnyL_take (i := 7) (d := some 11) (v := ?vaa7) rfl rfl (by kernel_rfl) (by kernel_rfl) (by kernel_rfl) (fun _ _ _ h => h) (by rfl) ?yaa7 ?_
  case yaa7 => (intro w' hw'; go_simp; try (with_reducible rfl))
  simp only [Act.put]; try simp only [List.setIfInBounds_toArray]; try simp only [List.set_cons_zero, List.set_cons_succ]
  refine wpAnyL_take (i := 8) (d := some 3) (v := ?vaa8) rfl rfl (by kernel_rfl) (by kernel_rfl) (by kernel_rfl) (fun _ _ _ h => h) (by rfl) ?yaa8 ?_
  case yaa8 => (intro w' hw'; go_simp; try (with_reducible rfl))
  simp only [Act.put]; try simp only [List.setIfInBounds_toArray]; try simp only [List.set_cons_zero, List.set_cons_succ]
  refine wpAnyL_done (by kernel_rfl) ?_ _
  clear C
  by_cases hk : s.tr < T
  · obtain rfl : R = ⟨s.name, s.p, s.n, s.c, s.st, s.step, s.tr + 1, s.hit⟩ := by rw [HD.out, if_pos hk]
    clear HD
    have c4 := X6.out.c4
    have f4 := X6.out.thaw 4
    have X7 : Hid (SBox 72 g ⟨s.name, s.p, s.n, s.c, s.st, s.step, s.tr + 1, s.hit⟩ (w_6.setCell ⟨g, 4, none⟩ (.int .i64 (s.tr + 1)))) := heap_setCell_same w_6 g 4 _ _ _ X6.out
    have Y7 : Hid (SBox 72 (g + 1) SagaD.zero (w_6.setCell ⟨g, 4, none⟩ (.int .i64 (s.tr + 1)))) := (heap_setCell_other _ _ _ _ (by simp)).trans Y6.out
    have L7 : Hid (Later w (w_6.setCell ⟨g, 4, none⟩ (.int .i64 (s.tr + 1)))) := L6.out.setCell (p := ⟨g, 4, none⟩) HG0.out _
    go_wp2_with (first | (refine wpList_load_saga (by rfl) _ (by rfl) (by rfl) X7.out ?_) | (refine wpList_store_saga (by rfl) _ _ (by rfl) (by rfl) Y7.out (by rfl) ?_; intro w8 Z8 G8))
    have HLF : Hid (Later w _) := L7.out.grown G8 (Below.size L7.out) (fun k hk => by have := Option.some.inj hk; have := HG0.out; omega)
    refine bodyPost_ret (results_cell_row Tryz.results73 _ _ (g + 1) 72 _ (0, 0) _ (by rfl) Z8 Tryz.underlying72 (by rfl) (by kernel_rfl)) (by rfl) ?_
    exact ⟨rfl, HLF.out⟩
  · have c2 := X6.out.c2
    by_cases h2 : s.st = 2
    · obtain rfl : R = s.ended 5 s.step := by rw [HD.out, if_neg hk, if_pos h2]
      clear HD
      rw [h2] at c2
      have c3 := X6.out.c3
      clear h2
      go_wp2_with (refine wpList_load_saga (by rfl) _ (by rfl) (by rfl) X6.out ?_)
      refine (CE.out _).mono ?_
      rintro e w2 ⟨rfl, hl⟩
      have L2 := hide (L6.out.trans hl)
      have Y2 := hide (Y6.out.below hl)
      clear hl CE CF c2 c3
      go_wp2_with (first | (refine wpList_load_saga (by rfl) _ (by rfl) (by rfl) X6.out ?_) | (refine wpList_store_saga (by rfl) _ _ (by rfl) (by rfl) Y2.out (by rfl) ?_; intro w3 Z3 G3))
      have HLF : Hid (Later w _) := L2.out.grown G3 (Below.size L2.out) (fun k hk => by have := Option.some.inj hk; have := HG0.out; omega)
      refine bodyPost_ret (results_cell_row Tryz.results73 _ _ (g + 1) 72 _ (0, 0) _ (by rfl) Z3 Tryz.underlying72 (by rfl) (by kernel_rfl)) (by rfl) ?_
      exact ⟨rfl, HLF.out⟩
    · obtain rfl : R = failsS l s := by rw [HD.out, if_neg hk, if_neg h2]
      clear HD
      have hb : (s.st == (2 : Int)) = false := by rw [beq_eq_false_iff_ne]; exact h2
      go_wp2_with (refine wpList_load_saga (by rfl) _ (by rfl) (by rfl) X6.out ?_)
      refine (CF.out _ L16.out).mono ?_
      rintro e w2 ⟨rfl, hl⟩
      have L2 := hide (L6.out.trans hl)
      have Y2 := hide (Y6.out.below hl)
      clear hl CE CF c2
      go_wp2_with (first | (refine wpList_load_saga (by rfl) _ (by rfl) (by rfl) X6.out ?_) | (refine wpList_store_saga (by rfl) _ _ (by rfl) (by rfl) Y2.out (by rfl) ?_; intro w3 Z3 G3))
      have HLF : Hid (Later w _) := L2.out.grown G3 (Below.size L2.out) (fun k hk => by have := Option.some.inj hk; have := HG0.out; omega)
      refine bodyPost_ret (results_cell_row Tryz.results73 _ _ (g + 1) 72 _ (0, 0) _ (by rfl) Z3 Tryz.underlying72 (by rfl) (by kernel_rfl)) (by rfl) ?_
      exact ⟨rfl, HLF.out⟩
end
end Go.Proofs.YtdkiopajilakcaaGreat
/- Worlds of which all but some blocks are as they were. -/
namespace Go.Proofs.YtdkiopajilakcaaGreat
open Go.RowKit

/-- From w to w' no block has turned of which S does not hold. -/
structure Turned (S : Nat → Prop) (w w' : World) : Prop where
  os : w'.os = w.os
  tape : w'.tape = w.tape
  output : w'.output = w.output
  size : w.heap.size ≤ w'.heap.size
  block : ∀ i, i < w.heap.size → ¬ S i → w'.heap[i]? = w.heap[i]?
section
variable {S : Nat → Prop} {a b c : World}
theorem Turned.refl (S : Nat → Prop) (w : World) : Turned S w w := ⟨rfl, rfl, rfl, Nat.le_refl _, fun _ _ _ => rfl⟩
theorem Turned.trans (h : Turned S a b) (k : Turned S b c) : Turned S a c :=
  ⟨k.os.trans h.os, k.tape.trans h.tape, k.output.trans h.output, Nat.le_trans h.size k.size, fun i hi hs => (k.block i (Nat.lt_of_lt_of_le hi h.size) hs).trans (h.block i hi hs)⟩
theorem Turned.of_below (h : Below a.heap.size a b) (S : Nat → Prop) : Turned S a b := ⟨h.os, h.tape, h.output, h.size, fun i hi _ => h.block i hi⟩
theorem Turned.of_grown {r : Option Nat} (h : a.grownBy b r) (hr : ∀ g, r = some g → S g) : Turned S a b :=
  ⟨h.os, h.tape, h.output, h.size, fun i hi hs => h.block i hi (fun e => hs (hr i e.symm))⟩
/-- What lies in new blocks may turn. -/
theorem Turned.onto {T : Nat → Prop} (h : Turned S a b) (k : Turned T b c) (ht : ∀ i, T i → S i ∨ a.heap.size ≤ i) : Turned S a c :=
  ⟨k.os.trans h.os, k.tape.trans h.tape, k.output.trans h.output, Nat.le_trans h.size k.size, fun i hi hs => (k.block i (Nat.lt_of_lt_of_le hi h.size) (fun e => (ht i e).elim hs (by omega))).trans (h.block i hi hs)⟩
theorem Turned.kept (h : Turned S a b) {F : Nat → Prop} (hf : ∀ i, F i → ¬ S i) : Kept F a b := ⟨h.size, fun i hi hF => h.block i hi (hf i hF)⟩
theorem Turned.mono {T : Nat → Prop} (h : Turned S a b) (ht : ∀ i, S i → T i) : Turned T a b := ⟨h.os, h.tape, h.output, h.size, fun i hi hs => h.block i hi (fun e => hs (ht i e))⟩
theorem Turned.below {B : Nat} (h : Turned S a b) (hs : ∀ i, S i → B ≤ i) (hB : B ≤ a.heap.size) : Below B a b :=
  ⟨h.os, h.tape, h.output, h.size, fun i hi => h.block i (Nat.lt_of_lt_of_le hi hB) (fun e => by have := hs i e; omega)⟩
theorem Turned.drewN (S : Nat → Prop) (w : World) (n : Nat) : Turned S w (w.drewN n) := ⟨rfl, rfl, rfl, Nat.le_refl _, fun _ _ _ => rfl⟩
theorem Turned.of_drew (h : Turned S a.drew b) : Turned S a b := ⟨h.os, h.tape, h.output, h.size, h.block⟩
end
end Go.Proofs.YtdkiopajilakcaaGreat
/- A book in memory; made, at, own, Saga, Status of package book. -/
namespace Go.Proofs.YtdkiopajilakcaaGreat
open Go.RowKit Go.Maps

theorem put_mapE {V : Ent → Value} (x : Ent) : ∀ (L : List Ent), RiseE L → (mapD (L.map fun y => (y.id, V y))).put (.int .i64 x.id) (.held (V x)) = mapD ((putE x L).map fun y => (y.id, V y)) := by
  have key : ∀ (L : List Ent), RiseE L → DataW.insert ((.int .i64 x.id, .held (V x)) : Lit × DataW Value) (((L.map fun y => (y.id, V y)).map fun p : Int × Value => ((.int .i64 p.1, .held p.2) : Lit × DataW Value)).filter fun p => !p.1.sameKey (.int .i64 x.id)) = ((putE x L).map fun y => (y.id, V y)).map fun p : Int × Value => ((.int .i64 p.1, .held p.2) : Lit × DataW Value) := by
    intro L
    induction L with
    | nil => intro _; rfl
    | cons z r ih =>
      intro h
      obtain ⟨h1, h2⟩ := List.pairwise_cons.1 h
      have ih := ih h2
      unfold putE
      by_cases a : z.id < x.id
      · rw [if_pos a]
        simp only [List.map_cons]
        rw [List.filter_cons_of_pos (by simp [Lit.sameKey]; omega)]
        unfold DataW.insert
        rw [if_neg (by simp [Lit.before]; omega), ih]
      · rw [if_neg a]
        have hr : (((r.map fun y => (y.id, V y)).map fun p : Int × Value => ((.int .i64 p.1, .held p.2) : Lit × DataW Value)).filter fun p => !p.1.sameKey (.int .i64 x.id)) = (r.map fun y => (y.id, V y)).map fun p : Int × Value => ((.int .i64 p.1, .held p.2) : Lit × DataW Value) := by
          rw [List.filter_eq_self]
          intro p hp
          obtain ⟨q, hq, rfl⟩ := List.mem_map.1 hp
          obtain ⟨y, hy, rfl⟩ := List.mem_map.1 hq
          have := h1 y hy
          simp [Lit.sameKey]
          omega
        have hi : ∀ M : List (Lit × DataW Value), (∀ p ∈ M, ∃ (a : Int) (v : DataW Value), p = (.int .i64 a, v) ∧ x.id < a) → DataW.insert ((.int .i64 x.id, .held (V x)) : Lit × DataW Value) M = (.int .i64 x.id, .held (V x)) :: M := by
          intro M hM
          cases M with
          | nil => rfl
          | cons q M =>
            obtain ⟨a, v, rfl, ha⟩ := hM q (by simp)
            unfold DataW.insert
            rw [if_pos (by simp [Lit.before]; omega)]
        have hall : ∀ p ∈ (r.map fun y => (y.id, V y)).map fun p : Int × Value => ((.int .i64 p.1, .held p.2) : Lit × DataW Value), ∃ (a : Int) (v : DataW Value), p = (.int .i64 a, v) ∧ z.id < a := by
          intro p hp
          obtain ⟨q, hq, rfl⟩ := List.mem_map.1 hp
          obtain ⟨y, hy, rfl⟩ := List.mem_map.1 hq
          exact ⟨_, _, rfl, h1 y hy⟩
        by_cases b : z.id = x.id
        · rw [if_pos b]
          simp only [List.map_cons]
          rw [List.filter_cons_of_neg (by simp [Lit.sameKey, b]), hr, hi _ (fun p hp => by obtain ⟨a, v, e, ha⟩ := hall p hp; exact ⟨a, v, e, by omega⟩)]
        · rw [if_neg b]
          simp only [List.map_cons]
          rw [List.filter_cons_of_pos (by simp [Lit.sameKey]; omega), hr, hi]
          intro p hp
          rcases List.mem_cons.1 hp with rfl | hp
          · exact ⟨_, _, rfl, by omega⟩
          · obtain ⟨a, v, e, ha⟩ := hall p hp
            exact ⟨a, v, e, by omega⟩
  intro L hL
  unfold mapD
  show DataW.map _ = _
  rw [key L hL]

/-- Where a saga's steps lie. -/
structure Loc where
  p : Option Addr
  n : Nat
  c : Nat
abbrev Loc.v (x : Loc) : Value := .slice x.p x.n x.c
def Ent.sd (f : Int → Loc) (x : Ent) : SagaD := x.s.withV (f x.id).p (f x.id).n (f x.id).c
abbrev Ent.val (f : Int → Loc) (x : Ent) : Value := (x.sd f).val
def pairE (f : Int → Loc) (x : Ent) : Int × Value := (x.id, x.val f)
def EntOk (x : Ent) : Prop := (∀ a ∈ x.l, a.wf) ∧ x.l.length ≤ 8 ∧ (0 ≤ x.s.step ∧ x.s.step ≤ 9) ∧ 1 ≤ x.id
def BkOk (t : BkS) : Prop := RiseE t.L ∧ (∀ x ∈ t.L, EntOk x ∧ x.id ≤ 4611686018427387904) ∧ 0 ≤ t.last ∧ t.last ≤ 4611686018427387904
theorem found_ent (f : Int → Loc) (L : List Ent) (z : Value) (id : Int) : foundIn (L.map (pairE f)) z id = match entAt L id with | some x => (x.val f, true) | none => (z, false) := by
  unfold foundIn entAt
  rw [List.find?_map]
  show (match (L.find? (fun x => x.id == id)).map (pairE f) with | some p => (p.2, true) | none => (z, false)) = _
  cases L.find? (fun x => x.id == id) <;> rfl

/-- The blocks g and b hold a book. -/
structure BookAt (F : Nat → Prop) (w : World) (g b k : Nat) (most : Int) (t : BkS) : Prop where
  cell : w.heap[g]? = some (.cells #[.int .i64 most, .int .i64 t.last, .map (some b)] 90 (0, 0))
  body : ∃ f : Int → Loc, w.ownsMap Tryz.prog 3 heldR b k (mapD (t.L.map (pairE f))) ∧ ∀ x ∈ t.L, StepsAt F w (f x.id).v x.l
  ok : BkOk t
  apart : g ≠ b ∧ ¬ F g ∧ ¬ F b
section
variable {F G : Nat → Prop} {w w' : World} {g b k : Nat} {most : Int} {t : BkS}
theorem BookAt.kept (h : BookAt F w g b k most t) (hk : Kept (fun i => i = g ∨ i = b ∨ F i) w w') : BookAt F w' g b k most t := by
  obtain ⟨f, ⟨es, clock, hb, rest⟩, hs⟩ := h.body
  exact ⟨(hk.2 g (lt_of_block h.cell) (.inl rfl)).trans h.cell, ⟨f, ⟨es, clock, (hk.2 b (lt_of_block hb) (.inr (.inl rfl))).trans hb, rest⟩, fun x hx => (hs x hx).kept (hk.mono fun i _ hi => .inr (.inr hi))⟩, h.ok, h.apart⟩
theorem BookAt.later (h : BookAt F w g b k most t) (hl : Later w w') : BookAt F w' g b k most t := h.kept (Kept.of_below hl _)
theorem BookAt.mono (h : BookAt F w g b k most t) (hg : ∀ i, i < w.heap.size → F i → G i) (h1 : ¬ G g) (h2 : ¬ G b) : BookAt G w g b k most t := by
  obtain ⟨f, hm, hs⟩ := h.body
  exact ⟨h.cell, ⟨f, hm, fun x hx => (hs x hx).mono hg⟩, h.ok, h.apart.1, h1, h2⟩
theorem BookAt.lt (h : BookAt F w g b k most t) : g < w.heap.size ∧ b < w.heap.size := by
  obtain ⟨f, hm, hs⟩ := h.body
  exact ⟨lt_of_block h.cell, hm.lt⟩
theorem BookAt.c0 (h : BookAt F w g b k most t) : w.cell? ⟨g, 0, none⟩ = some (.int .i64 most) := cell_of_row w g 0 _ _ _ h.cell
theorem BookAt.c1 (h : BookAt F w g b k most t) : w.cell? ⟨g, 1, none⟩ = some (.int .i64 t.last) := cell_of_row w g 1 _ _ _ h.cell
theorem BookAt.c2 (h : BookAt F w g b k most t) : w.cell? ⟨g, 2, none⟩ = some (.map (some b)) := cell_of_row w g 2 _ _ _ h.cell
theorem BookAt.thaw (h : BookAt F w g b k most t) (i : Nat) : w.frozen? ⟨g, i, none⟩ = false := frozen_of_row w g i _ _ h.cell
/-- Other objects turned. -/
theorem BookAt.turned {Q : Nat → Prop} (h : BookAt F w g b k most t) (ht : Turned Q w w') (h1 : ¬ Q g) (h2 : ¬ Q b) (h3 : ∀ i, F i → ¬ Q i) : BookAt F w' g b k most t :=
  h.kept (ht.kept fun i hi => hi.elim (fun e => e ▸ h1) fun hi => hi.elim (fun e => e ▸ h2) (h3 i))
end
theorem Tryz.int_law : Keyed Tryz.prog 3 := int_keyed Tryz.underlying3
theorem int_key {a : Int} (h : I64 a) : keyOf Tryz.prog 3 (.int .i64 a) = some (.int .i64 a) := keyOf_int_mk Tryz.underlying3 (WalkArith.wf_i64 (by obtain ⟨h1, h2⟩ := h; omega))

section
variable {F : Nat → Prop} {w : World} {g b k : Nat} {most : Int} {t : BkS}
set_option maxHeartbeats 400000 in
theorem made_yes (h : BookAt F w g b k most t) : Calls Tryz.prog 33 #[.pointer (some ⟨g, 0, none⟩)] w fun e w' => e = .returned (.bool true) ∧ w = w' := by
  have hq := fun w r => run_neq_map_nil (P := Tryz.prog) w 88 _ _ r Tryz.underlying88
  have c2 := h.c2
  clear h
  go_enter Tryz.func33, Tryz.ntmps33
  go_wp2
  go_ret
  exact ⟨rfl, rfl⟩
/-- What a look-up says of a saga that is there. -/
def AtE (F : Nat → Prop) (x : Ent) (w : World) (e : Ending) (w' : World) : Prop := ∃ p n c, e = .returned (.tuple #[(x.s.withV p n c).val, .bool true]) ∧ StepsAt F w' (.slice p n c) x.l ∧ Later w w'
def NoE (w : World) (e : Ending) (w' : World) : Prop := e = .returned (.tuple #[SagaD.zero.val, .bool false]) ∧ Later w w'
set_option maxHeartbeats 4000000 in
set_option maxRecDepth 100000 in
theorem at_some (h : BookAt F w g b k most t) {x : Ent} {id : Int} (hid : I64 id) (hx : entAt t.L id = some x) : Calls Tryz.prog 59 #[.pointer (some ⟨g, 0, none⟩), .int .i64 id] w (AtE F x w) := by
  obtain ⟨W1, hW1⟩ : ∃ W1, W1 = w.alloc (.cells #[.string ⟨#[]⟩, .slice none 0 0, .int .i64 0, .int .i64 0, .int .i64 0, .bool false, .bool false, .bool false, .bool false, .bool false, .bool false, .bool false, .bool false] 72 (0, 0)) := ⟨_, rfl⟩
  obtain ⟨y, hy⟩ : ∃ y, y = w.heap.size := ⟨_, rfl⟩
  have Y1 : Hid (SBox 72 y SagaD.zero W1) := by rw [hW1, hy]; exact heap_alloc_new _ _
  have L1 : Hid (Later w W1) := by rw [hW1]; exact (Below.refl _ _).alloc (Nat.le_refl _) _
  have HY : Hid (w.heap.size ≤ y) := Nat.le_of_eq hy.symm
  have H1 := h.later L1.out
  obtain ⟨f, hm0, hs⟩ := h.body
  have hm : W1.ownsMap Tryz.prog 3 heldR b k (mapD (t.L.map (pairE f))) := by rw [hW1]; exact hm0.alloc _
  have HM := hide hm
  clear hm0
  have c2 := H1.c2
  have C := hide (made_yes H1)
  have HI := hide (int_key hid)
  have T1 : Hid (SBox 72 W1.heap.size SagaD.zero (W1.alloc (.cells #[.string ⟨#[]⟩, .slice none 0 0, .int .i64 0, .int .i64 0, .int .i64 0, .bool false, .bool false, .bool false, .bool false, .bool false, .bool false, .bool false, .bool false] 72 (0, 0)))) := heap_alloc_new _ _
  have Y2 : Hid (SBox 72 y SagaD.zero (W1.alloc (.cells #[.string ⟨#[]⟩, .slice none 0 0, .int .i64 0, .int .i64 0, .int .i64 0, .bool false, .bool false, .bool false, .bool false, .bool false, .bool false, .bool false, .bool false] 72 (0, 0)))) := Y1.out.below ((Below.refl _ _).alloc (Nat.le_refl _) _)
  have HLT := hide (SBox.lt Y1.out)
  have HR : Hid (foundIn (t.L.map (pairE f)) SagaD.zero.val id = ((x.sd f).val, true)) := by
    show _ = _
    rw [found_ent, hx]
  have HS : Hid (StepsAt F w (f x.id).v x.l) := hs x (entAt_mem hx).1
  clear hs hx
  have HW1 := hide hW1.symm
  have HG := hide hy.symm
  clear h hid hW1 hy hm H1
  go_enter Tryz.func59, Tryz.ntmps59
  go_wp2_with (fail)
  simp only [HW1.out, HG.out]
  refine C.out.mono ?_
  rintro e w2 ⟨rfl, hq⟩
  obtain rfl := hq.symm
  go_wp2_with (first
    | (at_lookup; refine wpList_lookup_held rfl _ _ 88 rfl 3 72 Tryz.int_law Tryz.underlying88 SagaD.zero.val (by kernel_rfl) b k _ rfl HM.out id rfl HI.out _ true HR.out ?_)
    | (refine wpList_store_saga (s := x.sd f) (by rfl) _ _ (by rfl) (by rfl) T1.out (by rfl) ?_; intro w3 X3 G3)
    | (refine wpList_load_saga (by rfl) _ (by rfl) (by rfl) X3 ?_)
    | (refine wpList_store_saga (by rfl) _ _ (by rfl) (by rfl) (Y2.out.other G3 (fun e => by have := Option.some.inj e; have := HLT.out; omega)) (by rfl) ?_; intro w4 Z4 G4))
  have L3 : Hid (Later w w3) := (L1.out.alloc (Below.size L1.out) _).grown G3 (Nat.le_trans (Below.size L1.out) (by simp)) (fun k hk => by have := Option.some.inj hk; have := Below.size L1.out; omega)
  have HLF : Hid (Later w w4) := L3.out.grown G4 (Below.size L3.out) (fun k hk => by have := Option.some.inj hk; have := HY.out; omega)
  refine bodyPost_ret (results_box2 Tryz.results59 _ _ y 72 _ _ (by rfl) Z4 Tryz.underlying72 (by rfl) (by kernel_rfl) (.bool true) (by rfl)) (by rfl) ?_
  exact ⟨_, _, _, rfl, StepsAt.kept HS.out (Kept.of_below HLF.out F), HLF.out⟩
set_option maxHeartbeats 4000000 in
set_option maxRecDepth 100000 in
theorem at_none (h : BookAt F w g b k most t) {id : Int} (hid : I64 id) (hx : entAt t.L id = none) : Calls Tryz.prog 59 #[.pointer (some ⟨g, 0, none⟩), .int .i64 id] w (NoE w) := by
  obtain ⟨W1, hW1⟩ : ∃ W1, W1 = w.alloc (.cells #[.string ⟨#[]⟩, .slice none 0 0, .int .i64 0, .int .i64 0, .int .i64 0, .bool false, .bool false, .bool false, .bool false, .bool false, .bool false, .bool false, .bool false] 72 (0, 0)) := ⟨_, rfl⟩
  obtain ⟨y, hy⟩ : ∃ y, y = w.heap.size := ⟨_, rfl⟩
  have Y1 : Hid (SBox 72 y SagaD.zero W1) := by rw [hW1, hy]; exact heap_alloc_new _ _
  have L1 : Hid (Later w W1) := by rw [hW1]; exact (Below.refl _ _).alloc (Nat.le_refl _) _
  have HY : Hid (w.heap.size ≤ y) := Nat.le_of_eq hy.symm
  have H1 := h.later L1.out
  obtain ⟨f, hm, hs⟩ := H1.body
  have HM := hide hm
  have c2 := H1.c2
  have C := hide (made_yes H1)
  have HI := hide (int_key hid)
  have T1 : Hid (SBox 72 W1.heap.size SagaD.zero (W1.alloc (.cells #[.string ⟨#[]⟩, .slice none 0 0, .int .i64 0, .int .i64 0, .int .i64 0, .bool false, .bool false, .bool false, .bool false, .bool false, .bool false, .bool false, .bool false] 72 (0, 0)))) := heap_alloc_new _ _
  have Y2 : Hid (SBox 72 y SagaD.zero (W1.alloc (.cells #[.string ⟨#[]⟩, .slice none 0 0, .int .i64 0, .int .i64 0, .int .i64 0, .bool false, .bool false, .bool false, .bool false, .bool false, .bool false, .bool false, .bool false] 72 (0, 0)))) := Y1.out.below ((Below.refl _ _).alloc (Nat.le_refl _) _)
  have HLT := hide (SBox.lt Y1.out)
  have HR : Hid (foundIn (t.L.map (pairE f)) SagaD.zero.val id = (SagaD.zero.val, false)) := by
    show _ = _
    rw [found_ent, hx]
  clear hs hx
  have HW1 := hide hW1.symm
  have HG := hide hy.symm
  clear h hid hW1 hy hm H1
  go_enter Tryz.func59, Tryz.ntmps59
  go_wp2_with (fail)
  simp only [HW1.out, HG.out]
  refine C.out.mono ?_
  rintro e w2 ⟨rfl, hq⟩
  obtain rfl := hq.symm
  go_wp2_with (first
    | (at_lookup; refine wpList_lookup_held rfl _ _ 88 rfl 3 72 Tryz.int_law Tryz.underlying88 SagaD.zero.val (by kernel_rfl) b k _ rfl HM.out id rfl HI.out _ false HR.out ?_)
    | (refine wpList_store_saga (s := SagaD.zero) (by rfl) _ _ (by rfl) (by rfl) T1.out (by rfl) ?_; intro w3 X3 G3)
    | (refine wpList_load_saga (by rfl) _ (by rfl) (by rfl) X3 ?_)
    | (refine wpList_store_saga (by rfl) _ _ (by rfl) (by rfl) (Y2.out.other G3 (fun e => by have := Option.some.inj e; have := HLT.out; omega)) (by rfl) ?_; intro w4 Z4 G4))
  have L3 : Hid (Later w w3) := (L1.out.alloc (Below.size L1.out) _).grown G3 (Nat.le_trans (Below.size L1.out) (by simp)) (fun k hk => by have := Option.some.inj hk; have := Below.size L1.out; omega)
  have HLF : Hid (Later w w4) := L3.out.grown G4 (Below.size L3.out) (fun k hk => by have := Option.some.inj hk; have := HY.out; omega)
  refine bodyPost_ret (results_box2 Tryz.results59 _ _ y 72 _ _ (by rfl) Z4 Tryz.underlying72 (by rfl) (by kernel_rfl) (.bool false) (by rfl)) (by rfl) ?_
  exact ⟨rfl, HLF.out⟩
set_option maxHeartbeats 4000000 in
theorem bown_any {F : Nat → Prop} {s : SagaD} {l : List StepD} (h : StepsAt F w s.v l) (hl : l.length ≤ 1000000) : Calls Tryz.prog 60 #[s.val] w (Owns s l w) := by
  obtain ⟨W1, hW1⟩ : ∃ W1, W1 = (w.alloc (.cells s.cells.toArray 72 (0, 0))).alloc (.cells #[.string ⟨#[]⟩, .slice none 0 0, .int .i64 0, .int .i64 0, .int .i64 0, .bool false, .bool false, .bool false, .bool false, .bool false, .bool false, .bool false, .bool false] 72 (0, 0)) := ⟨_, rfl⟩
  obtain ⟨g, hg⟩ : ∃ g, g = w.heap.size := ⟨_, rfl⟩
  have X1 : Hid (SBox 72 g s W1) := by rw [hW1, hg]; exact (heap_alloc_old _ _ (by simp)).trans (heap_alloc_new _ _)
  have Y1 : Hid (SBox 72 (g + 1) SagaD.zero W1) := by rw [hW1, hg]; exact heap_second _ _ _
  have L1 : Hid (Later w W1) := by rw [hW1]; exact ((Below.refl _ _).alloc (Nat.le_refl _) _).alloc (by simp) _
  have HG0 : Hid (w.heap.size ≤ g) := Nat.le_of_eq hg.symm
  have C := hide (Sd.clone_steps F s.v l.length _ W1 (StepsAt.kept h (Kept.of_below L1.out _)) hl)
  have HW1 := hide hW1.symm
  have HG := hide hg.symm
  clear hW1 hg h hl
  have xe := X1.out
  rw [← HW1.out, ← HG.out] at xe
  have XE := hide xe
  clear xe
  have e1 := XE.out.c1
  go_enter Tryz.func60, Tryz.ntmps60
  unfold SagaD.v at C
  go_wp2_with (fail)
  simp only [HW1.out, HG.out]
  refine C.out.mono ?_
  rintro e w2 ⟨v, rfl, ho, hb⟩
  have hs : StepsAt (W1.heap.size ≤ ·) w2 v l := FlatAt.of_own ho (cells_one l)
  obtain ⟨A, c, rfl, _, _, _⟩ := FlatAt.shape hs
  have S2 : Hid (StepsAt (fun _ => True) w2 (.slice A l.length c) l) := FlatAt.mono hs (fun _ _ _ => trivial)
  have L2 := hide (L1.out.trans hb)
  have X2 := hide (X1.out.below hb)
  have Y2 := hide (Y1.out.below hb)
  have d1 := X2.out.c1
  have f1 := X2.out.thaw 1
  obtain ⟨n, hn⟩ : ∃ n, l.length = n := ⟨_, rfl⟩
  rw [hn] at S2 ⊢
  have X3 : Hid (SBox 72 g (s.withV A n c) (w2.setCell ⟨g, 1, none⟩ (.slice A n c))) := heap_setCell_same w2 g 1 _ _ _ X2.out
  have Y3 : Hid (SBox 72 (g + 1) SagaD.zero (w2.setCell ⟨g, 1, none⟩ (.slice A n c))) := (heap_setCell_other _ _ _ _ (by simp)).trans Y2.out
  have L3 : Hid (Later w (w2.setCell ⟨g, 1, none⟩ (.slice A n c))) := L2.out.setCell (p := ⟨g, 1, none⟩) HG0.out _
  have S3 : Hid (StepsAt (W1.heap.size ≤ ·) (w2.setCell ⟨g, 1, none⟩ (.slice A n c)) (.slice A n c) l) := by
    rw [hn] at hs
    exact StepsAt.kept hs ⟨by simp, fun i _ hf => heap_setCell_other _ _ _ _ (fun e => by have := X1.out.lt; simp at e; omega)⟩
  clear e1 ho hb hs C hn
  go_wp2_with (first | (refine wpList_load_saga (by rfl) _ (by rfl) (by rfl) X3.out ?_) | (refine wpList_store_saga (by rfl) _ _ (by rfl) (by rfl) Y3.out (by rfl) ?_; intro w4 Z4 G4))
  have S4 : Hid (StepsAt (w.heap.size ≤ ·) w4 (.slice A n c) l) := FlatAt.mono (StepsAt.kept S3.out (Kept.of_grown G4 (fun k hk hf => by have := Option.some.inj hk; have := Y1.out.lt; omega))) (fun i _ hf => Nat.le_trans (Below.size L1.out) hf)
  have HLF : Hid (Later w _) := L3.out.grown G4 (Below.size L3.out) (fun k hk => by have := Option.some.inj hk; have := HG0.out; omega)
  refine bodyPost_ret (results_cell_row Tryz.results60 _ _ (g + 1) 72 _ (0, 0) _ (by rfl) Z4 Tryz.underlying72 (by rfl) (by kernel_rfl)) (by rfl) ?_
  exact ⟨A, n, c, rfl, S4.out, HLF.out⟩
end
end Go.Proofs.YtdkiopajilakcaaGreat
