/- Texts merged: PlanA, PlanB, PlanD, SagA, SagB, SagH, Clone, ChkB, ChkC, RefB, RChk, PlanS, SagC, SagD, Chain. -/
import Derived.Test.YtodifeoficjamaaBaseS1
import Derived.RangeFuncNested
import Derived.RangeFuncBound
import Derived.RangeFuncCalls
import Derived.RangeFuncLeaves
import Derived.Shelf.Abstract
import Derived.Shelf.RegionOpen
import Derived.WalkKit
import Derived.OwnWalkIn
import Derived.TacticsInMore
import Derived.LoopNIn
import Derived.LoopIn
import Derived.Lib.MinMax
import Derived.ChangeKeysEq
import Derived.Test.YtodifeoficjamaaProg
import Derived.OwnWalk
/- The pivot, how often a step may be tried, whether a step is hit: the code's and the document's. -/
namespace Go.Proofs.Ytodifeoficjamaa
open Go.RowKit

/-- The slice v holds these bools. -/
def BoolsAt (F : Nat → Prop) (w : World) (v : Value) (l : List Bool) : Prop := FlatAt F w 1 v l.length (l.map fun x => .bool x)
theorem BoolsAt.kept {F : Nat → Prop} {w w' : World} {v : Value} {l : List Bool} (h : BoolsAt F w v l) (hk : Kept F w w') : BoolsAt F w' v l := FlatAt.kept h hk
theorem BoolsAt.at_ {F : Nat → Prop} {w : World} {v : Value} {l : List Bool} (h : BoolsAt F w v l) {i : Nat} (hi : i < l.length) : ∃ x b off c, l[i]? = some x ∧ v = .slice (some ⟨b, off, none⟩) l.length c ∧ l.length ≤ c ∧ F b ∧ b < w.heap.size ∧ w.cell? ⟨b, off + i, none⟩ = some (.bool x) := by
  obtain ⟨b, off, c, hv, hc, hf, hb, hr⟩ := FlatAt.elem h hi
  have hs : l[i]? = some l[i] := List.getElem?_eq_getElem hi
  refine ⟨l[i], b, off, c, hs, hv, hc, hf, hb, ?_⟩
  have := hr 0 (.bool l[i]) (by simp [List.getElem?_drop, hs])
  simpa using this

/-- A definition in a block of its own. -/
def DefBox (y : Nat) (name : ByteArray) (v : Value) (w : World) : Prop := w.heap[y]? = some (.cells #[.string name, v] 24 (0, 0))
theorem DefBox.below {y : Nat} {name : ByteArray} {v : Value} {w w' : World} (h : DefBox y name v w) (hl : Later w w') : DefBox y name v w' := (Below.block hl y (lt_of_block h)).trans h
theorem DefBox.steps {y : Nat} {name : ByteArray} {v : Value} {w : World} (h : DefBox y name v w) : w.cell? ⟨y, 1, none⟩ = some v := (cell_of_row w y 1 _ _ _ h).trans rfl
theorem DefBox.name_ {y : Nat} {name : ByteArray} {v : Value} {w : World} (h : DefBox y name v w) : w.cell? ⟨y, 0, none⟩ = some (.string name) := (cell_of_row w y 0 _ _ _ h).trans rfl

/-- The place of the first one. -/
def IdxIs (f : StepD → Bool) (l : List StepD) (i : Int) : Prop := i = if l.findIdx f < l.length then (l.findIdx f : Int) else -1
section
variable {w : World}
set_option maxHeartbeats 2000000 in
theorem index_at {F : Nat → Prop} {v : SetV} {f : StepD → Bool} {A : Option Addr} {n cap : Nat} {l : List StepD} (h : StepsAt F w (.slice A n cap) l) (hn : n = l.length) (hv : AskAt w v f) (hs : n ≤ 1000) :
    Calls Try.prog 58 #[.slice A n cap, v.val] w fun e w' => ∃ i : Int, e = .returned (.int .i64 i) ∧ IdxIs f l i ∧ Later w w' := by
  have H := hide h
  have HN := hide hn
  have HV := hide hv
  have eg := hv.1
  unfold Enters at eg
  clear h hn hv
  obtain ⟨FF, cs⟩ := v
  simp only [SetV.val]
  simp only at eg
  go_enter Try.func58, Try.ntmps58
  go_wp2
  go_loopw [8] (fun i wr => ∃ q : Nat, q ≤ n ∧ i = .int .i64 (q : Int) ∧ (l.take q).any f = false ∧ Later w wr) (fun i _ => n - (intOf i).toNat)
  case atStart => exact ⟨0, by omega, rfl, by simp, Later.refl _⟩
  case round =>
    obtain ⟨q, hq, rfl, hall, hlat⟩ := hrel
    have HA := hide hall
    have HL := hide hlat
    clear hall hlat
    by_cases hlt : q < n
    · obtain ⟨s, b, off, c', hs', hvv, _, _, _, hr⟩ := StepsAt.at_ (StepsAt.kept H.out (Kept.of_below HL.out _)) (i := q) (by rw [← HN.out]; exact hlt)
      rw [← HN.out] at hvv
      obtain ⟨rfl, rfl⟩ : A = some ⟨b, off, none⟩ ∧ cap = c' := by injection hvv with e1 _ e3; exact ⟨e1, e3⟩
      obtain ⟨r0, r1, r2, r3, r4, r5⟩ := range_step hr
      have HP := hide hs'
      have C := hide (HV.out.2 wr s HL.out)
      obtain ⟨t, ht⟩ : ∃ t, f s = t := ⟨_, rfl⟩
      rw [ht] at C
      have HT := hide ht
      unfold StepD.cells at C
      simp only at C
      clear hs' hvv hr ht
      go_wp2_with (fail)
      refine C.out.mono ?_
      rintro e w1 ⟨rfl, hl⟩
      have HL1 := hide (HL.out.trans hl)
      clear hl C r0 r1 r2 r3 r4 r5
      cases t with
      | false =>
        go_wp2
        go_roundw
        case rel =>
          refine ⟨q + 1, by omega, by go_num, ?_, HL1.out⟩
          rw [List.take_add_one, HP.out, List.any_append, HA.out]
          simp [HT.out]
        case measure => simp [intOf]; omega
      | true =>
        go_wp2
        go_ret
        have hf := find_at HA.out HP.out HT.out
        refine ⟨(q : Int), rfl, ?_, HL1.out⟩
        have hq2 : q < l.length := by rw [← HN.out]; exact hlt
        unfold IdxIs
        rw [hf, if_pos hq2]
    · have hall : l.any f = false := by
        have h1 := HA.out
        rwa [List.take_of_length_le (by have := HN.out; omega)] at h1
      have HALL := hide hall
      clear hall
      go_wp2
      go_ret
      exact ⟨-1, rfl, by unfold IdxIs; rw [find_none HALL.out, if_neg (by omega)], HL.out⟩

theorem pivot1_any (W : World) (a : StepD) : Calls Try.prog 59 #[.agg a.cells.toArray] W fun e W' => e = .returned (.bool a.pivot) ∧ Later W W' := by
  have HL : Hid (Later W (W.alloc (.cells a.cells.toArray 56 (0, 0)))) := (Below.refl _ _).alloc (Nat.le_refl _) _
  unfold StepD.cells at *
  go_enter Try.func59, Try.ntmps59
  go_wp2
  go_ret
  exact ⟨rfl, HL.out⟩
theorem enters_pivot1 : Enters 59 := fun args w => by go_simp

set_option maxHeartbeats 2000000 in
theorem pivot_any {F : Nat → Prop} {name : ByteArray} {v : Value} {l : List StepD} (h : StepsAt F w v l) (hs : l.length ≤ 1000) :
    Calls Try.prog 46 #[.agg #[.string name, v]] w fun e w' => e = .returned (.int .i64 ((pivotN l : Nat) : Int)) ∧ Later w w' := by
  obtain ⟨A, cap, rfl, hc1, hc2, _⟩ := FlatAt.shape h
  obtain ⟨n, hn⟩ : ∃ n, l.length = n := ⟨_, rfl⟩
  rw [hn] at h hc1 hs ⊢
  obtain ⟨W1, hW1⟩ : ∃ W1, W1 = w.alloc (.cells #[.string name, .slice A n cap] 24 (0, 0)) := ⟨_, rfl⟩
  obtain ⟨y, hy⟩ : ∃ y, y = w.heap.size := ⟨_, rfl⟩
  have B1 : Hid (DefBox y name (.slice A n cap) W1) := by rw [hW1, hy]; exact heap_alloc_new w _
  have L1 : Hid (Later w W1) := by rw [hW1]; exact (Below.refl _ _).alloc (Nat.le_refl _) _
  have C1 := hide (index_at (w := W1) (v := ⟨59, #[]⟩) (f := fun a => a.pivot) (StepsAt.kept h (Kept.of_below L1.out _)) hn.symm ⟨enters_pivot1, fun W t _ => pivot1_any W t⟩ hs)
  have HR : Hid (∀ i : Int, IdxIs (fun a => a.pivot) l i → i + 1 = ((pivotN l : Nat) : Int) ∧ -1 ≤ i ∧ i ≤ 1000) := fun i hi => by
    unfold pivotN
    unfold IdxIs at hi
    by_cases hq : l.findIdx (fun a => a.pivot) < l.length
    · rw [if_pos hq] at hi ⊢; omega
    · rw [if_neg hq] at hi ⊢; omega
  have HW1 := hide hW1.symm
  have HY := hide hy.symm
  simp only [SetV.val] at C1
  clear h hn hW1 hy hc1 hc2 hs
  go_enter Try.func46, Try.ntmps46
  go_wp2_with (fail)
  have hw := HW1.out
  have hyy := HY.out
  simp only [hw, hyy]
  clear hw hyy
  have c1 : W1.cell? ⟨y, 1, none⟩ = some (.slice A n cap) := B1.out.steps
  go_wp2_with (fail)
  refine C1.out.mono ?_
  rintro e w2 ⟨i, rfl, hi, hl2⟩
  obtain ⟨e1, e2, e3⟩ := HR.out i hi
  have HE := hide e1
  have HL := hide (L1.out.trans hl2)
  clear hi hl2 C1 e1
  go_wp2
  go_ret
  exact ⟨ret_int HE.out, HL.out⟩

theorem tries_any (s : StepD) (h : I64 s.retry) : Calls Try.prog 43 #[.agg s.cells.toArray] w fun e w' => e = .returned (.int .i64 (triesF s)) ∧ Later w w' := by
  have HL : Hid (Later w (w.alloc (.cells s.cells.toArray 56 (0, 0)))) := (Below.refl _ _).alloc (Nat.le_refl _) _
  unfold I64 at h
  obtain ⟨T, hT⟩ : ∃ T, triesF s = T := ⟨_, rfl⟩
  rw [hT]
  unfold triesF outB at hT
  have HT := hide hT
  unfold StepD.cells at *
  obtain ⟨nm, st, r, wt, un, pv⟩ := s
  simp only at *
  clear hT
  by_cases h1 : r < 0
  · obtain rfl : T = 0 := by rw [← HT.out]; simp [h1]
    go_enter Try.func43, Try.ntmps43
    go_wp2
    go_ret
    exact ⟨rfl, HL.out⟩
  · by_cases h2 : 9 < r
    · obtain rfl : T = 0 := by rw [← HT.out]; simp [h2]
      go_enter Try.func43, Try.ntmps43
      go_wp2
      go_ret
      exact ⟨rfl, HL.out⟩
    · obtain rfl : T = r + 1 := by rw [← HT.out]; simp [h1, h2]
      clear HT
      go_enter Try.func43, Try.ntmps43
      go_wp2
      go_ret
      exact ⟨rfl, HL.out⟩
theorem enters_tries : Enters 43 := fun args w => by go_simp

theorem hit_no {hs : List Bool} {k : Int} (h : k < 1 ∨ (hs.length : Int) < k) : hitB hs k = false := by
  unfold hitB
  rcases h with h | h
  · rw [decide_eq_false (show ¬ 0 < k by omega)]; rfl
  · rw [decide_eq_false (show ¬ k ≤ (hs.length : Int) by omega)]; simp
theorem hit_at {hs : List Bool} {q : Nat} {x : Bool} (h : hs[q]? = some x) : hitB hs ((q : Int) + 1) = x := by
  have hq := (List.getElem?_eq_some_iff.1 h).1
  unfold hitB
  rw [decide_eq_true (show (0 : Int) < (q : Int) + 1 by omega), decide_eq_true (show (q : Int) + 1 ≤ (hs.length : Int) by omega), show ((q : Int) + 1 - 1).toNat = q from by omega, h]
  simp
set_option maxHeartbeats 2000000 in
theorem isHit_any {F : Nat → Prop} {v : Value} {hs : List Bool} {k : Int} (h : BoolsAt F w v hs) :
    Calls Try.prog 61 #[v, .int .i64 k] w fun e w' => e = .returned (.bool (hitB hs k)) ∧ w' = w := by
  obtain ⟨A, c, rfl, h1, h2, _⟩ := FlatAt.shape h
  obtain ⟨n, hn⟩ : ∃ n, hs.length = n := ⟨_, rfl⟩
  rw [hn] at h1
  by_cases hk1 : k < 1
  · rw [hit_no (.inl hk1), hn]
    clear h hn
    have hk2 : ¬ 0 < k := by omega
    go_enter Try.func61, Try.ntmps61
    go_wp2
    go_ret
    exact ⟨rfl, rfl⟩
  · by_cases hk3 : (n : Int) < k
    · rw [hit_no (.inr (by omega)), hn]
      clear h hn
      have hk2 : 0 < k := by omega
      have hk4 : ¬ k ≤ (n : Int) := by omega
      go_enter Try.func61, Try.ntmps61
      go_wp2
      go_ret
      exact ⟨rfl, rfl⟩
    · obtain ⟨q, rfl⟩ : ∃ q : Nat, k = (q : Int) + 1 := ⟨(k - 1).toNat, by omega⟩
      have hqn : q < n := by omega
      have hq64 : (q : Int) < 9223372036854775807 := by unfold maxLen at h2; omega
      obtain ⟨x, b, off, c', hx, hvv, _, _, _, hr⟩ := BoolsAt.at_ h (i := q) (by omega)
      rw [hn] at hvv ⊢
      obtain ⟨rfl, rfl⟩ : A = some ⟨b, off, none⟩ ∧ c = c' := by injection hvv with e1 _ e3; exact ⟨e1, e3⟩
      rw [hit_at hx]
      have hk2 : (0 : Int) < (q : Int) + 1 := by omega
      have hk4 : (q : Int) + 1 ≤ (n : Int) := by omega
      have hk5 : (q : Int) + 1 - 1 = (q : Int) := by omega
      clear h hn hvv hx hk1 hk3
      go_enter Try.func61, Try.ntmps61
      go_wp2
      go_ret
      exact ⟨rfl, rfl⟩
end
end Go.Proofs.Ytodifeoficjamaa
/- How often a step may be tried, and whether there is no way back: the code's and the document's. -/
namespace Go.Proofs.Ytodifeoficjamaa
open Go.RowKit

theorem triesN_no {l : List StepD} {k : Int} (h : k < 1 ∨ (l.length : Int) < k) : triesN l k = 0 := by unfold triesN; rw [if_pos h]
theorem triesN_at {l : List StepD} {q : Nat} {s : StepD} (h : l[q]? = some s) : triesN l ((q : Int) + 1) = triesF s := by
  have hq := (List.getElem?_eq_some_iff.1 h).1
  unfold triesN
  rw [if_neg (by omega), show ((q : Int) + 1 - 1).toNat = q from by omega, h]
  rfl
section
variable {w : World}
set_option maxHeartbeats 4000000 in
theorem Tries_any {F : Nat → Prop} {name : ByteArray} {v : Value} {l : List StepD} {k : Int} (h : StepsAt F w v l) (hk : I64 k) (hw : ∀ s ∈ l, s.wf) :
    Calls Try.prog 24 #[.agg #[.string name, v], .int .i64 k] w fun e w' => e = .returned (.int .i64 (triesN l k)) ∧ Later w w' := by
  obtain ⟨A, cap, rfl, hc1, hc2, _⟩ := FlatAt.shape h
  obtain ⟨n, hn⟩ : ∃ n, l.length = n := ⟨_, rfl⟩
  rw [hn] at h hc1 ⊢
  obtain ⟨W1, hW1⟩ : ∃ W1, W1 = w.alloc (.cells #[.string name, .slice A n cap] 24 (0, 0)) := ⟨_, rfl⟩
  obtain ⟨y, hy⟩ : ∃ y, y = w.heap.size := ⟨_, rfl⟩
  have B1 : Hid (DefBox y name (.slice A n cap) W1) := by rw [hW1, hy]; exact heap_alloc_new w _
  have L1 : Hid (Later w W1) := by rw [hW1]; exact (Below.refl _ _).alloc (Nat.le_refl _) _
  have HW1 := hide hW1.symm
  have HY := hide hy.symm
  have H := hide (StepsAt.kept h (Kept.of_below L1.out _))
  have c1 : W1.cell? ⟨y, 1, none⟩ = some (.slice A n cap) := B1.out.steps
  obtain ⟨T, hT⟩ : ∃ T, triesN l k = T := ⟨_, rfl⟩
  rw [hT]
  have HT := hide hT
  unfold I64 at hk
  have HN := hide hn
  clear h hW1 hy hT hc2 hn
  by_cases hk1 : k < 1
  · obtain rfl : T = 0 := by rw [← HT.out]; exact triesN_no (.inl hk1)
    go_enter Try.func24, Try.ntmps24
    go_wp2_with (fail)
    have hw := HW1.out
    have hyy := HY.out
    simp only [hw, hyy]
    clear hw hyy
    go_wp2
    go_ret
    exact ⟨rfl, L1.out⟩
  · by_cases hk3 : (n : Int) < k
    · obtain rfl : T = 0 := by rw [← HT.out]; exact triesN_no (.inr (by rw [HN.out]; exact hk3))
      go_enter Try.func24, Try.ntmps24
      go_wp2_with (fail)
      have hw := HW1.out
      have hyy := HY.out
      simp only [hw, hyy]
      clear hw hyy
      go_wp2
      go_ret
      exact ⟨rfl, L1.out⟩
    · obtain ⟨q, rfl⟩ : ∃ q : Nat, k = (q : Int) + 1 := ⟨(k - 1).toNat, by omega⟩
      have hqn : q < n := by omega
      obtain ⟨s, b, off, c', hx, hvv, _, _, _, hr⟩ := StepsAt.at_ H.out (i := q) (by rw [HN.out]; exact hqn)
      rw [HN.out] at hvv
      obtain ⟨rfl, rfl⟩ : A = some ⟨b, off, none⟩ ∧ cap = c' := by injection hvv with e1 _ e3; exact ⟨e1, e3⟩
      obtain rfl : T = triesF s := by rw [← HT.out]; exact triesN_at hx
      have C := hide (tries_any (w := W1) s (hw s (List.mem_of_getElem? hx)).2.2.1)
      obtain ⟨r0, r1, r2, r3, r4, r5⟩ := range_step hr
      have hk5 : (q : Int) + 1 - 1 = (q : Int) := by omega
      have hk6 : ¬ ((n : Int) < (q : Int) + 1) := hk3
      have hk7 : ¬ ((q : Int) + 1 < 1) := hk1
      clear hvv hx hk1 hk3 hw hr
      unfold StepD.cells at C
      rw [← HW1.out] at r0 r1 r2 r3 r4 r5
      go_enter Try.func24, Try.ntmps24
      go_wp2_with (fail)
      have hw := HW1.out
      simp only [hw]
      clear hw r0 r1 r2 r3 r4 r5
      refine C.out.mono ?_
      rintro e w2 ⟨rfl, hl2⟩
      have HL := hide (L1.out.trans hl2)
      clear hl2 C
      go_wp2
      go_ret
      exact ⟨rfl, HL.out⟩

set_option maxHeartbeats 4000000 in
theorem rTries_any {F : Nat → Prop} {name : ByteArray} {v : Value} {l : List StepD} {k : Int} (h : StepsAt F w v l) (hk : I64 k) (hw : ∀ s ∈ l, s.wf) :
    Calls Try.prog 27 #[.agg #[.string name, v], .int .i64 k] w fun e w' => e = .returned (.int .i64 (triesN l k)) ∧ Later w w' := by
  obtain ⟨A, cap, rfl, hc1, hc2, _⟩ := FlatAt.shape h
  obtain ⟨n, hn⟩ : ∃ n, l.length = n := ⟨_, rfl⟩
  rw [hn] at h hc1 ⊢
  obtain ⟨W1, hW1⟩ : ∃ W1, W1 = w.alloc (.cells #[.string name, .slice A n cap] 24 (0, 0)) := ⟨_, rfl⟩
  obtain ⟨y, hy⟩ : ∃ y, y = w.heap.size := ⟨_, rfl⟩
  have B1 : Hid (DefBox y name (.slice A n cap) W1) := by rw [hW1, hy]; exact heap_alloc_new w _
  have L1 : Hid (Later w W1) := by rw [hW1]; exact (Below.refl _ _).alloc (Nat.le_refl _) _
  have HW1 := hide hW1.symm
  have HY := hide hy.symm
  have H := hide (StepsAt.kept h (Kept.of_below L1.out _))
  have c1 : W1.cell? ⟨y, 1, none⟩ = some (.slice A n cap) := B1.out.steps
  obtain ⟨T, hT⟩ : ∃ T, triesN l k = T := ⟨_, rfl⟩
  rw [hT]
  have HT := hide hT
  unfold I64 at hk
  have HN := hide hn
  clear h hW1 hy hT hc2 hn
  by_cases hk1 : k < 1
  · obtain rfl : T = 0 := by rw [← HT.out]; exact triesN_no (.inl hk1)
    go_enter Try.func27, Try.ntmps27
    go_wp2_with (fail)
    have hw := HW1.out
    have hyy := HY.out
    simp only [hw, hyy]
    clear hw hyy
    go_wp2
    go_ret
    exact ⟨rfl, L1.out⟩
  · by_cases hk3 : (n : Int) < k
    · obtain rfl : T = 0 := by rw [← HT.out]; exact triesN_no (.inr (by rw [HN.out]; exact hk3))
      go_enter Try.func27, Try.ntmps27
      go_wp2_with (fail)
      have hw := HW1.out
      have hyy := HY.out
      simp only [hw, hyy]
      clear hw hyy
      go_wp2
      go_ret
      exact ⟨rfl, L1.out⟩
    · obtain ⟨q, rfl⟩ : ∃ q : Nat, k = (q : Int) + 1 := ⟨(k - 1).toNat, by omega⟩
      have hqn : q < n := by omega
      obtain ⟨s, b, off, c', hx, hvv, _, _, _, hr⟩ := StepsAt.at_ H.out (i := q) (by rw [HN.out]; exact hqn)
      rw [HN.out] at hvv
      obtain ⟨rfl, rfl⟩ : A = some ⟨b, off, none⟩ ∧ cap = c' := by injection hvv with e1 _ e3; exact ⟨e1, e3⟩
      have hTs : T = triesF s := by rw [← HT.out]; exact triesN_at hx
      have hwf := (hw s (List.mem_of_getElem? hx)).2.2.1
      unfold triesF outB at hTs
      unfold I64 at hwf
      obtain ⟨r0, r1, r2, r3, r4, r5⟩ := range_step hr
      have hk5 : (q : Int) + 1 - 1 = (q : Int) := by omega
      have hk6 : ¬ ((n : Int) < (q : Int) + 1) := hk3
      have hk7 : ¬ ((q : Int) + 1 < 1) := hk1
      obtain ⟨r, hrr⟩ : ∃ r, s.retry = r := ⟨_, rfl⟩
      rw [hrr] at r2 hTs hwf
      clear hvv hx hk1 hk3 hw hr r0 r1 r3 r4 r5 hrr
      by_cases h1 : r < 0
      · obtain rfl : T = 0 := by rw [hTs]; simp [h1]
        clear hTs
        rw [← HW1.out] at r2
        go_enter Try.func27, Try.ntmps27
        go_wp2
        rw [HW1.out]
        go_ret
        exact ⟨rfl, L1.out⟩
      · by_cases h2 : 9 < r
        · obtain rfl : T = 0 := by rw [hTs]; simp [h2]
          clear hTs
          rw [← HW1.out] at r2
          go_enter Try.func27, Try.ntmps27
          go_wp2
          rw [HW1.out]
          go_ret
          exact ⟨rfl, L1.out⟩
        · obtain rfl : T = r + 1 := by rw [hTs]; simp [h1, h2]
          clear hTs HT
          rw [← HW1.out] at r2
          go_enter Try.func27, Try.ntmps27
          go_wp2
          rw [HW1.out]
          go_ret
          exact ⟨rfl, L1.out⟩

set_option maxHeartbeats 2000000 in
theorem sealed_any {F G : Nat → Prop} {name : ByteArray} {v v2 : Value} {l : List StepD} {hs : List Bool} (h : StepsAt F w v l) (hl : l.length ≤ 1000) (hh : BoolsAt G w v2 hs) :
    Calls Try.prog 57 #[.agg #[.string name, v], v2] w fun e w' => e = .returned (.bool (sealedF l hs)) ∧ Later w w' := by
  obtain ⟨A, cap, rfl, hc1, hc2, _⟩ := FlatAt.shape h
  obtain ⟨A2, cap2, rfl, _, _, _⟩ := FlatAt.shape hh
  obtain ⟨n, hn⟩ : ∃ n, l.length = n := ⟨_, rfl⟩
  obtain ⟨n2, hn2⟩ : ∃ n, hs.length = n := ⟨_, rfl⟩
  rw [hn] at h hc1
  rw [hn2] at hh
  rw [hn, hn2]
  obtain ⟨W1, hW1⟩ : ∃ W1, W1 = w.alloc (.cells #[.string name, .slice A n cap] 24 (0, 0)) := ⟨_, rfl⟩
  obtain ⟨y, hy⟩ : ∃ y, y = w.heap.size := ⟨_, rfl⟩
  have B1 : Hid (DefBox y name (.slice A n cap) W1) := by rw [hW1, hy]; exact heap_alloc_new w _
  have L1 : Hid (Later w W1) := by rw [hW1]; exact (Below.refl _ _).alloc (Nat.le_refl _) _
  have HW1 := hide hW1.symm
  have HY := hide hy.symm
  have C1 := hide (pivot_any (name := name) (StepsAt.kept h (Kept.of_below L1.out _)) hl)
  have C2 : Hid (∀ W, Later w W → Calls Try.prog 61 #[.slice A2 n2 cap2, .int .i64 ((pivotN l : Nat) : Int)] W fun e w' => e = .returned (.bool (sealedF l hs)) ∧ w' = W) := fun W hlW => isHit_any (BoolsAt.kept hh (Kept.of_below hlW _))
  have c0 : W1.cell? ⟨y, 0, none⟩ = some (.string name) := B1.out.name_
  have c1 : W1.cell? ⟨y, 1, none⟩ = some (.slice A n cap) := B1.out.steps
  obtain ⟨S, hS⟩ : ∃ S, sealedF l hs = S := ⟨_, rfl⟩
  obtain ⟨P, hP⟩ : ∃ P : Nat, pivotN l = P := ⟨_, rfl⟩
  rw [hS] at C2 ⊢
  rw [hP] at C1 C2
  clear h hh hn hn2 hW1 hy hc1 hc2 hS hP
  go_enter Try.func57, Try.ntmps57
  go_wp2_with (fail)
  have hw := HW1.out
  have hyy := HY.out
  simp only [hw, hyy]
  clear hw hyy
  go_wp2_with (fail)
  refine C1.out.mono ?_
  rintro e w2 ⟨rfl, hl2⟩
  have HL := hide (L1.out.trans hl2)
  clear hl2 C1 c0 c1
  go_wp2_with (fail)
  refine (C2.out _ HL.out).mono ?_
  rintro e w3 ⟨rfl, hq⟩
  obtain rfl := hq.symm
  go_wp2
  go_ret
  exact ⟨rfl, HL.out⟩

end
end Go.Proofs.Ytodifeoficjamaa
/- The way down: steps are gone down by a range over a function. -/
namespace Go.Proofs.Ytodifeoficjamaa
open Go.RowKit Go.Shelf

attribute [local go_sem] Oper.semAt_some

def noStep : StepD := ⟨⟨#[]⟩, 0, 0, 0, false, false⟩
/-- What has come when k rounds are over: steps N, N - 1, .. with their numbers. -/
def cameN (l : List StepD) (N k : Nat) : List (Nat × StepD) := (List.range k).map fun j => (N - j, (l[N - j - 1]?).getD noStep)
theorem came_succ (l : List StepD) (N k : Nat) : cameN l N (k + 1) = cameN l N k ++ [(N - k, (l[N - k - 1]?).getD noStep)] := by simp [cameN, List.range_succ]
theorem came_len (l : List StepD) (N k : Nat) : (cameN l N k).length = k := by simp [cameN]
theorem came_mem {l : List StepD} {N k j : Nat} (h : j < k) : (N - j, (l[N - j - 1]?).getD noStep) ∈ cameN l N k := by
  simp only [cameN, List.mem_map, List.mem_range]; exact ⟨j, h, rfl⟩
def offB (hs : List Bool) (p : Nat × StepD) : Bool := p.2.undo && hitB hs (p.1 : Int)
theorem off_at {l : List StepD} {hs : List Bool} {N j : Nat} (h : j < N) (hN : N ≤ l.length) : offB hs (N - j, (l[N - j - 1]?).getD noStep) = okAt l hs (N - j - 1) := by
  have hl : l[N - j - 1]? = some l[N - j - 1] := List.getElem?_eq_getElem (by omega)
  rw [okAt_hit hl]
  unfold offB
  rw [hl]
  simp only [Option.getD_some]
  rw [show ((N - j : Nat) : Int) = ((N - j - 1 : Nat) : Int) + 1 from by omega]
theorem down_skip {l : List StepD} {hs : List Bool} {N : Nat} : ∀ (k : Nat), k ≤ N → (∀ j, j < k → okAt l hs (N - j - 1) = false) → downN l hs N = downN l hs (N - k)
  | 0, _, _ => rfl
  | k + 1, hk, h => by
    rw [down_skip k (by omega) fun j hj => h j (by omega)]
    have h1 := h k (by omega)
    obtain ⟨m, hm⟩ : ∃ m, N - k = m + 1 := ⟨N - k - 1, by omega⟩
    rw [show N - k - 1 = m from by omega] at h1
    rw [hm, show N - (k + 1) = m from by omega, downN, if_neg (by rw [h1]; simp)]
theorem down_all {l : List StepD} {hs : List Bool} {N : Nat} (hN : N ≤ l.length) (h : ∀ p ∈ cameN l N N, offB hs p = false) : downN l hs N = 0 := by
  rw [down_skip N (Nat.le_refl _) fun j hj => by rw [← off_at hj hN]; exact h _ (came_mem hj), Nat.sub_self]
  rfl
theorem down_found {l : List StepD} {hs : List Bool} {N k : Nat} (hN : N ≤ l.length) (hk : k ≤ N) {ini : List (Nat × StepD)} {p : Nat × StepD} (he : cameN l N k = ini ++ [p]) (hi : ∀ q ∈ ini, offB hs q = false) (hp : offB hs p = true) : downN l hs N = p.1 := by
  obtain ⟨k', rfl⟩ : ∃ k', k = k' + 1 := by
    cases k with
    | zero => simp [cameN] at he
    | succ k' => exact ⟨k', rfl⟩
  rw [came_succ] at he
  obtain ⟨rfl, e5⟩ := List.append_inj' he rfl
  obtain rfl : (N - k', (l[N - k' - 1]?).getD noStep) = p := by simpa using e5
  rw [down_skip k' (by omega) fun j hj => by rw [← off_at (by omega) hN]; exact hi _ (came_mem hj)]
  rw [off_at (by omega) hN] at hp
  obtain ⟨m, hm⟩ : ∃ m, N - k' = m + 1 := ⟨N - k' - 1, by omega⟩
  rw [hm, Nat.add_sub_cancel] at hp
  rw [hm, downN, if_pos hp]

/-- All have come, or the body has said no. -/
def Gave (l : List StepD) (N : Nat) (J Jx : List (Nat × StepD) → World → Prop) (W : World) : Prop := (∃ ys, ys = cameN l N N ∧ J ys W) ∨ (∃ pre, (∃ k, k ≤ N ∧ pre = cameN l N k) ∧ Jx pre W)
/-- What a round is handed. -/
abbrev encS (x : Nat × StepD) : Array Value := #[.int .i64 (x.1 : Int), .agg #[.string x.2.name, .int .i64 x.2.stub, .int .i64 x.2.retry, .int .i64 x.2.wait, .bool x.2.undo, .bool x.2.pivot]]

set_option maxRecDepth 100000 in
set_option maxHeartbeats 2000000 in
/-- The steps, down from a number: for every body of a loop that keeps what lay. -/
theorem down1_in {G : Nat → Prop} (F : Fence) (n : Nat) (hF : F.fn 67) (hro : F.round = none) (hn : 1 ≤ n) (lr bf bl len cap N : Nat) {A : Option Addr} {l : List StepD} {w : World} (H : Hid (StepsAt G w (.slice A len cap) l)) (hlen : Hid (l.length = len)) (M : Int) (hM : M ≤ (len : Int)) (hM2 : -9223372036854775808 ≤ M) (hlen2 : len ≤ 1000) (hN : N = M.toNat) (fr : Int) (hfr : min fr (len : Int) = M) (J Jx : List (Nat × StepD) → World → Prop)
    (hY : ∀ pre x W, J pre W → pre.length < N → YieldAt F (n - 1) Try.prog lr (encS x) W fun e W' =>
      (e = .returned (.bool true) ∧ J (pre ++ [x]) W' ∧ Below w.heap.size W W') ∨ (e = .returned (.bool false) ∧ Jx (pre ++ [x]) W'))
    (W : World) (hW : Below w.heap.size w W) (bF : bf < w.heap.size) (bL : bl < w.heap.size) (hf : w.cell? ⟨bf, 0, none⟩ = some (.int .i64 fr)) (hl : w.cell? ⟨bl, 0, none⟩ = some (.slice A len cap)) (h0 : J [] W) :
    CallsIn F n Try.prog 67 #[.func (.yield lr) #[] #[], .pointer (some ⟨bf, 0, none⟩), .pointer (some ⟨bl, 0, none⟩)] W fun e W' => (∃ v, e = .returned v) ∧ Gave l N J Jx W' := by
  have cf : W.cell? ⟨bf, 0, none⟩ = some (.int .i64 fr) := (hW.cell (p := ⟨bf, 0, none⟩) bF).trans hf
  have cl : W.cell? ⟨bl, 0, none⟩ = some (.slice A len cap) := (hW.cell (p := ⟨bl, 0, none⟩) bL).trans hl
  have HM := hide hfr
  have HL := hide hl
  clear hfr hf hl
  refine callsIn_of_wp Try.func67 rfl hF ?_ hro
  simp only [Try.ntmps67, List.size_toArray, List.length_cons, List.length_nil, Nat.reduceAdd, Nat.reduceSub, Array.replicate_succ, Array.replicate_zero, List.push_toArray, List.append_toArray, List.nil_append, List.cons_append]
  gi_wp2
  have hm := HM.out
  simp only [hm]
  clear hm cf cl
  gi_loopw [4] (fun i wr => ∃ k : Nat, k ≤ N ∧ i = .int .i64 (M - (k : Int)) ∧ J (cameN l N k) wr ∧ Below w.heap.size w wr)
    (fun i _ => (intOf i).toNat)
  case atStart => exact ⟨0, Nat.zero_le _, by simp, h0, hW⟩
  case round =>
    obtain ⟨k, hk, rfl, hJs, hnx⟩ := hrel
    have cl : wr.cell? ⟨bl, 0, none⟩ = some (.slice A len cap) := (hnx.cell (p := ⟨bl, 0, none⟩) bL).trans HL.out
    by_cases hlt : k < N
    · have hq : N - k - 1 < len := by omega
      obtain ⟨s, b, off, c', hx, hvv, _, _, _, hr⟩ := StepsAt.at_ (StepsAt.kept H.out (Kept.of_below hnx _)) (i := N - k - 1) (by rw [hlen.out]; exact hq)
      rw [hlen.out] at hvv
      obtain ⟨rfl, rfl⟩ : A = some ⟨b, off, none⟩ ∧ cap = c' := by injection hvv with e1 _ e3; exact ⟨e1, e3⟩
      obtain ⟨fn, tmps, assign, body, hy, hR⟩ := hY _ (N - k, s) wr hJs (by rw [came_len]; exact hlt)
      obtain ⟨q, hqq⟩ : ∃ q : Nat, N - k - 1 = q := ⟨_, rfl⟩
      rw [hqq] at hr hq hx
      obtain ⟨r0, r1, r2, r3, r4, r5⟩ := range_step hr
      have e1 : M - (k : Int) = (q : Int) + 1 := by omega
      have e2 : N - k = q + 1 := by omega
      have e3 : (q : Int) + 1 - 1 = (q : Int) := by omega
      have HX := hide hx
      have HQ := hide hqq
      dsimp only [encS] at hy
      rw [e2] at hy hR
      simp only [Int.natCast_add, Int.cast_ofNat_Int] at hy
      have HK := hide hk
      have HLT := hide hlt
      have HN := hide hN
      have HMM := hide hM
      have hq0 : 0 < (q : Int) + 1 := by omega
      have HE1 := hide e1
      have HE2 := hide e2
      simp only [e1]
      clear hx hqq hvv hr e1 e2 hk hlt hN hM
      gi_wp2
      refine hR.mono ?_
      have hcame : cameN l N k ++ [(q + 1, s)] = cameN l N (k + 1) := by
        rw [came_succ, HE2.out, Nat.add_sub_cancel, HX.out]
        rfl
      rw [hcame]
      rintro e W3 (⟨rfl, hJ3, hk3⟩ | ⟨rfl, hJx3⟩)
      · gi_wp2
        go_roundw
        case rel => exact ⟨k + 1, HLT.out, by have := HE1.out; rw [show (q : Int) = M - ((k + 1 : Nat) : Int) from by omega], hJ3, hnx.trans hk3⟩
        case measure => simp [intOf]
      · gi_wp2
        refine bodyPost_ret (results_none rfl _ _ _) rfl ?_
        exact ⟨⟨_, rfl⟩, .inr ⟨_, ⟨k + 1, HLT.out, rfl⟩, hJx3⟩⟩
    · have hno : ¬ 0 < M - (k : Int) := by omega
      have hkN : k = N := by omega
      rw [hkN] at hJs
      have HJ := hide hJs
      clear hN hkN hJs hlt hk hM hM2 hY
      gi_wp2
      go_end0
      exact ⟨⟨_, rfl⟩, .inl ⟨_, rfl, HJ.out⟩⟩

theorem down_stops {G : Nat → Prop} (F : Fence) (n : Nat) (hF : F.fn 67) (hro : F.round = none) (hn : 1 ≤ n) (bf bl len cap N : Nat) {A : Option Addr} {l : List StepD} {w : World} (H : StepsAt G w (.slice A len cap) l) (hlen : l.length = len) (hlen2 : len ≤ 1000) (fr : Int) (hfr : I64 fr) (hN : N = (min fr (len : Int)).toNat)
    (bF : bf < w.heap.size) (bL : bl < w.heap.size) (hf : w.cell? ⟨bf, 0, none⟩ = some (.int .i64 fr)) (hl : w.cell? ⟨bl, 0, none⟩ = some (.slice A len cap)) :
    SeqStopsK F n Try.prog 67 #[.pointer (some ⟨bf, 0, none⟩), .pointer (some ⟨bl, 0, none⟩)] encS (Below w.heap.size) (fun ys => ys = cameN l N N) (fun pre => ∃ k, k ≤ N ∧ pre = cameN l N k) N w :=
  fun lr J Jx W hW _ _ hY h0 => down1_in F n hF hro hn lr bf bl len cap N (hide H) (hide hlen) (min fr (len : Int)) (by omega) (by unfold I64 at hfr; omega) hlen2 hN fr rfl J Jx hY W hW bF bL hf hl h0

theorem step_own {β : Type} (B : Nat) (s : StepD) : Own (fun (_ : β) W => StepBox B s W) := fun _ X Y row hs hg hrow =>
  (hg.block B (lt_of_block hs) (fun e => by obtain ⟨o, h1, h2⟩ := hrow B e.symm; rw [show X.heap[B]? = _ from hs] at h1; cases h1; cases h2)).trans hs

set_option maxHeartbeats 1000000 in
theorem downF_any (A : Option Addr) (len cap : Nat) (fr : Int) (w : World) :
    Calls Try.prog 60 #[.slice A len cap, .int .i64 fr] w fun e w' => e = .returned (.func (.func 67) #[] #[.pointer (some ⟨w.heap.size + 1, 0, none⟩), .pointer (some ⟨w.heap.size, 0, none⟩)]) ∧ w' = (w.alloc (.cells #[.slice A len cap] 22 (0, 0))).alloc (.cells #[.int .i64 fr] 3 (0, 0)) := by
  go_enter Try.func60, Try.ntmps60
  go_wp2
  go_ret
  exact ⟨rfl, rfl⟩

theorem iint_own {β : Type} (B : Nat) (t : TypeId) (v : Value) : Own (fun (_ : β) W => Boxed W B t v) := boxed_own B t fun _ => v
set_option maxRecDepth 100000 in
set_option maxHeartbeats 4000000 in
theorem Down_any {G G2 : Nat → Prop} {name : ByteArray} {v v2 : Value} {l : List StepD} {hs : List Bool} {fr : Int} {w : World} (h : StepsAt G w v l) (hl : l.length ≤ 1000) (hh : BoolsAt G2 w v2 hs) (hfr : I64 fr) :
    Calls Try.prog 49 #[.agg #[.string name, v], v2, .int .i64 fr] w fun e w' => e = .returned (.int .i64 ((downF l hs fr : Nat) : Int)) ∧ Later w w' := by
  obtain ⟨A, cap, rfl, hc1, hc2, _⟩ := FlatAt.shape h
  obtain ⟨A2, cap2, rfl, _, _, _⟩ := FlatAt.shape hh
  obtain ⟨len, hn⟩ : ∃ n, l.length = n := ⟨_, rfl⟩
  obtain ⟨n2, hn2⟩ : ∃ n, hs.length = n := ⟨_, rfl⟩
  rw [hn] at h hc1 hl ⊢
  rw [hn2] at hh ⊢
  have HN2 := hide hn2
  obtain ⟨R, hR⟩ : ∃ R, downF l hs fr = R := ⟨_, rfl⟩
  rw [hR]
  obtain ⟨N, hN⟩ : ∃ N, N = (min fr (len : Int)).toNat := ⟨_, rfl⟩
  have hR2 : R = downN l hs N := by rw [← hR, hN]; unfold downF; rw [hn]
  have hNl : N ≤ l.length := by omega
  have HR := hide hR2
  have HN := hide hN
  have HNL := hide hNl
  have HLEN := hide hn
  have H := hide h
  have HH := hide hh
  clear h hh hn hn2 hR hR2 hc1 hc2 hN hNl
  refine (callsIn_wide (n := 5)).1 ?_
  refine callsIn_of_wp_marks Try.func49 rfl trivial ?_ rfl
  simp only [Try.ntmps49, List.size_toArray, List.length_cons, List.length_nil, Nat.reduceAdd, Nat.reduceSub, Array.replicate_succ, Array.replicate_zero, List.push_toArray, List.append_toArray, List.nil_append, List.cons_append]
  gi_wp2_with (refine ⟨trivial, ?_⟩; gi_at_call 60; refine (callsIn_wide.2 (downF_any _ _ _ _ _)).mono ?_; rintro e w' ⟨rfl, rfl⟩)
  have bH := (((Boxed.new (w.alloc (.cells #[.string name, .slice A len cap] 24 (0, 0))) 79 (.slice A2 n2 cap2)).alloc (.cells #[.int .i64 0] 3 (0, 0))).alloc (.cells #[.slice A len cap] 22 (0, 0))).alloc (.cells #[.int .i64 fr] 3 (0, 0))
  have bR := ((Boxed.new ((w.alloc (.cells #[.string name, .slice A len cap] 24 (0, 0))).alloc (.cells #[.slice A2 n2 cap2] 79 (0, 0))) 3 (.int .i64 0)).alloc (.cells #[.slice A len cap] 22 (0, 0))).alloc (.cells #[.int .i64 fr] 3 (0, 0))
  have bL := (Boxed.new (((w.alloc (.cells #[.string name, .slice A len cap] 24 (0, 0))).alloc (.cells #[.slice A2 n2 cap2] 79 (0, 0))).alloc (.cells #[.int .i64 0] 3 (0, 0))) 22 (.slice A len cap)).alloc (.cells #[.int .i64 fr] 3 (0, 0))
  have bF := Boxed.new ((((w.alloc (.cells #[.string name, .slice A len cap] 24 (0, 0))).alloc (.cells #[.slice A2 n2 cap2] 79 (0, 0))).alloc (.cells #[.int .i64 0] 3 (0, 0))).alloc (.cells #[.slice A len cap] 22 (0, 0))) 3 (.int .i64 fr)
  have hB0 : Below w.heap.size w (((((w.alloc (.cells #[.string name, .slice A len cap] 24 (0, 0))).alloc (.cells #[.slice A2 n2 cap2] 79 (0, 0))).alloc (.cells #[.int .i64 0] 3 (0, 0))).alloc (.cells #[.slice A len cap] 22 (0, 0))).alloc (.cells #[.int .i64 fr] 3 (0, 0))) :=
    (((((Below.refl _ w).alloc (Nat.le_refl _) _).alloc (by simp) _).alloc (by simp; omega) _).alloc (by simp; omega) _).alloc (by simp; omega) _
  have hsz : (((((w.alloc (.cells #[.string name, .slice A len cap] 24 (0, 0))).alloc (.cells #[.slice A2 n2 cap2] 79 (0, 0))).alloc (.cells #[.int .i64 0] 3 (0, 0))).alloc (.cells #[.slice A len cap] 22 (0, 0))).alloc (.cells #[.int .i64 fr] 3 (0, 0))).heap.size = w.heap.size + 5 := by simp
  simp only [World.size_alloc] at bH bR bL bF
  obtain ⟨W0, hW0⟩ : ∃ W0, ((((w.alloc (.cells #[.string name, .slice A len cap] 24 (0, 0))).alloc (.cells #[.slice A2 n2 cap2] 79 (0, 0))).alloc (.cells #[.int .i64 0] 3 (0, 0))).alloc (.cells #[.slice A len cap] 22 (0, 0))).alloc (.cells #[.int .i64 fr] 3 (0, 0)) = W0 := ⟨_, rfl⟩
  rw [hW0] at bH bR bL bF hB0 hsz ⊢
  clear hW0
  have H0 := StepsAt.kept H.out (Kept.of_below hB0 _)
  refine wpIn_rangeFunc_ownH rfl (by omega) (gf := 67) (lb := #[.pointer (some ⟨w.heap.size + 1 + 1 + 1 + 1, 0, none⟩), .pointer (some ⟨w.heap.size + 1 + 1 + 1, 0, none⟩)]) rfl trivial (enters_of Try.func67 (by kernel_rfl) rfl)
    (down_stops Fence.wide _ trivial rfl (by omega) (w.heap.size + 1 + 1 + 1 + 1) (w.heap.size + 1 + 1 + 1) len cap N H0 HLEN.out hl fr hfr HN.out (by omega) (by omega) bF.cell bL.cell) belowK_t (belowK_b (Nat.le_refl _)) (Below.refl _ _) (fun _ => rfl)
    (fun pre W => (((∀ p ∈ pre, offB hs p = false) ∧ Boxed W (w.heap.size + 1 + 1) 3 (.int .i64 0)) ∧ Boxed W (w.heap.size + 1) 79 (.slice A2 n2 cap2)) ∧ (Below w.heap.size w W ∧ W0.heap.size ≤ W.heap.size))
    (fun c pre W => (c = .ret ∧ ∃ ini p, pre = ini ++ [p] ∧ (∀ q ∈ ini, offB hs q = false) ∧ offB hs p = true ∧ Boxed W (w.heap.size + 1 + 1) 3 (.int .i64 (p.1 : Int))) ∧ Below w.heap.size w W)
    (OwnFrom.and (OwnFrom.and (OwnFrom.and (ownFrom_pure _ _) (Own.from (boxed_own _ _ _) _)) (Own.from (boxed_own _ _ _) _)) (OwnFrom.and (ownFrom_below (Nat.le_refl _) (by omega)) (fun _ X Y row hs' hg _ => Nat.le_trans hs' hg.size)))
    (fun c => OwnFrom.and (fun s X Y row hs' hg hr => by
      obtain ⟨hc, ini, p, e1, e2, e3, e4⟩ := hs'
      exact ⟨hc, ini, p, e1, e2, e3, boxed_own _ _ (fun (_ : Unit) => Value.int .i64 (p.1 : Int)) () X Y row e4 hg (fun r e => (hr r e).2)⟩) (ownFrom_below (Nat.le_refl _) (by omega)))
    ⟨⟨⟨by simp, bR⟩, bH⟩, hB0, Nat.le_refl _⟩
    (fun x a' W => ∃ Bx, w.heap.size + 4 < Bx ∧ StepBox Bx x.2 W ∧ a' = { tmps := #[.agg #[.string name, .slice A len cap], .slice A2 n2 cap2, .int .i64 fr, .pointer (some ⟨w.heap.size, 0, none⟩), .pointer (some ⟨w.heap.size + 1, 0, none⟩), undef, .pointer (some ⟨w.heap.size + 1 + 1, 0, none⟩), .int .i64 (x.1 : Int), .pointer (some ⟨Bx, 0, none⟩), .pointer (some ⟨w.heap.size, 1, none⟩), .slice A len cap, .int .i64 fr, .func (.func 67) #[] #[.pointer (some ⟨w.heap.size + 1 + 1 + 1 + 1, 0, none⟩), .pointer (some ⟨w.heap.size + 1 + 1 + 1, 0, none⟩)], .int .i64 (x.1 : Int), .agg #[.string x.2.name, .int .i64 x.2.stub, .int .i64 x.2.retry, .int .i64 x.2.wait, .bool x.2.undo, .bool x.2.pivot], undef, undef, undef, undef, undef, undef, undef, undef], defers := [] })
    (fun x a' _ X Y row hs' hg hr => by obtain ⟨Bx, e1, e2, e3⟩ := hs'; exact ⟨Bx, e1, step_own (β := Unit) Bx x.2 () X Y row e2 hg (fun r e => (hr r e).2), e3⟩)
    ?assign ?body ?done ?stop
  case assign =>
    rintro lr pre x W K ⟨⟨⟨hp, bR1⟩, bH1⟩, hB1, hS1⟩ hK
    gi_wp2
    exact hK _ _ ((KeepsOthers.alloc _ _).from _) ((Below.refl _ W).alloc hS1 _) ⟨⟨⟨hp, bR1.alloc _⟩, bH1.alloc _⟩, hB1.alloc hB1.size _, by simp; omega⟩ ⟨W.heap.size, by omega, heap_alloc_new W _, rfl⟩
  case body =>
    rintro lr pre x a' W hl' ⟨r, hr⟩ ⟨⟨⟨hp, bR1⟩, bH1⟩, hB1, hS1⟩ ⟨Bx, hBx, bX, rfl⟩ hlt
    have cH := bH1.cell
    have cR := bR1.cell
    have fR := bR1.frozen
    obtain ⟨b0, b1, b2, b3, b4, b5, bf⟩ := bX.cells
    have C := hide (isHit_any (k := (x.1 : Int)) (BoolsAt.kept HH.out (Kept.of_below hB1 _)))
    obtain ⟨q, hq⟩ : ∃ q, hitB hs (x.1 : Int) = q := ⟨_, rfl⟩
    obtain ⟨un, hun⟩ : ∃ un, x.2.undo = un := ⟨_, rfl⟩
    have HOF : Hid (offB hs x = (un && q)) := by show _ = _; unfold offB; rw [hq, hun]
    rw [hq] at C
    rw [hun] at b4
    have HP := hide hp
    clear b0 b1 b2 b3 b5 bf hq hun hp
    cases un with
    | false =>
      gi_wp2
      refine ⟨trivial, ?_⟩
      gi_wp2
      refine ⟨KeepsFrom.refl _ _, Below.refl _ _, ⟨⟨fun p hp' => ?_, bR1⟩, bH1⟩, hB1, hS1⟩
      rcases List.mem_append.1 hp' with h1 | h1
      · exact HP.out p h1
      · obtain rfl : p = x := by simpa using h1
        rw [HOF.out]; rfl
    | true =>
      gi_wp2_with (refine ⟨trivial, ?_⟩; gi_at_call 61; refine (CallsIn.inRound lr (callsIn_wide.2 C.out)).mono ?_; rintro e w' ⟨rfl, rfl⟩)
      · rename_i hq
        subst hq
        exact ⟨(KeepsOthers.setCell _ _ _).from _, ⟨rfl, pre, x, rfl, HP.out, by rw [HOF.out]; rfl, bR1.set _⟩, hB1.setCell (p := ⟨w.heap.size + 1 + 1, 0, none⟩) (by simp; omega) _⟩
      · rename_i hq
        subst hq
        refine ⟨KeepsFrom.refl _ _, Below.refl _ _, ⟨⟨fun p hp' => ?_, bR1⟩, bH1⟩, hB1, hS1⟩
        rcases List.mem_append.1 hp' with h1 | h1
        · exact HP.out p h1
        · obtain rfl : p = x := by simpa using h1
          rw [HOF.out]; rfl
  case done =>
    rintro D ys W hD rfl ⟨⟨⟨hp, bR1⟩, bH1⟩, hB1, hS1⟩ hK
    have cR := bR1.cell
    have fR := bR1.frozen
    have hR0 : R = 0 := by rw [HR.out]; exact down_all HNL.out hp
    subst hR0
    clear hp
    gi_wp2
    have hK' := (KeepsOthers.setCell W ⟨w.heap.size + 1 + 1, 0, none⟩ (.int .i64 0)).same D _ hK rfl
    refine ⟨by simp, .inl ⟨_, _, rfl, run_takeDeferred hK', ?_⟩⟩
    have hc5 := cell_kept (bR1.set (.int .i64 0)).cell (grownBy_putObj' _ D (.deferred none)) (fun r e => by cases e; exact ⟨_, hK', rfl⟩)
    refine ⟨.int .i64 0, ?_, rfl, (hB1.setCell (p := ⟨w.heap.size + 1 + 1, 0, none⟩) (by simp; omega) _).trans (belowK_b (w := w) (Nat.le_refl _) _ D _ _ (by omega) hK' rfl rfl)⟩
    simp [results, Try.f49, go_sem, hc5]
  case stop =>
    rintro D c pre W hD ⟨k, hk, rfl⟩ ⟨⟨rfl, ini, p, e1, e2, e3, bR1⟩, hB1⟩ hK
    have hR0 : R = p.1 := by rw [HR.out]; exact down_found HNL.out hk e1 e2 e3
    subst hR0
    clear e1 e2 e3
    gi_wp2
    refine ⟨by simp, .inl ⟨_, _, rfl, run_takeDeferred hK, ?_⟩⟩
    have hc5 := cell_kept bR1.cell (grownBy_putObj' _ D (.deferred none)) (fun r e => by cases e; exact ⟨_, hK, rfl⟩)
    refine ⟨.int .i64 (p.1 : Int), ?_, rfl, hB1.trans (belowK_b (w := w) (Nat.le_refl _) W D _ _ (by omega) hK rfl rfl)⟩
    simp [results, Try.f49, go_sem, hc5]
end Go.Proofs.Ytodifeoficjamaa
/- The small functions of package saga: at, ended, hit, upTo. -/
namespace Go.Proofs.Ytodifeoficjamaa
open Go.RowKit

/-- A call that says v and makes memory alone. -/
def Gives (v : Value) (w : World) (e : Ending) (w' : World) : Prop := e = .returned v ∧ Later w w'
theorem heap_second (w : World) (A B : Obj) : ((w.alloc A).alloc B).heap[w.heap.size + 1]? = some B := by
  have h := heap_alloc_new (w.alloc A) B
  rwa [show (w.alloc A).heap.size = w.heap.size + 1 from by simp] at h
section
variable {w : World}
set_option maxHeartbeats 2000000 in
theorem at_any (s : SagaD) (st step : Int) : Calls Try.prog 20 #[s.val, .int .i64 st, .int .i64 step] w (Gives (s.at_ st step).val w) := by
  unfold SagaD.val SagaD.at_ SagaD.cells
  simp only
  go_enter Try.func20, Try.ntmps20
  go_wp2
  refine bodyPost_ret (results_cell_row Try.results20 _ _ (w.heap.size + 1) 27 _ (0, 0) _ (by rfl) (heap_second _ _ _) Try.underlying27 (by rfl) (by kernel_rfl)) (by rfl) ?_
  exact ⟨rfl, ((Below.refl _ _).alloc (Nat.le_refl _) _).alloc (by simp) _⟩
set_option maxHeartbeats 2000000 in
theorem ended_any (s : SagaD) (st step : Int) : Calls Try.prog 48 #[s.val, .int .i64 st, .int .i64 step] w (Gives (s.ended st step).val w) := by
  unfold SagaD.val SagaD.ended SagaD.cells
  simp only
  go_enter Try.func48, Try.ntmps48
  go_wp2
  refine bodyPost_ret (results_cell_row Try.results48 _ _ (w.heap.size + 1) 27 _ (0, 0) _ (by rfl) (heap_second _ _ _) Try.underlying27 (by rfl) (by kernel_rfl)) (by rfl) ?_
  exact ⟨rfl, ((Below.refl _ _).alloc (Nat.le_refl _) _).alloc (by simp) _⟩
/-- Hits in a block of its own. -/
def HitBox (g : Nat) (x : Hits) (w : World) : Prop := w.heap[g]? = some (.cells x.cells.toArray 25 (0, 0))
theorem HitBox.cells {g : Nat} {x : Hits} (h : HitBox g x w) : w.cell? ⟨g, 0, none⟩ = some (.bool x.a0) ∧ w.cell? ⟨g, 1, none⟩ = some (.bool x.a1) ∧ w.cell? ⟨g, 2, none⟩ = some (.bool x.a2) ∧ w.cell? ⟨g, 3, none⟩ = some (.bool x.a3) ∧
    w.cell? ⟨g, 4, none⟩ = some (.bool x.a4) ∧ w.cell? ⟨g, 5, none⟩ = some (.bool x.a5) ∧ w.cell? ⟨g, 6, none⟩ = some (.bool x.a6) ∧ w.cell? ⟨g, 7, none⟩ = some (.bool x.a7) ∧ ∀ i, w.frozen? ⟨g, i, none⟩ = false :=
  ⟨(cell_of_row w g 0 _ _ _ h).trans rfl, (cell_of_row w g 1 _ _ _ h).trans rfl, (cell_of_row w g 2 _ _ _ h).trans rfl, (cell_of_row w g 3 _ _ _ h).trans rfl, (cell_of_row w g 4 _ _ _ h).trans rfl, (cell_of_row w g 5 _ _ _ h).trans rfl, (cell_of_row w g 6 _ _ _ h).trans rfl, (cell_of_row w g 7 _ _ _ h).trans rfl, fun i => frozen_of_row w g i _ _ h⟩
theorem HitBox.set {g : Nat} {x y : Hits} {i : Nat} {v : Value} (h : HitBox g x w) (hs : y.cells.toArray = x.cells.toArray.setIfInBounds i v) : HitBox g y (w.setCell ⟨g, i, none⟩ v) := by
  unfold HitBox
  rw [hs]
  exact heap_setCell_same w g i _ _ v h
theorem up_next {q : Nat} (h : q < 8) : (upH ((q + 1 : Nat) : Int)).cells.toArray = (upH (q : Int)).cells.toArray.setIfInBounds q (.bool true) := by
  have hc : q = 0 ∨ q = 1 ∨ q = 2 ∨ q = 3 ∨ q = 4 ∨ q = 5 ∨ q = 6 ∨ q = 7 := by omega
  rcases hc with rfl | rfl | rfl | rfl | rfl | rfl | rfl | rfl <;> rfl
theorem up_cell {g q : Nat} {x : Hits} (h : HitBox g x w) (hq : q < 8) : ∃ b, w.cell? ⟨g, q, none⟩ = some (.bool b) := by
  obtain ⟨h0, h1, h2, h3, h4, h5, h6, h7, _⟩ := h.cells
  have hc : q = 0 ∨ q = 1 ∨ q = 2 ∨ q = 3 ∨ q = 4 ∨ q = 5 ∨ q = 6 ∨ q = 7 := by omega
  rcases hc with rfl | rfl | rfl | rfl | rfl | rfl | rfl | rfl
  all_goals first | exact ⟨_, h0⟩ | exact ⟨_, h1⟩ | exact ⟨_, h2⟩ | exact ⟨_, h3⟩ | exact ⟨_, h4⟩ | exact ⟨_, h5⟩ | exact ⟨_, h6⟩ | exact ⟨_, h7⟩
theorem hits_put (x y : Hits) : putAt x.cells.toArray 0 y.cells = y.cells.toArray := by simp [putAt, Hits.cells]
theorem up_neg {k : Int} (h : k ≤ 0) : upH k = upH ((0 : Nat) : Int) := by
  unfold upH
  simp only [Hits.mk.injEq, decide_eq_decide]
  omega
set_option maxHeartbeats 4000000 in
theorem upTo_any (k : Int) (hk : k ≤ 8) : Calls Try.prog 26 #[.int .i64 k] w (Gives (upH k).val w) := by
  have L0 : Hid (∀ o1 o2 : Obj, Later w ((w.alloc o1).alloc o2)) := fun o1 o2 => ((Below.refl _ _).alloc (Nat.le_refl _) _).alloc (by simp) _
  obtain ⟨W0, hW0⟩ : ∃ W0, W0 = (w.alloc (.cells (upH ((0 : Nat) : Int)).cells.toArray 25 (0, 0))).alloc (.cells (upH ((0 : Nat) : Int)).cells.toArray 25 (0, 0)) := ⟨_, rfl⟩
  obtain ⟨g, hg⟩ : ∃ g, g = w.heap.size := ⟨_, rfl⟩
  have B0 : Hid (HitBox g (upH ((0 : Nat) : Int)) W0) := by rw [hW0, hg]; exact (heap_alloc_old _ _ (by simp)).trans (heap_alloc_new _ _)
  have B1 : Hid (HitBox (g + 1) (upH ((0 : Nat) : Int)) W0) := by rw [hW0, hg]; exact heap_second _ _ _
  have L1 : Hid (Later w W0) := by rw [hW0]; exact L0.out _ _
  unfold Hits.cells upH at hW0
  simp only [Int.natCast_zero, Int.lt_irrefl, decide_false, show ¬ ((1:Int) < 0) by decide, show ¬ ((2:Int) < 0) by decide, show ¬ ((3:Int) < 0) by decide, show ¬ ((4:Int) < 0) by decide, show ¬ ((5:Int) < 0) by decide, show ¬ ((6:Int) < 0) by decide, show ¬ ((7:Int) < 0) by decide] at hW0
  have HW := hide hW0.symm
  have HG := hide hg.symm
  clear hW0 L0 hg
  go_enter Try.func26, Try.ntmps26
  go_wp2_with (fail)
  simp only [HW.out, HG.out]
  go_loopw [6] (fun i wr => ∃ q : Nat, i = .int .i64 (q : Int) ∧ ((q : Int) ≤ k ∨ q = 0) ∧ HitBox g (upH ((0 : Nat) : Int)) wr ∧ HitBox (g + 1) (upH (q : Int)) wr ∧ Later w wr) (fun i _ => (k - intOf i).toNat)
  case atStart => exact ⟨0, rfl, .inr rfl, B0.out, B1.out, L1.out⟩
  case round =>
    obtain ⟨q, rfl, hq, hb0, hb1, hl⟩ := hrel
    have HB0 := hide hb0
    have HB1 := hide hb1
    have HL := hide hl
    by_cases hlt : (q : Int) < k
    · have hq8 : q < 8 := by omega
      have HN := hide (hb1.set (up_next hq8))
      have HO : Hid (HitBox g (upH ((0 : Nat) : Int)) (wr.setCell ⟨g + 1, q, none⟩ (.bool true))) := (heap_setCell_other _ _ _ _ (by simp)).trans HB0.out
      have hgl : w.heap.size ≤ g + 1 := by rw [HG.out.symm]; omega
      have HL2 := hide (HL.out.setCell (p := ⟨g + 1, q, none⟩) hgl (.bool true))
      obtain ⟨ov, hov⟩ := up_cell hb1 hq8
      have hf := hb1.cells.2.2.2.2.2.2.2.2 q
      have hlq := hlt
      clear hb0 hb1 hl hgl hlt hq
      go_wp2
      go_roundw
      case rel => exact ⟨q + 1, by go_num, .inl (by omega), HO.out, HN.out, HL2.out⟩
      case measure => simp [intOf]; omega
    · have hu : upH (q : Int) = upH k := by
        rcases hq with hq | rfl
        · rw [show (q : Int) = k from by omega]
        · rw [up_neg (k := k) (by omega)]
      rw [hu] at hb1
      obtain ⟨d0, d1, d2, d3, d4, d5, d6, d7, df⟩ := hb1.cells
      obtain ⟨e0, e1, e2, e3, e4, e5, e6, e7, ef⟩ := hb0.cells
      have hgl : w.heap.size ≤ g := by rw [HG.out.symm]; omega
      clear hb0 hb1 hl hu hq
      go_wp2_with (fail)
      have hfin : (wr.setCells g 0 (upH k).cells).heap[g]? = some (.cells (upH k).cells.toArray 25 (0, 0)) := by
        have h1 := heap_setCells g (upH k).cells 0 wr _ HB0.out
        rwa [hits_put] at h1
      have HLF : Hid (Later w (wr.setCells g 0 (upH k).cells)) := HL.out.grown (grown_setCells g (upH k).cells 0 wr) (Below.size HL.out) (fun k hk => by have := Option.some.inj hk; omega)
      refine bodyPost_ret (results_cell_row Try.results26 _ (wr.setCells g 0 (upH k).cells) g 25 _ (0, 0) _ (by rfl) hfin Try.underlying25 (by rfl) (by kernel_rfl)) (by rfl) ?_
      exact ⟨rfl, HLF.out⟩
end
end Go.Proofs.Ytodifeoficjamaa
/- A saga in a block of its own: read and written whole, or cell by cell. -/
namespace Go.Proofs.Ytodifeoficjamaa
open Go.RowKit

def SBox (T : TypeId) (g : Nat) (s : SagaD) (w : World) : Prop := w.heap[g]? = some (.cells s.cells.toArray T (0, 0))
theorem SagaD.one (s : SagaD) : ∀ u ∈ s.cells, u.oneCell' = true := by
  intro u hu
  simp only [SagaD.cells, List.mem_cons, List.not_mem_nil, or_false] at hu
  rcases hu with rfl | rfl | rfl | rfl | rfl | rfl | rfl | rfl | rfl | rfl | rfl | rfl | rfl <;> rfl
theorem saga_put (x y : SagaD) : putAt x.cells.toArray 0 y.cells = y.cells.toArray := by simp [putAt, SagaD.cells]
section
variable {T : TypeId} {w w' : World} {g : Nat} {s : SagaD}
theorem SBox.lt (h : SBox T g s w) : g < w.heap.size := lt_of_block h
theorem SBox.below (h : SBox T g s w) (hl : Later w w') : SBox T g s w' := (Below.block hl g (lt_of_block h)).trans h
theorem SBox.other (h : SBox T g s w) {r : Option Nat} (hg : w.grownBy w' r) (hr : some g ≠ r) : SBox T g s w' := (hg.block g h.lt hr).trans h
theorem SBox.c0 (h : SBox T g s w) : w.cell? ⟨g, 0, none⟩ = some (.string s.name) := (cell_of_row w g 0 _ _ _ h).trans rfl
theorem SBox.c1 (h : SBox T g s w) : w.cell? ⟨g, 1, none⟩ = some (.slice s.p s.n s.c) := (cell_of_row w g 1 _ _ _ h).trans rfl
theorem SBox.c2 (h : SBox T g s w) : w.cell? ⟨g, 2, none⟩ = some (.int .i64 s.st) := (cell_of_row w g 2 _ _ _ h).trans rfl
theorem SBox.c3 (h : SBox T g s w) : w.cell? ⟨g, 3, none⟩ = some (.int .i64 s.step) := (cell_of_row w g 3 _ _ _ h).trans rfl
theorem SBox.c4 (h : SBox T g s w) : w.cell? ⟨g, 4, none⟩ = some (.int .i64 s.tr) := (cell_of_row w g 4 _ _ _ h).trans rfl
theorem SBox.hit (h : SBox T g s w) : w.cell? ⟨g, 5, none⟩ = some (.bool s.hit.a0) ∧ w.cell? ⟨g, 6, none⟩ = some (.bool s.hit.a1) ∧ w.cell? ⟨g, 7, none⟩ = some (.bool s.hit.a2) ∧ w.cell? ⟨g, 8, none⟩ = some (.bool s.hit.a3) ∧
    w.cell? ⟨g, 9, none⟩ = some (.bool s.hit.a4) ∧ w.cell? ⟨g, 10, none⟩ = some (.bool s.hit.a5) ∧ w.cell? ⟨g, 11, none⟩ = some (.bool s.hit.a6) ∧ w.cell? ⟨g, 12, none⟩ = some (.bool s.hit.a7) :=
  ⟨(cell_of_row w g 5 _ _ _ h).trans rfl, (cell_of_row w g 6 _ _ _ h).trans rfl, (cell_of_row w g 7 _ _ _ h).trans rfl, (cell_of_row w g 8 _ _ _ h).trans rfl, (cell_of_row w g 9 _ _ _ h).trans rfl, (cell_of_row w g 10 _ _ _ h).trans rfl, (cell_of_row w g 11 _ _ _ h).trans rfl, (cell_of_row w g 12 _ _ _ h).trans rfl⟩
theorem SBox.thaw (h : SBox T g s w) (i : Nat) : w.frozen? ⟨g, i, none⟩ = false := frozen_of_row w g i _ _ h
/-- What is hit, as a slice of the array. -/
theorem SBox.bools (h : SBox T g s w) : BoolsAt (fun _ => True) w (.slice (some ⟨g, 5, none⟩) 8 8) s.hit.l := by
  obtain ⟨h0, h1, h2, h3, h4, h5, h6, h7⟩ := h.hit
  refine ⟨rfl, ?_, some ⟨g, 5, none⟩, 8, rfl, Nat.le_refl _, by unfold maxLen; omega, (fun e => by cases e), fun _ => ⟨g, 5, rfl, trivial, h.lt, fun j u hj => ?_⟩⟩
  · intro u hu
    simp only [Hits.l, List.map_cons, List.map_nil, List.mem_cons, List.not_mem_nil, or_false] at hu
    rcases hu with rfl | rfl | rfl | rfl | rfl | rfl | rfl | rfl <;> rfl
  · have hj8 : j < 8 := (List.getElem?_eq_some_iff.1 hj).1
    have hc : j = 0 ∨ j = 1 ∨ j = 2 ∨ j = 3 ∨ j = 4 ∨ j = 5 ∨ j = 6 ∨ j = 7 := by omega
    rcases hc with rfl | rfl | rfl | rfl | rfl | rfl | rfl | rfl
    · obtain rfl : Value.bool s.hit.a0 = u := Option.some.inj hj
      exact h0
    · obtain rfl : Value.bool s.hit.a1 = u := Option.some.inj hj
      exact h1
    · obtain rfl : Value.bool s.hit.a2 = u := Option.some.inj hj
      exact h2
    · obtain rfl : Value.bool s.hit.a3 = u := Option.some.inj hj
      exact h3
    · obtain rfl : Value.bool s.hit.a4 = u := Option.some.inj hj
      exact h4
    · obtain rfl : Value.bool s.hit.a5 = u := Option.some.inj hj
      exact h5
    · obtain rfl : Value.bool s.hit.a6 = u := Option.some.inj hj
      exact h6
    · obtain rfl : Value.bool s.hit.a7 = u := Option.some.inj hj
      exact h7
end
section
variable {ops : Array Oper} {rest : List Oper} {op : Oper} {a : Act} {w : World} {Q : Exit → Act → World → Prop} {T : TypeId} {g : Nat} {s z : SagaD}
theorem wpList_load_saga (hgd : op.guard = none) (x : Operand) (ho : op.op = .load 27 x) (hx : a.eval x = .pointer (some ⟨g, 0, none⟩)) (hg : SBox T g s w)
    (h : wpList Try.prog ops Q rest (a.put op.dst s.val) w) : wpList Try.prog ops Q (op :: rest) a w :=
  wpList_load_box hgd 27 x ho g 0 hx T _ hg 13 _ Try.underlying27 (by rfl) (by kernel_rfl) s.cells (by rfl) (by rfl) h
theorem exec_load_saga (x : Operand) (ho : op.op = .load 27 x) (hx : a.eval x = .pointer (some ⟨g, 0, none⟩)) (hg : SBox T g s w) : (execOp a.eval op).run Try.prog w = .ok (.value s.val) w :=
  exec_load_box 27 x ho g 0 hx T _ hg 13 _ Try.underlying27 (by rfl) (by kernel_rfl) s.cells (by rfl) (by rfl)
theorem exec_load_hits (x : Operand) (ho : op.op = .load 25 x) (hx : a.eval x = .pointer (some ⟨g, 5, none⟩)) (hg : SBox T g s w) : (execOp a.eval op).run Try.prog w = .ok (.value s.hit.val) w :=
  exec_load_box 25 x ho g 5 hx T _ hg 8 _ Try.underlying25 (by rfl) (by kernel_rfl) s.hit.cells (by rfl) (by rfl)
theorem exec_load_sdef (x : Operand) (ho : op.op = .load 24 x) (hx : a.eval x = .pointer (some ⟨g, 0, none⟩)) (hg : SBox T g s w) : (execOp a.eval op).run Try.prog w = .ok (.value (.agg #[.string s.name, .slice s.p s.n s.c])) w :=
  exec_load_box 24 x ho g 0 hx T _ hg 2 _ Try.underlying24 (by rfl) (by kernel_rfl) [.string s.name, .slice s.p s.n s.c] (by rfl) (by rfl)
theorem wpList_store_saga (hgd : op.guard = none) (x y : Operand) (ho : op.op = .store 27 x y) (hx : a.eval x = .pointer (some ⟨g, 0, none⟩)) (hg : SBox T g z w) (hy : a.eval y = s.val)
    (h : ∀ w', SBox T g s w' → w.grownBy w' (some g) → wpList Try.prog ops Q rest (a.put op.dst undef) w') : wpList Try.prog ops Q (op :: rest) a w :=
  wpList_store_box hgd 27 x y ho g 0 s.cells.toArray hx hy T _ hg (by kernel_rfl) (by exact Nat.le_of_ble_eq_true rfl) (by exact s.one) (fun w' hb hg' => h w' (by rw [show s.cells.toArray.toList = s.cells from rfl, saga_put] at hb; exact hb) hg')
theorem wp_store_saga {K : Act → World → Prop} (x y : Operand) (ho : op.op = .store 27 x y) (hx : a.eval x = .pointer (some ⟨g, 0, none⟩)) (hg : SBox T g z w) (hy : a.eval y = s.val)
    (h : ∀ w', SBox T g s w' → w.grownBy w' (some g) → K (a.put op.dst undef) w') : op.wp Try.prog a w K Q :=
  wp_store_box 27 x y ho g 0 s.cells.toArray hx hy T _ hg (by kernel_rfl) (by exact Nat.le_of_ble_eq_true rfl) (by exact s.one) (fun w' hb hg' => h w' (by rw [show s.cells.toArray.toList = s.cells from rfl, saga_put] at hb; exact hb) hg')
end
/-- Two sets of hits are compared. -/
theorem eql_hits (x y : Hits) (w : World) : (binOp .eql 25 x.val y.val).run Try.prog w = .ok (.bool (decide (x = y))) w := by
  obtain ⟨x0, x1, x2, x3, x4, x5, x6, x7⟩ := x
  obtain ⟨y0, y1, y2, y3, y4, y5, y6, y7⟩ := y
  obtain ⟨i, hi, _⟩ := info_parts (show (Try.prog.info? 4).map (fun i => (i.zero, i.size, i.bytes)) = some (some (.bool false), 1, 1) from by kernel_rfl)
  obtain ⟨r, hr, hiff⟩ := run_eqItems_plain (P := Try.prog) w 9998 (e := 4) (by kernel_rfl) (Hits.cells ⟨x0, x1, x2, x3, x4, x5, x6, x7⟩).toArray (Hits.cells ⟨y0, y1, y2, y3, y4, y5, y6, y7⟩).toArray (D := 1) (D' := 1) (List.range 8)
    [[.bool x0], [.bool x1], [.bool x2], [.bool x3], [.bool x4], [.bool x5], [.bool x6], [.bool x7]] [[.bool y0], [.bool y1], [.bool y2], [.bool y3], [.bool y4], [.bool y5], [.bool y6], [.bool y7]] (by kernel_rfl) (by kernel_rfl)
  have e : r = decide ((⟨x0, x1, x2, x3, x4, x5, x6, x7⟩ : Hits) = ⟨y0, y1, y2, y3, y4, y5, y6, y7⟩) := by
    rw [Bool.eq_iff_iff, hiff]
    simp
  rw [run_eql_struct, show (10000 : Nat) = 9999 + 1 from rfl, run_equalIn_array w 9999 _ _ Try.underlying25 hi, show (9999 : Nat) = 9998 + 1 from rfl, hr, e]
  rfl
end Go.Proofs.Ytodifeoficjamaa
/- A step is hit, or not any more. -/
namespace Go.Proofs.Ytodifeoficjamaa
open Go.RowKit
section
variable {w : World}
set_option maxHeartbeats 8000000 in
theorem hit_any (s : SagaD) (b : Bool) (h1 : 1 ≤ s.step) (h8 : s.step ≤ 8) : Calls Try.prog 34 #[s.val, .bool b] w (Gives (s.hitN b).val w) := by
  unfold SagaD.val SagaD.hitN SagaD.cells
  obtain ⟨nm, p, n, c, st, step, tr, ⟨a0, a1, a2, a3, a4, a5, a6, a7⟩⟩ := s
  simp only at h1 h8 ⊢
  have hc : step = 1 ∨ step = 2 ∨ step = 3 ∨ step = 4 ∨ step = 5 ∨ step = 6 ∨ step = 7 ∨ step = 8 := by omega
  clear h1 h8
  rcases hc with rfl | rfl | rfl | rfl | rfl | rfl | rfl | rfl
  all_goals
    go_enter Try.func34, Try.ntmps34
    go_wp2
    refine bodyPost_ret (results_cell_row Try.results34 _ _ (w.heap.size + 1) 27 _ (0, 0) _ (by rfl) (heap_second _ _ _) Try.underlying27 (by rfl) (by kernel_rfl)) (by rfl) ?_
    exact ⟨rfl, ((Below.refl _ _).alloc (Nat.le_refl _) _).alloc (by simp) _⟩

end
end Go.Proofs.Ytodifeoficjamaa
/- slices.Clone at steps and operations. -/
namespace Go.Proofs.Ytodifeoficjamaa.Sd
open Go.RowKit

theorem Try.infoStep : (Try.prog.info? 56).map (fun i => (i.zero, i.size, i.bytes)) = some (some (.agg #[.string ⟨#[]⟩, .int .i64 0, .int .i64 0, .int .i64 0, .bool false, .bool false]), 6, 48) := by kernel_rfl
/-- What Clone hands back: a slice of the call's own, that holds the same cells. -/
def Cloned (E k : Nat) (n : Nat) (xs : List Value) (w : World) (e : Ending) (w' : World) : Prop :=
  ∃ v, e = .returned v ∧ w'.ownsRow w.heap.size E k v n xs ∧ Below w.heap.size w w'

set_option maxHeartbeats 1000000 in
set_option maxRecDepth 100000 in
theorem clone_steps (F : Nat → Prop) (v : Value) (n : Nat) (xs : List Value) (w : World) (h : FlatAt F w 6 v n xs) (hn : n ≤ 1000000) :
    Calls Try.prog 40 #[v] w (Cloned 56 6 n xs w) := by
  obtain ⟨i0, hi, hz0, hz1, hz2⟩ := info_parts Try.infoStep
  obtain ⟨A, c, rfl, h1, h2, h3⟩ := h.shape
  have H := hide h
  rcases A with _ | a
  · have hc := h3 rfl
    subst hc
    obtain rfl : n = 0 := by omega
    have hxs : xs = [] := List.eq_nil_of_length_eq_zero (by have := h.len; simpa using this)
    subst hxs
    have hq := fun w => Lib.run_eql_slice_nil (P := Try.prog) w 22 _ none 0 0 0 0 Try.underlying22
    clear h h3
    go_enter Try.func40, Try.ntmps40
    go_wp2
    go_ret
    exact ⟨_, rfl, World.ownsRow_nil _ _ _ _, Below.refl _ _⟩
  · have hq := fun w => Lib.run_eql_slice_nil (P := Try.prog) w 22 _ (some a) n c 0 0 Try.underlying22
    clear h h3
    go_enter Try.func40, Try.ntmps40
    go_wp2_with (at_builtin; refine wpList_append_flat _ rfl _ _ 22 rfl w.heap.size 56 i0 _ 6 48 Try.underlying22 hi hz0 hz1 hz2 rfl (by decide) _ 0 [] rfl (ownsRow_lit w _ 6) F _ n c xs rfl (H.out.kept (Kept.of_below ((Below.refl _ _).alloc (Nat.le_refl _) _) F)) (by unfold maxLen; omega) (by omega) (by simp) ?_; intro v' w1 ho hg)
    go_ret
    exact ⟨_, rfl, by simpa using ho, ((Below.refl _ _).alloc (Nat.le_refl _) _).trans (later_own (ownsRow_lit w _ 6) (by simp) hg)⟩

end Go.Proofs.Ytodifeoficjamaa.Sd
/- A step looked at; a definition looked at. -/
namespace Go.Proofs.Ytodifeoficjamaa
open Go.RowKit

section
variable {w : World}
theorem err_bad {done : List StepD} {s : StepD} (h : stepBad s = true) : stepErr done s = 2 := by unfold stepErr; rw [if_pos h]
theorem err_late {done : List StepD} {s : StepD} (h : stepBad s = false) (h2 : (namedB done s || (pivotB done && s.pivot)) = true) : stepErr done s = 9 := by unfold stepErr; rw [if_neg (by simp [h]), if_pos h2]
theorem err_undo {done : List StepD} {s : StepD} (h : stepBad s = false) (h2 : (namedB done s || (pivotB done && s.pivot)) = false) (h3 : (s.undo == (pivotB done || s.pivot)) = true) : stepErr done s = 10 := by unfold stepErr; rw [if_neg (by simp [h]), if_neg (by simp [h2]), if_pos h3]
theorem err_none {done : List StepD} {s : StepD} (h : stepBad s = false) (h2 : (namedB done s || (pivotB done && s.pivot)) = false) (h3 : (s.undo == (pivotB done || s.pivot)) = false) : stepErr done s = 0 := by unfold stepErr; rw [if_neg (by simp [h]), if_neg (by simp [h2]), if_neg (by simp [h3])]

set_option maxHeartbeats 8000000 in
set_option maxRecDepth 100000 in
theorem checkStep_any {F : Nat → Prop} {s : StepD} {done : List StepD} {A : Option Addr} {n cap : Nat} (h : StepsAt F w (.slice A n cap) done) (hn : n = done.length) (hs : n ≤ 1000) :
    Calls Try.prog 39 #[.agg s.cells.toArray, .slice A n cap] w fun e w' => e = .returned (.int .i64 ((stepErr done s : Nat) : Int)) ∧ Later w w' := by
  obtain ⟨E, hE⟩ : ∃ E, stepErr done s = E := ⟨_, rfl⟩
  rw [hE]
  have HE := hide hE
  obtain ⟨W1, hW1⟩ : ∃ W1, W1 = w.alloc (.cells s.cells.toArray 56 (0, 0)) := ⟨_, rfl⟩
  obtain ⟨x, hx⟩ : ∃ x, x = w.heap.size := ⟨_, rfl⟩
  have B1 : Hid (StepBox x s W1) := by rw [hW1, hx]; exact heap_alloc_new w _
  have L1 : Hid (Later w W1) := by rw [hW1]; exact (Below.refl _ _).alloc (Nat.le_refl _) _
  have C1 := hide (contains_ask (w := W1) (v := ⟨53, #[.pointer (some ⟨x, 0, none⟩)]⟩) (f := fun a => decide (a.name = s.name)) (StepsAt.kept h (Kept.of_below L1.out _)) hn ⟨enters_named1, fun W t hl => named1_any W t s x (by
    have h2 : StepBox x s W := (Below.block hl x (lt_of_block B1.out)).trans B1.out
    exact h2.cells.1)⟩ hs)
  have H := hide h
  have HN := hide hn
  unfold StepD.cells at hW1
  obtain ⟨nm, hnm⟩ : ∃ nm, namedB done s = nm := ⟨_, rfl⟩
  obtain ⟨bh, hbh⟩ : ∃ bh, pivotB done = bh := ⟨_, rfl⟩
  have hC : (done.any fun a => decide (a.name = s.name)) = nm := hnm
  have hP : (done.any fun a => a.pivot) = bh := hbh
  rw [hC] at C1
  have HNM := hide hnm
  have HBH := hide hbh
  have HP := hide hP
  have HW1 := hide hW1.symm
  have HX := hide hx.symm
  simp only [SetV.val] at C1
  unfold StepD.cells
  clear h hn hW1 hx hC hP hnm hbh hE
  go_enter Try.func39, Try.ntmps39
  go_wp2_with (fail)
  have hw := HW1.out
  have hxx := HX.out
  simp only [hw, hxx]
  clear hw hxx
  refine C1.out.mono ?_
  rintro e w2 ⟨rfl, hl2⟩
  have L2 := hide (L1.out.trans hl2)
  have B2 : Hid (StepBox x s w2) := (Below.block hl2 x (lt_of_block B1.out)).trans B1.out
  have C2 := hide (contains_ask (w := w2) (v := ⟨54, #[]⟩) (f := fun a => a.pivot) (StepsAt.kept H.out (Kept.of_below L2.out _)) HN.out ⟨enters_pivot2, fun W t _ => pivot2_any W t⟩ hs)
  rw [HP.out] at C2
  simp only [SetV.val] at C2
  clear C1 hl2 L1 B1 HP
  go_wp2_with (fail)
  refine C2.out.mono ?_
  rintro e w3 ⟨rfl, hl3⟩
  have L3 := hide (L2.out.trans hl3)
  have B3 : Hid (StepBox x s w3) := (Below.block hl3 x (lt_of_block B2.out)).trans B2.out
  obtain ⟨b0, b1, b2, b3, b4, b5, bf⟩ := B3.out.cells
  have CN := hide (name_any (w := w3) s.name)
  clear C2 hl3 L2 B2 bf b1 b2 b3 b4 b5
  go_wp2_with (fail)
  refine CN.out.mono ?_
  rintro e w4 ⟨rfl, hl4⟩
  have L4 := hide (L3.out.trans hl4)
  have B4 : Hid (StepBox x s w4) := (Below.block hl4 x (lt_of_block B3.out)).trans B3.out
  obtain ⟨b0', b1, b2, b3, b4, b5, bf⟩ := B4.out.cells
  obtain ⟨q0, hq0⟩ : ∃ q, nameF s.name.data.toList = q := ⟨_, rfl⟩
  obtain ⟨q1, hq1⟩ : ∃ q, outB s.stub 1 4 = q := ⟨_, rfl⟩
  obtain ⟨q2, hq2⟩ : ∃ q, outB s.retry 0 9 = q := ⟨_, rfl⟩
  obtain ⟨q3, hq3⟩ : ∃ q, outB s.wait 1 99 = q := ⟨_, rfl⟩
  have o1 := fun w => outside_any (w := w) s.stub 1 4
  have o2 := fun w => outside_any (w := w) s.retry 0 9
  have o3 := fun w => outside_any (w := w) s.wait 1 99
  rw [hq1] at o1
  rw [hq2] at o2
  rw [hq3] at o3
  have O1 := hide o1
  have O2 := hide o2
  have O3 := hide o3
  have HBAD : Hid (stepBad s = (!q0 || (q1 || (q2 || q3)))) := by show _ = _; unfold stepBad; rw [hq0, hq1, hq2, hq3]
  rw [hq0]
  clear CN hl4 L3 B3 bf b0 o1 o2 o3 hq0 hq1 hq2 hq3
  cases q0 with
  | false =>
    go_wp2
    go_ret
    exact ⟨ret_int (by rw [← HE.out, err_bad HBAD.out]; rfl), L4.out⟩
  | true =>
    cases q1 with
    | true =>
      go_wp2_with (fail)
      refine (O1.out _).mono ?_
      rintro e w5 ⟨rfl, hq⟩
      obtain rfl := hq.symm
      go_wp2
      go_ret
      exact ⟨ret_int (by rw [← HE.out, err_bad HBAD.out]; rfl), L4.out⟩
    | false =>
      cases q2 with
      | true =>
        go_wp2_with (fail)
        refine (O1.out _).mono ?_
        rintro e w5 ⟨rfl, hq⟩
        obtain rfl := hq.symm
        go_wp2_with (fail)
        refine (O2.out _).mono ?_
        rintro e w6 ⟨rfl, hq⟩
        obtain rfl := hq.symm
        go_wp2
        go_ret
        exact ⟨ret_int (by rw [← HE.out, err_bad HBAD.out]; rfl), L4.out⟩
      | false =>
        go_wp2_with (fail)
        refine (O1.out _).mono ?_
        rintro e w5 ⟨rfl, hq⟩
        obtain rfl := hq.symm
        go_wp2_with (fail)
        refine (O2.out _).mono ?_
        rintro e w6 ⟨rfl, hq⟩
        obtain rfl := hq.symm
        go_wp2_with (fail)
        refine (O3.out _).mono ?_
        rintro e w7 ⟨rfl, hq⟩
        obtain rfl := hq.symm
        clear O1 O2 O3
        cases q3 with
        | true =>
          go_wp2
          go_ret
          exact ⟨ret_int (by rw [← HE.out, err_bad HBAD.out]; rfl), L4.out⟩
        | false =>
          have HB0 : Hid (stepBad s = false) := HBAD.out
          obtain ⟨un, hun⟩ : ∃ un, s.undo = un := ⟨_, rfl⟩
          obtain ⟨pv, hpv⟩ : ∃ pv, s.pivot = pv := ⟨_, rfl⟩
          rw [hun] at b4
          rw [hpv] at b5
          have HUN := hide hun
          have HPV := hide hpv
          clear hun hpv HBAD
          cases nm with
          | true =>
            go_wp2
            go_ret
            exact ⟨ret_int (by rw [← HE.out, err_late HB0.out (by rw [HNM.out]; rfl)]; rfl), L4.out⟩
          | false =>
            cases bh <;> cases pv <;> cases un <;> (
              go_wp2
              go_ret
              refine ⟨ret_int ?_, L4.out⟩
              rw [← HE.out]
              first
                | (rw [err_late HB0.out (by rw [HNM.out, HBH.out, HPV.out]; rfl)]; rfl)
                | (rw [err_undo HB0.out (by rw [HNM.out, HBH.out, HPV.out]; rfl) (by rw [HBH.out, HPV.out, HUN.out]; rfl)]; rfl)
                | (rw [err_none HB0.out (by rw [HNM.out, HBH.out, HPV.out]; rfl) (by rw [HBH.out, HPV.out, HUN.out]; rfl)]; rfl))
end
end Go.Proofs.Ytodifeoficjamaa
/- A definition looked at. -/
namespace Go.Proofs.Ytodifeoficjamaa
open Go.RowKit

theorem steps_to {k n c : Nat} (hk : k ≤ n) (hn : n ≤ c) (A : Option Addr) (w : World) :
    (Instr.slice 22 (.slice A n c) none (some (.int .i64 (k : Int))) none).run Try.prog w = .ok (.slice A k c) w := by
  have ht : Try.prog.underlying 22 = some (.slice (Try.prog.elem 22)) := by kernel_rfl
  obtain ⟨i0, hi, hz0, hz1, hz2⟩ := info_parts (show (Try.prog.info? (Try.prog.elem 22)).map (fun i => (i.zero, i.size, i.bytes)) = some (some (.agg #[.string ⟨#[]⟩, .int .i64 0, .int .i64 0, .int .i64 0, .bool false, .bool false]), 6, 48) from by kernel_rfl)
  have h1 := run_slice_h (P := Try.prog) w 22 A n c ht .i64 (k : Int) (by omega) (by omega)
  rw [h1]
  have hs : (sizeOf (Try.prog.elem 22)).run Try.prog w = .ok 6 w := by simp [sizeOf, typeInfo, hi, hz1]
  rw [hs]
  simp only [Result.andThen, sliced, Int.toNat_natCast, Nat.sub_zero]
  rcases A with _ | a
  · simp
  · simp [Addr.add]
theorem exec_to {op : Oper} {a : Act} {w : World} (x z : Operand) (ho : op.op = .slice 22 x none (some z) none) (A : Option Addr) (n c k : Nat) (hx : a.eval x = .slice A n c) (hz : a.eval z = .int .i64 (k : Int)) (hk : k ≤ n) (hn : n ≤ c) :
    (execOp a.eval op).run Try.prog w = .ok (.value (.slice A k c)) w := by
  have ht : Try.prog.underlying 22 = some (.slice (Try.prog.elem 22)) := by kernel_rfl
  have h1 := steps_to hk hn A w
  unfold execOp
  simp only [ho, hx, hz, Option.map_some, Option.map_none, Sem.run_bind, Sem.run_pure]
  rw [run_sliceAt_slice _ _ _ _ _ _ ht, h1]
  rfl
theorem steps_take {F : Nat → Prop} {w : World} {A : Option Addr} {n c k : Nat} {l : List StepD} (h : StepsAt F w (.slice A n c) l) (hn : n = l.length) (hk : k ≤ n) : StepsAt F w (.slice A k c) (l.take k) := by
  subst hn
  obtain ⟨h1, h2, A', c', hv, h3, h4, h5, h6⟩ := h
  obtain ⟨rfl, rfl⟩ : A = A' ∧ c = c' := by injection hv with e1 _ e3; exact ⟨e1, e3⟩
  have hl : (l.take k).length = k := by simp; omega
  have hf := Sd.flat_take StepD.cells 6 l k (fun s _ => s.len)
  unfold StepsAt
  rw [hl, hf]
  refine ⟨?_, fun u hu => h2 u (List.mem_of_mem_take hu), A, c, rfl, by omega, h4, h5, fun h0 => ?_⟩
  · rw [List.length_take, h1]
    have := Nat.mul_le_mul_right 6 hk
    omega
  · obtain ⟨b, off, hA, hF, hb, hr⟩ := h6 (by omega)
    refine ⟨b, off, hA, hF, hb, fun j u hj => hr j u ?_⟩
    rw [List.getElem?_take_of_lt (by have := (List.getElem?_eq_some_iff.1 hj).1; rw [List.length_take] at this; omega)] at hj
    exact hj

section
variable {w : World}
set_option maxHeartbeats 8000000 in
set_option maxRecDepth 100000 in
theorem check_any {F : Nat → Prop} {name : ByteArray} {v : Value} {steps : List StepD} (h : StepsAt F w v steps) :
    Calls Try.prog 19 #[.agg #[.string name, v]] w fun e w' => e = .returned (.tuple #[.int .i64 (((checkF name steps).1 : Nat) : Int), .int .i64 (((checkF name steps).2 : Nat) : Int)]) ∧ Later w w' := by
  obtain ⟨A, cap, rfl, hc1, hc2, _⟩ := FlatAt.shape h
  obtain ⟨n, hn⟩ : ∃ n, steps.length = n := ⟨_, rfl⟩
  rw [hn] at h hc1 ⊢
  obtain ⟨c1, hc1'⟩ : ∃ c, (checkF name steps).1 = c := ⟨_, rfl⟩
  obtain ⟨c2, hc2'⟩ : ∃ c, (checkF name steps).2 = c := ⟨_, rfl⟩
  rw [hc1', hc2']
  have HC1 := hide hc1'
  have HC2 := hide hc2'
  obtain ⟨W1, hW1⟩ : ∃ W1, W1 = w.alloc (.cells #[.string name, .slice A n cap] 24 (0, 0)) := ⟨_, rfl⟩
  obtain ⟨y, hy⟩ : ∃ y, y = w.heap.size := ⟨_, rfl⟩
  have B1 : Hid (W1.heap[y]? = some (.cells #[.string name, .slice A n cap] 24 (0, 0))) := by rw [hW1, hy]; exact heap_alloc_new w _
  have L1 : Hid (Later w W1) := by rw [hW1]; exact (Below.refl _ _).alloc (Nat.le_refl _) _
  have CN := hide (name_any (w := W1) name)
  obtain ⟨q0, hq0⟩ : ∃ q, nameF name.data.toList = q := ⟨_, rfl⟩
  rw [hq0] at CN
  obtain ⟨q1, hq1⟩ : ∃ q, outB (n : Int) 1 8 = q := ⟨_, rfl⟩
  have o1 := fun w => outside_any (w := w) (n : Int) 1 8
  rw [hq1] at o1
  have O1 := hide o1
  have hbad : (!nameF name.data.toList || (decide (steps.length < 1) || decide (8 < steps.length))) = (!q0 || q1) := by
    rw [hq0, ← hq1, hn]
    congr 1
    unfold outB
    congr 1
    · rw [decide_eq_decide]; omega
    · rw [decide_eq_decide]; omega
  have HBAD := hide hbad
  have HQ1 := hide hq1
  have H := hide h
  have HN := hide hn
  have HW1 := hide hW1.symm
  have HY := hide hy.symm
  clear h hn hW1 hy hc1' hc2' hq0 hq1 hbad o1
  go_enter Try.func19, Try.ntmps19
  go_wp2_with (fail)
  have hw := HW1.out
  have hyy := HY.out
  simp only [hw, hyy]
  clear hw hyy
  have c0 : W1.cell? ⟨y, 0, none⟩ = some (.string name) := (cell_of_row W1 y 0 _ _ _ B1.out).trans rfl
  have hy1 : y < W1.heap.size := lt_of_block B1.out
  go_wp2_with (fail)
  refine CN.out.mono ?_
  rintro e w2 ⟨rfl, hl2⟩
  have L2 := hide (L1.out.trans hl2)
  have B2 : Hid (w2.heap[y]? = some (.cells #[.string name, .slice A n cap] 24 (0, 0))) := (Below.block hl2 y (lt_of_block B1.out)).trans B1.out
  have c1' : w2.cell? ⟨y, 1, none⟩ = some (.slice A n cap) := (cell_of_row w2 y 1 _ _ _ B2.out).trans rfl
  have hy2 : y < w2.heap.size := lt_of_block B2.out
  clear CN hl2 L1 c0 hy1
  cases q0 with
  | false =>
    have HF : Hid (checkF name steps = (0, 2)) := by show _ = _; unfold checkF; rw [HBAD.out]; rfl
    have e1 : c1 = 0 := by rw [← HC1.out, HF.out]
    have e2 : c2 = 2 := by rw [← HC2.out, HF.out]
    have E1 := hide e1
    have E2 := hide e2
    clear e1 e2
    go_wp2
    go_ret2
    exact ⟨by rw [E1.out, E2.out]; rfl, L2.out⟩
  | true =>
    go_wp2_with (fail)
    refine (O1.out _).mono ?_
    rintro e w3 ⟨rfl, hq⟩
    obtain rfl := hq.symm
    clear O1
    cases q1 with
    | true =>
      have HF : Hid (checkF name steps = (0, 2)) := by show _ = _; unfold checkF; rw [HBAD.out]; rfl
      have e1 : c1 = 0 := by rw [← HC1.out, HF.out]
      have e2 : c2 = 2 := by rw [← HC2.out, HF.out]
      have E1 := hide e1
      have E2 := hide e2
      clear e1 e2
      go_wp2
      go_ret2
      exact ⟨by rw [E1.out, E2.out]; rfl, L2.out⟩
    | false =>
      have HF : Hid (checkF name steps = firstBad (steps.take 0) (steps.drop 0)) := by show _ = _; unfold checkF; rw [HBAD.out]; rfl
      have hn8 : n ≤ 8 := by
        have := HQ1.out
        simp only [outB, Bool.or_eq_false_iff, decide_eq_false_iff_not] at this
        omega
      clear HBAD HQ1
      go_wp2_with (fail)
      go_loopw [20] (fun v wr => ∃ i : Nat, v = .int .i64 (i : Int) ∧ i ≤ n ∧ checkF name steps = firstBad (steps.take i) (steps.drop i) ∧ Later w2 wr) (fun v _ => n - (intOf v).toNat)
      case atStart => exact ⟨0, rfl, by omega, HF.out, Later.refl _⟩
      case round =>
        obtain ⟨i, rfl, hi, hsum, hlat⟩ := hrel
        have HS := hide hsum
        have HL := hide hlat
        have BR : Hid (wr.heap[y]? = some (.cells #[.string name, .slice A n cap] 24 (0, 0))) := (Below.block hlat y (lt_of_block B2.out)).trans B2.out
        clear hsum hlat
        by_cases hlt : i < n
        · have HR := hide (StepsAt.kept H.out (Kept.of_below (L2.out.trans HL.out) F))
          obtain ⟨s, b, off, c', hs', hvv, _, _, _, hr⟩ := StepsAt.at_ HR.out (i := i) (by rw [HN.out]; exact hlt)
          rw [HN.out] at hvv
          obtain ⟨rfl, rfl⟩ : A = some ⟨b, off, none⟩ ∧ cap = c' := by injection hvv with e1 _ e3; exact ⟨e1, e3⟩
          obtain ⟨r0, r1, r2, r3, r4, r5⟩ := range_step hr
          have HSI := hide hs'
          obtain ⟨W5, hW5⟩ : ∃ W5, W5 = wr.alloc (.cells s.cells.toArray 56 (0, 0)) := ⟨_, rfl⟩
          obtain ⟨x, hx⟩ : ∃ x, x = wr.heap.size := ⟨_, rfl⟩
          have B5 : Hid (StepBox x s W5) := by rw [hW5, hx]; exact heap_alloc_new wr _
          have L5 : Hid (Later wr W5) := by rw [hW5]; exact (Below.refl _ _).alloc (Nat.le_refl _) _
          have BR5 : Hid (W5.heap[y]? = some (.cells #[.string name, .slice (some ⟨b, off, none⟩) n cap] 24 (0, 0))) := (Below.block L5.out y (lt_of_block BR.out)).trans BR.out
          have CS := hide (checkStep_any (w := W5.drew) (s := s) (done := steps.take i) (steps_take (StepsAt.kept HR.out (Kept.of_below (L5.out.trans (Later.drew W5)) F)) HN.out.symm (by omega : i ≤ n)) (by rw [List.length_take, HN.out]; omega) (by omega))
          obtain ⟨E, hE⟩ : ∃ E, stepErr (steps.take i) s = E := ⟨_, rfl⟩
          rw [hE] at CS
          have HE := hide hE
          have d1 : W5.cell? ⟨y, 1, none⟩ = some (.slice (some ⟨b, off, none⟩) n cap) := (cell_of_row W5 y 1 _ _ _ BR5.out).trans rfl
          have hy5 : y < W5.heap.size := lt_of_block BR5.out
          unfold StepD.cells at hW5
          have HW5 := hide hW5.symm
          have HX := hide hx.symm
          clear hs' hvv hr hW5 hx hE
          have cR : wr.cell? ⟨y, 1, none⟩ = some (.slice (some ⟨b, off, none⟩) n cap) := (cell_of_row wr y 1 _ _ _ BR.out).trans rfl
          go_wp2_with (fail)
          have hw := HW5.out
          have hxx := HX.out
          simp only [hw, hxx]
          clear hw hxx r0 r1 r2 r3 r4 r5
          refine wp_region_L (by kernel_rfl) ?_
          refine wpAnyL_take (i := 0) (d := some 25) (v := .agg s.cells.toArray) rfl rfl (by kernel_rfl) (by kernel_rfl) (by kernel_rfl) (fun _ _ _ h => h) (by rfl) ?yab0 ?_
          case yab0 => (intro w' hw'; exact exec_load_box 56 _ (by rfl) x 0 (by rfl) 56 _ ((Below.block ((Later.drew _).trans hw') x (lt_of_block B5.out)).trans B5.out) 6 _ Try.underlying56 (by rfl) (by kernel_rfl) s.cells (by rfl) (by rfl))
          simp only [Act.put]; try simp only [List.setIfInBounds_toArray]; try simp only [List.set_cons_zero, List.set_cons_succ]
          refine wpAnyL_take (i := 1) (d := some 26) (v := ?vab1) rfl rfl (by kernel_rfl) (by kernel_rfl) (by kernel_rfl) (fun _ _ _ h => h) (by rfl) ?yab1 ?_
          case yab1 => (intro w' hw'; go_simp; try (with_reducible rfl))
          simp only [Act.put]; try simp only [List.setIfInBounds_toArray]; try simp only [List.set_cons_zero, List.set_cons_succ]
          refine wpAnyL_take (i := 2) (d := some 27) (v := .slice (some ⟨b, off, none⟩) n cap) rfl rfl (by kernel_rfl) (by kernel_rfl) (by kernel_rfl) (fun _ _ _ h => h) (by rfl) ?yab2 ?_
          case yab2 => (intro w' hw'; have y := later_cell ((Later.drew _).trans hw') d1; go_simp)
          simp only [Act.put]; try simp only [List.setIfInBounds_toArray]; try simp only [List.set_cons_zero, List.set_cons_succ]
          refine wpAnyL_take (i := 3) (d := some 28) (v := ?vab3) rfl rfl (by kernel_rfl) (by kernel_rfl) (by kernel_rfl) (fun _ _ _ h => h) (by rfl) ?yab3 ?_
          case yab3 => (intro w' hw'; go_simp; try (with_reducible rfl))
          simp only [Act.put]; try simp only [List.setIfInBounds_toArray]; try simp only [List.set_cons_zero, List.set_cons_succ]
          refine wpAnyL_take (i := 4) (d := some 29) (v := .slice (some ⟨b, off, none⟩) i cap) rfl rfl (by kernel_rfl) (by kernel_rfl) (by kernel_rfl) (fun _ _ _ h => h) (by rfl) ?yab4 ?_
          case yab4 => (intro w' hw'; exact exec_to _ _ (by rfl) (some ⟨b, off, none⟩) n cap i (by rfl) (by rfl) (by omega) hc1)
          simp only [Act.put]; try simp only [List.setIfInBounds_toArray]; try simp only [List.set_cons_zero, List.set_cons_succ]
          refine wpAnyL_only (i := 5) rfl (by kernel_rfl) (by rfl) fun K hK => ?_
          go_simp
          refine CS.out.mono ?_
          rintro e w6 ⟨rfl, hl6⟩
          have HL6 := hide (HL.out.trans (L5.out.trans ((Later.drew W5).trans hl6)))
          refine hK.out _ _ hl6 ?_
          clear hl6 CS
          clear hK K
          try (simp only [Act.put]; try simp only [List.setIfInBounds_toArray]; try simp only [List.set_cons_zero, List.set_cons_succ])
          refine wpAnyL_take (i := 6) (d := some 6) (v := ?vab6) rfl rfl (by kernel_rfl) (by kernel_rfl) (by kernel_rfl) (fun _ _ _ h => h) (by rfl) ?yab6 ?_
          case yab6 => (intro w' hw'; go_simp; try (with_reducible rfl))
          simp only [Act.put]; try simp only [List.setIfInBounds_toArray]; try simp only [List.set_cons_zero, List.set_cons_succ]
          refine wpAnyL_done (by kernel_rfl) ?_ _
          by_cases hE0 : E = 0
          · have hb : ((E : Int) != 0) = false := by rw [hE0]; rfl
            have HE0 := hide hE0
            clear hE0
            go_wp2_with (fail)
            go_roundw
            case rel =>
              refine ⟨i + 1, by go_num, by omega, ?_, HL6.out⟩
              rw [HS.out, firstBad_at HSI.out, HE.out, if_pos HE0.out]
            case measure => simp [intOf]; omega
          · have hb : ((E : Int) != 0) = true := by simp; omega
            have hres : checkF name steps = (i + 1, E) := by rw [HS.out, firstBad_at HSI.out, HE.out, if_neg hE0]
            have e1 : c1 = i + 1 := by rw [← HC1.out, hres]
            have e2 : c2 = E := by rw [← HC2.out, hres]
            have E1 := hide e1
            have E2 := hide e2
            clear hE0 hres e1 e2
            go_wp2_with (fail)
            go_ret2
            exact ⟨by rw [E1.out, E2.out]; rfl, L2.out.trans HL6.out⟩
        · have hie : i = n := by omega
          have hres : checkF name steps = (0, 0) := by rw [HS.out, hie, ← HN.out, firstBad_end]
          have e1 : c1 = 0 := by rw [← HC1.out, hres]
          have e2 : c2 = 0 := by rw [← HC2.out, hres]
          have E1 := hide e1
          have E2 := hide e2
          clear hres e1 e2 hie
          go_wp2_with (fail)
          go_ret2
          exact ⟨by rw [E1.out, E2.out]; rfl, L2.out.trans HL.out⟩
end
end Go.Proofs.Ytodifeoficjamaa
/- The document's kinds of bytes, and its names. -/
namespace Go.Proofs.Ytodifeoficjamaa
open Go.RowKit

section
variable {w : World}
theorem refSmall_any (b : Nat) : Calls Try.prog 55 #[.int .u8 (b : Int)] w fun e w' => e = .returned (.bool (smallB b)) ∧ w' = w := by
  unfold smallB
  go_enter Try.func55, Try.ntmps55
  by_cases h1 : 97 ≤ b
  · by_cases h2 : b ≤ 122
    · have e1 : (97 : Int) ≤ (b : Int) := by omega
      have e2 : (b : Int) ≤ 122 := by omega
      go_wp2
      go_ret
      exact ⟨ret_bool (by simp [h1, h2]), rfl⟩
    · have e1 : (97 : Int) ≤ (b : Int) := by omega
      have e2 : ¬ (b : Int) ≤ 122 := by omega
      go_wp2
      go_ret
      exact ⟨ret_bool (by simp), rfl⟩
  · have e1 : ¬ (97 : Int) ≤ (b : Int) := by omega
    go_wp2
    go_ret
    exact ⟨ret_bool (by simp), rfl⟩
theorem refDigit_any (b : Nat) : Calls Try.prog 66 #[.int .u8 (b : Int)] w fun e w' => e = .returned (.bool (digitB b)) ∧ w' = w := by
  unfold digitB
  go_enter Try.func66, Try.ntmps66
  by_cases h1 : 48 ≤ b
  · by_cases h2 : b ≤ 57
    · have e1 : (48 : Int) ≤ (b : Int) := by omega
      have e2 : (b : Int) ≤ 57 := by omega
      go_wp2
      go_ret
      exact ⟨ret_bool (by simp [h1, h2]), rfl⟩
    · have e1 : (48 : Int) ≤ (b : Int) := by omega
      have e2 : ¬ (b : Int) ≤ 57 := by omega
      go_wp2
      go_ret
      exact ⟨ret_bool (by simp), rfl⟩
  · have e1 : ¬ (48 : Int) ≤ (b : Int) := by omega
    go_wp2
    go_ret
    exact ⟨ret_bool (by simp), rfl⟩
set_option maxHeartbeats 1000000 in
theorem refPart_any (b : Nat) : Calls Try.prog 56 #[.int .u8 (b : Int)] w fun e w' => e = .returned (.bool (partB b)) ∧ w' = w := by
  unfold partB
  have CS := hide (refSmall_any (w := w) b)
  have CD := hide (refDigit_any (w := w) b)
  obtain ⟨p, hp⟩ : ∃ p, smallB b = p := ⟨_, rfl⟩
  obtain ⟨q, hq⟩ : ∃ q, digitB b = q := ⟨_, rfl⟩
  rw [hp] at CS ⊢
  rw [hq] at CD ⊢
  clear hp hq
  have e45 : (b == 45) = ((b : Int) == 45) := by rw [Bool.eq_iff_iff, beq_iff_eq, beq_iff_eq]; omega
  have e95 : (b == 95) = ((b : Int) == 95) := by rw [Bool.eq_iff_iff, beq_iff_eq, beq_iff_eq]; omega
  rw [e45, e95]
  clear e45 e95
  go_enter Try.func56, Try.ntmps56
  go_wp2_with (fail)
  refine CS.out.mono ?_
  rintro e w1 ⟨rfl, rfl⟩
  cases p with
  | true =>
    go_wp2_with (fail)
    go_ret
    exact ⟨ret_bool (by simp), rfl⟩
  | false =>
    go_wp2_with (fail)
    refine CD.out.mono ?_
    rintro e w1 ⟨rfl, rfl⟩
    cases q with
    | true =>
      go_wp2_with (fail)
      go_ret
      exact ⟨ret_bool (by simp), rfl⟩
    | false =>
      cases h45 : ((b : Int) == 45) with
      | true =>
        go_wp2_with (fail)
        go_ret
        exact ⟨ret_bool (by rw [h45]; simp), rfl⟩
      | false =>
        go_wp2_with (fail)
        go_ret
        exact ⟨ret_bool (by rw [h45]; simp), rfl⟩

/-- A text at a place. -/
theorem idx_at (s : ByteArray) (q : Nat) (c : UInt8) (hq : q < s.size) (hc : s.data.toList[q]? = some c) (W : World) : (Instr.index 9 (.string s) (.int .i64 (q : Int))).run Try.prog W = .ok (.int .u8 (c.toNat : Int)) W := by
  obtain ⟨c', hc', hx, _⟩ := byte_at s q hq
  obtain rfl : c = c' := by rw [hc] at hc'; injection hc'
  rw [run_index_string (P := Try.prog) W 9 s .i64 (q : Int) Try.underlying9, dif_pos ⟨by omega, by omega⟩]
  have e : (q : Int).toNat = q := by omega
  simp only [e, hx]

set_option maxHeartbeats 2000000 in
theorem refName_any (s : ByteArray) : Calls Try.prog 41 #[.string s] w fun e w' => e = .returned (.bool (nameF s.data.toList)) ∧ Later w w' := by
  obtain ⟨L, hL⟩ : ∃ L, L = s.data.toList := ⟨_, rfl⟩
  have hlen : L.length = s.size := by rw [hL, Array.length_toList]; rfl
  rw [← hL]
  have HL := hide hL
  have HLEN := hide hlen
  have L0 := hide (Later.refl w)
  by_cases h1 : s.size < 1
  · have hb : (s.size : Int) < 1 := by omega
    have hf : nameF L = false := by
      cases hn : nameF L with
      | false => rfl
      | true => have := ((nameF_iff L).1 hn).1; omega
    rw [hf]
    clear hL hlen hf
    go_enter Try.func41, Try.ntmps41
    go_wp2
    go_ret
    exact ⟨rfl, L0.out⟩
  · have hb : ¬ (s.size : Int) < 1 := by omega
    by_cases h2 : 16 < s.size
    · have hb2 : 16 < (s.size : Int) := by omega
      have hf : nameF L = false := by
        cases hn : nameF L with
        | false => rfl
        | true => have := ((nameF_iff L).1 hn).2.1; omega
      rw [hf]
      clear hL hlen hf
      go_enter Try.func41, Try.ntmps41
      go_wp2
      go_ret
      exact ⟨rfl, L0.out⟩
    · have hb2 : ¬ 16 < (s.size : Int) := by omega
      obtain ⟨c0, hc0⟩ : ∃ c, L[0]? = some c := ⟨_, List.getElem?_eq_getElem (by omega)⟩
      have hi0 : ∀ W : World, (Instr.index 9 (.string s) (.int .i64 0)).run Try.prog W = .ok (.int .u8 (c0.toNat : Int)) W := fun W => by
        have := idx_at s 0 c0 (by omega) (by rw [← hL]; exact hc0) W
        exact this
      have HC0 := hide hc0
      have CS := hide (refSmall_any (w := w) c0.toNat)
      clear hL hlen hc0
      cases hs : smallB c0.toNat with
      | false =>
        rw [hs] at CS
        have hf := nameF_not0 HC0.out hs
        rw [hf]
        clear hf hs
        go_enter Try.func41, Try.ntmps41
        go_wp2_with (fail)
        refine CS.out.mono ?_
        rintro e w1 ⟨rfl, rfl⟩
        go_wp2_with (fail)
        go_ret
        exact ⟨rfl, L0.out⟩
      | true =>
        rw [hs] at CS
        have HS := hide hs
        clear hs
        go_enter Try.func41, Try.ntmps41
        go_wp2_with (fail)
        refine CS.out.mono ?_
        rintro e w1 ⟨rfl, rfl⟩
        clear hi0 CS
        go_wp2_with (fail)
        go_loopw [3] (fun v wr => wr = w1 ∧ ∃ q : Nat, v = .int .i64 (q : Int) ∧ q ≤ L.length ∧ ∀ c ∈ L.take q, partB c.toNat = true) (fun v _ => L.length - (intOf v).toNat)
        case atStart => exact ⟨rfl, 0, rfl, by omega, by simp⟩
        case round =>
          obtain ⟨rfl, q, rfl, hq, hall⟩ := hrel
          have HA := hide hall
          clear hall
          by_cases hlt : q < L.length
          · obtain ⟨c, hc⟩ : ∃ c, L[q]? = some c := ⟨_, List.getElem?_eq_getElem hlt⟩
            have hls : (q : Int) < (s.size : Int) := by have := HLEN.out; omega
            have hi : ∀ W : World, (Instr.index 9 (.string s) (.int .i64 (q : Int))).run Try.prog W = .ok (.int .u8 (c.toNat : Int)) W := idx_at s q c (by omega) (by rw [← HL.out]; exact hc)
            have CP := hide (refPart_any (w := wr) c.toNat)
            have HC := hide hc
            clear hc
            cases hp : partB c.toNat with
            | false =>
              rw [hp] at CP
              have hf := nameF_not HC.out hp
              have HF := hide hf
              clear hf hp
              go_wp2_with (fail)
              refine CP.out.mono ?_
              rintro e w1 ⟨rfl, rfl⟩
              go_wp2_with (fail)
              go_ret
              exact ⟨ret_bool HF.out.symm, L0.out⟩
            | true =>
              rw [hp] at CP
              have HP := hide hp
              clear hp
              go_wp2_with (fail)
              refine CP.out.mono ?_
              rintro e w1 ⟨rfl, rfl⟩
              go_wp2_with (fail)
              go_roundw
              case rel =>
                refine ⟨trivial, q + 1, by go_num, by omega, ?_⟩
                intro y hy
                rw [List.take_add_one, HC.out] at hy
                simp only [Option.toList_some, List.mem_append, List.mem_singleton] at hy
                rcases hy with hy | rfl
                · exact HA.out y hy
                · exact HP.out
              case measure => simp [intOf]; omega
          · have hls : ¬ (q : Int) < (s.size : Int) := by have := HLEN.out; omega
            have hf : nameF L = true := by
              rw [nameF_iff]
              refine ⟨by have := HLEN.out; omega, by have := HLEN.out; omega, fun c hc => ?_, ?_⟩
              · rw [HC0.out] at hc
                injection hc with hc
                rw [← hc]
                exact HS.out
              · have := HA.out
                rwa [List.take_of_length_le (by omega)] at this
            go_wp2_with (fail)
            go_ret
            exact ⟨rfl, L0.out⟩
end
end Go.Proofs.Ytodifeoficjamaa
/- The document's Check. -/
namespace Go.Proofs.Ytodifeoficjamaa
open Go.RowKit

section
variable {w : World}
theorem decide_gt (a b : Int) : decide (a > b) = decide (b < a) := rfl
set_option maxHeartbeats 16000000 in
set_option maxRecDepth 100000 in
theorem rcheck_any {F : Nat → Prop} {name : ByteArray} {v : Value} {steps : List StepD} (h : StepsAt F w v steps) :
    Calls Try.prog 22 #[.agg #[.string name, v]] w fun e w' => e = .returned (.tuple #[.int .i64 (((checkF name steps).1 : Nat) : Int), .int .i64 (((checkF name steps).2 : Nat) : Int)]) ∧ Later w w' := by
  obtain ⟨A, cap, rfl, hc1, hc2, _⟩ := FlatAt.shape h
  obtain ⟨n, hn⟩ : ∃ n, steps.length = n := ⟨_, rfl⟩
  rw [hn] at h hc1 ⊢
  obtain ⟨c1, hc1'⟩ : ∃ c, (checkF name steps).1 = c := ⟨_, rfl⟩
  obtain ⟨c2, hc2'⟩ : ∃ c, (checkF name steps).2 = c := ⟨_, rfl⟩
  rw [hc1', hc2']
  have HC1 := hide hc1'
  have HC2 := hide hc2'
  obtain ⟨W1, hW1⟩ : ∃ W1, W1 = w.alloc (.cells #[.string name, .slice A n cap] 24 (0, 0)) := ⟨_, rfl⟩
  obtain ⟨y, hy⟩ : ∃ y, y = w.heap.size := ⟨_, rfl⟩
  have B1 : Hid (W1.heap[y]? = some (.cells #[.string name, .slice A n cap] 24 (0, 0))) := by rw [hW1, hy]; exact heap_alloc_new w _
  have L1 : Hid (Later w W1) := by rw [hW1]; exact (Below.refl _ _).alloc (Nat.le_refl _) _
  have CN := hide (refName_any (w := W1) name)
  obtain ⟨q0, hq0⟩ : ∃ q, nameF name.data.toList = q := ⟨_, rfl⟩
  rw [hq0] at CN
  have HBAD : Hid ((!nameF name.data.toList || (decide (steps.length < 1) || decide (8 < steps.length))) = (!q0 || (decide (n < 1) || decide (8 < n)))) := by show _ = _; rw [hq0, hn]
  have H := hide h
  have HN := hide hn
  have HW1 := hide hW1.symm
  have HY := hide hy.symm
  clear h hn hW1 hy hc1' hc2' hq0
  go_enter Try.func22, Try.ntmps22
  go_wp2_with (fail)
  have hw := HW1.out
  have hyy := HY.out
  simp only [hw, hyy]
  clear hw hyy
  have c0 : W1.cell? ⟨y, 0, none⟩ = some (.string name) := (cell_of_row W1 y 0 _ _ _ B1.out).trans rfl
  have hy1 : y < W1.heap.size := lt_of_block B1.out
  go_wp2_with (fail)
  refine CN.out.mono ?_
  rintro e w2 ⟨rfl, hl2⟩
  have L2 := hide (L1.out.trans hl2)
  have B2 : Hid (w2.heap[y]? = some (.cells #[.string name, .slice A n cap] 24 (0, 0))) := (Below.block hl2 y (lt_of_block B1.out)).trans B1.out
  have c1' : w2.cell? ⟨y, 1, none⟩ = some (.slice A n cap) := (cell_of_row w2 y 1 _ _ _ B2.out).trans rfl
  have hy2 : y < w2.heap.size := lt_of_block B2.out
  clear CN hl2 L1 c0 hy1
  by_cases hbad : (!q0 || (decide (n < 1) || decide (8 < n))) = true
  · have HF : Hid (checkF name steps = (0, 2)) := by show _ = _; unfold checkF; rw [HBAD.out, hbad]; rfl
    have e1 : c1 = 0 := by rw [← HC1.out, HF.out]
    have e2 : c2 = 2 := by rw [← HC2.out, HF.out]
    have E1 := hide e1
    have E2 := hide e2
    clear e1 e2
    cases q0 with
    | false =>
      clear hbad HBAD
      go_wp2
      go_ret2
      exact ⟨by rw [E1.out, E2.out]; rfl, L2.out⟩
    | true =>
      by_cases h1 : n < 1
      · have k1 : decide ((n : Int) < 1) = true := decide_eq_true (by omega)
        clear hbad HBAD
        go_wp2
        go_ret2
        exact ⟨by rw [E1.out, E2.out]; rfl, L2.out⟩
      · have k1 : decide ((n : Int) < 1) = false := decide_eq_false (by omega)
        have h8 : 8 < n := by simp at hbad; omega
        have k2 : decide ((n : Int) > 8) = true := decide_eq_true (by omega)
        clear hbad HBAD
        go_wp2
        go_ret2
        exact ⟨by rw [E1.out, E2.out]; rfl, L2.out⟩
  · obtain rfl : q0 = true := by cases q0 <;> simp_all
    have h1 : ¬ n < 1 := by simp at hbad; omega
    have h8 : ¬ 8 < n := by simp at hbad; omega
    have HF : Hid (checkF name steps = firstBad (steps.take 0) (steps.drop 0)) := by show _ = _; unfold checkF; rw [HBAD.out, if_neg hbad]; rfl
    have k1 : decide ((n : Int) < 1) = false := decide_eq_false (by omega)
    have k2 : decide ((n : Int) > 8) = false := decide_eq_false (by omega)
    clear hbad HBAD
    go_wp2_with (fail)
    go_loopw [4, 28] (fun t4 v wr => ∃ i : Nat, v = .int .i64 (i : Int) ∧ i ≤ n ∧ t4 = .bool (pivotB (steps.take i)) ∧ checkF name steps = firstBad (steps.take i) (steps.drop i) ∧ Later w2 wr) (fun _ v _ => n - (intOf v).toNat)
    case atStart => exact ⟨0, rfl, by omega, rfl, HF.out, Later.refl _⟩
    case round =>
      obtain ⟨i, rfl, hi, rfl, hsum, hlat⟩ := hrel
      clear k1 k2
      have HS := hide hsum
      have HL := hide hlat
      have BR : Hid (wr.heap[y]? = some (.cells #[.string name, .slice A n cap] 24 (0, 0))) := (Below.block hlat y (lt_of_block B2.out)).trans B2.out
      clear hsum hlat
      obtain ⟨pb, hpb⟩ : ∃ pb, pivotB (steps.take i) = pb := ⟨_, rfl⟩
      rw [hpb]
      by_cases hlt : i < n
      · have HR := hide (StepsAt.kept H.out (Kept.of_below (L2.out.trans HL.out) F))
        obtain ⟨s, b, off, c', hs', hvv, _, _, _, hr⟩ := StepsAt.at_ HR.out (i := i) (by rw [HN.out]; exact hlt)
        rw [HN.out] at hvv
        obtain ⟨rfl, rfl⟩ : A = some ⟨b, off, none⟩ ∧ cap = c' := by injection hvv with e1 _ e3; exact ⟨e1, e3⟩
        obtain ⟨r0, r1, r2, r3, r4, r5⟩ := range_step hr
        have HSI := hide hs'
        have HPB := hide hpb
        obtain ⟨W5, hW5⟩ : ∃ W5, W5 = wr.alloc (.cells s.cells.toArray 56 (0, 0)) := ⟨_, rfl⟩
        obtain ⟨x, hx⟩ : ∃ x, x = wr.heap.size := ⟨_, rfl⟩
        have B5 : Hid (StepBox x s W5) := by rw [hW5, hx]; exact heap_alloc_new wr _
        have L5 : Hid (Later wr W5) := by rw [hW5]; exact (Below.refl _ _).alloc (Nat.le_refl _) _
        have BR5 : Hid (W5.heap[y]? = some (.cells #[.string name, .slice (some ⟨b, off, none⟩) n cap] 24 (0, 0))) := (Below.block L5.out y (lt_of_block BR.out)).trans BR.out
        have CS := hide (refName_any (w := W5) s.name)
        obtain ⟨q1, hq1⟩ : ∃ q, nameF s.name.data.toList = q := ⟨_, rfl⟩
        rw [hq1] at CS
        obtain ⟨E, hE⟩ : ∃ E, stepErr (steps.take i) s = E := ⟨_, rfl⟩
        have HE := hide hE
        have HQ1 := hide hq1
        have hx5 : x < W5.heap.size := lt_of_block B5.out
        obtain ⟨b0, b1, b2, b3, b4, b5, bf⟩ := B5.out.cells
        unfold StepD.cells at hW5
        have HW5 := hide hW5.symm
        have HX := hide hx.symm
        have cR : wr.cell? ⟨y, 1, none⟩ = some (.slice (some ⟨b, off, none⟩) n cap) := (cell_of_row wr y 1 _ _ _ BR.out).trans rfl
        clear hs' hvv hr hW5 hx hE hq1 hpb bf b1 b2 b3 b4 b5
        go_wp2_with (fail)
        have hw := HW5.out
        have hxx := HX.out
        simp only [hw, hxx]
        clear hw hxx r0 r1 r2 r3 r4 r5 cR
        go_wp2_with (fail)
        refine CS.out.mono ?_
        rintro e w6 ⟨rfl, hl6⟩
        have HL6 : Hid (Later w2 w6) := HL.out.trans (L5.out.trans hl6)
        have B6 : Hid (StepBox x s w6) := (Below.block hl6 x (lt_of_block B5.out)).trans B5.out
        have BR6 : Hid (w6.heap[y]? = some (.cells #[.string name, .slice (some ⟨b, off, none⟩) n cap] 24 (0, 0))) := (Below.block hl6 y (lt_of_block BR5.out)).trans BR5.out
        have hx6 : x < w6.heap.size := lt_of_block B6.out
        obtain ⟨b0', b1, b2, b3, b4, b5, bf⟩ := B6.out.cells
        clear CS hl6 hx5 b0 bf
        have HDONE : ∀ k : Nat, k ≠ 0 → E = k → c1 = i + 1 ∧ c2 = k := fun k hk hEk => by
          have hres : checkF name steps = (i + 1, E) := by rw [HS.out, firstBad_at HSI.out, HE.out, if_neg (by omega)]
          exact ⟨by rw [← HC1.out, hres], by rw [← HC2.out, hres, hEk]⟩
        have HDN := hide HDONE
        clear HDONE
        by_cases hbad : stepBad s = true
        · have hE2 : E = 2 := by rw [← HE.out]; exact err_bad hbad
          obtain ⟨e1, e2⟩ := HDN.out 2 (by omega) hE2
          have E1 := hide e1
          have E2 := hide e2
          have LR := hide (L2.out.trans HL6.out)
          clear hE2 e1 e2 HDN
          unfold stepBad outB at hbad
          rw [HQ1.out] at hbad
          cases q1 with
          | false =>
            clear hbad
            go_wp2
            go_ret2
            exact ⟨by rw [E1.out, E2.out]; rfl, LR.out⟩
          | true =>
            by_cases g0 : s.stub < 1
            · have f0 : decide (s.stub < 1) = true := decide_eq_true g0
              clear hbad
              go_wp2
              go_ret2
              exact ⟨by rw [E1.out, E2.out]; rfl, LR.out⟩
            · have f0 : decide (s.stub < 1) = false := decide_eq_false g0
              by_cases g1 : s.stub > 4
              · have f1 : decide (s.stub > 4) = true := decide_eq_true g1
                clear hbad
                go_wp2
                go_ret2
                exact ⟨by rw [E1.out, E2.out]; rfl, LR.out⟩
              · have f1 : decide (s.stub > 4) = false := decide_eq_false g1
                by_cases g2 : s.retry < 0
                · have f2 : decide (s.retry < 0) = true := decide_eq_true g2
                  clear hbad
                  go_wp2
                  go_ret2
                  exact ⟨by rw [E1.out, E2.out]; rfl, LR.out⟩
                · have f2 : decide (s.retry < 0) = false := decide_eq_false g2
                  by_cases g3 : s.retry > 9
                  · have f3 : decide (s.retry > 9) = true := decide_eq_true g3
                    clear hbad
                    go_wp2
                    go_ret2
                    exact ⟨by rw [E1.out, E2.out]; rfl, LR.out⟩
                  · have f3 : decide (s.retry > 9) = false := decide_eq_false g3
                    by_cases g4 : s.wait < 1
                    · have f4 : decide (s.wait < 1) = true := decide_eq_true g4
                      clear hbad
                      go_wp2
                      go_ret2
                      exact ⟨by rw [E1.out, E2.out]; rfl, LR.out⟩
                    · have f4 : decide (s.wait < 1) = false := decide_eq_false g4
                      have g5 : s.wait > 99 := by
                        simp at hbad
                        omega
                      have f5 : decide (s.wait > 99) = true := decide_eq_true g5
                      clear hbad
                      go_wp2
                      go_ret2
                      exact ⟨by rw [E1.out, E2.out]; rfl, LR.out⟩
        · have HB0 : Hid (stepBad s = false) := by show _ = _; simpa using hbad
          unfold stepBad outB at hbad
          rw [HQ1.out] at hbad
          simp only [Bool.or_eq_true, Bool.not_eq_true', decide_eq_true_eq, not_or, Bool.not_eq_false] at hbad
          obtain ⟨rfl, ⟨g1, g2⟩, ⟨g3, g4⟩, g5, g6⟩ := hbad
          have f1 : decide (s.stub < 1) = false := decide_eq_false g1
          have f2 : decide (s.stub > 4) = false := decide_eq_false g2
          have f3 : decide (s.retry < 0) = false := decide_eq_false g3
          have f4 : decide (s.retry > 9) = false := decide_eq_false g4
          have f5 : decide (s.wait < 1) = false := decide_eq_false g5
          have f6 : decide (s.wait > 99) = false := decide_eq_false g6
          have d1 : w6.cell? ⟨y, 1, none⟩ = some (.slice (some ⟨b, off, none⟩) n cap) := (cell_of_row w6 y 1 _ _ _ BR6.out).trans rfl
          have hy6 : y < w6.heap.size := lt_of_block BR6.out
          clear g1 g2 g3 g4 g5 g6 b4 b5
          go_wp2_with (fail)
          clear f1 f2 f3 f4 f5 f6 b1 b2 b3
          go_loopw [74] (fun v wr' => ∃ j : Nat, v = .int .i64 (j : Int) ∧ j ≤ i ∧ namedB (steps.take j) s = false ∧ Later w6 wr') (fun v _ => i - (intOf v).toNat)
          case atStart => exact ⟨0, rfl, by omega, rfl, Later.refl _⟩
          case round =>
            obtain ⟨j, rfl, hj, hnm, hlat⟩ := hrel
            have HNM := hide hnm
            have HLJ := hide hlat
            clear hnm hlat
            have BJ : Hid (StepBox x s wr) := (Below.block HLJ.out x (lt_of_block B6.out)).trans B6.out
            by_cases hlj : j < i
            · have HRJ := hide (StepsAt.kept H.out (Kept.of_below (L2.out.trans (HL6.out.trans HLJ.out)) F))
              obtain ⟨sj, b', off', c'', hs', hvv, _, _, _, hr⟩ := StepsAt.at_ HRJ.out (i := j) (by rw [HN.out]; omega)
              rw [HN.out] at hvv
              obtain ⟨e1, rfl⟩ : (some ⟨b, off, none⟩ : Option Addr) = some ⟨b', off', none⟩ ∧ cap = c'' := by injection hvv with e1 _ e3; exact ⟨e1, e3⟩
              obtain ⟨rfl, rfl⟩ : b = b' ∧ off = off' := by injection e1 with e1; injection e1 with e1 e2; exact ⟨e1, e2⟩
              obtain ⟨r0, r1, r2, r3, r4, r5⟩ := range_step hr
              have HSJ := hide hs'
              have LJ : Hid (Later w2 wr) := HL6.out.trans HLJ.out
              obtain ⟨W8, hW8⟩ : ∃ W8, W8 = wr.alloc (.cells sj.cells.toArray 56 (0, 0)) := ⟨_, rfl⟩
              obtain ⟨z, hz⟩ : ∃ z, z = wr.heap.size := ⟨_, rfl⟩
              have B8 : Hid (StepBox z sj W8) := by rw [hW8, hz]; exact heap_alloc_new wr _
              have L8 : Hid (Later wr W8) := by rw [hW8]; exact (Below.refl _ _).alloc (Nat.le_refl _) _
              have BX8 : Hid (StepBox x s W8) := (Below.block L8.out x (lt_of_block BJ.out)).trans BJ.out
              have a0 := B8.out.cells.1
              have a1 := BX8.out.cells.1
              have hz8 : z < W8.heap.size := lt_of_block B8.out
              have hx8 : x < W8.heap.size := lt_of_block BX8.out
              unfold StepD.cells at hW8
              have HW8 := hide hW8.symm
              have HZ := hide hz.symm
              have aJ := BJ.out.cells.1
              have hxj : x < wr.heap.size := lt_of_block BJ.out
              have a1r := a1
              have hx8r := hx8
              rw [hW8] at a1r hx8r
              clear hs' hvv hr hW8 hz e1 a0 hz8
              by_cases hnn : sj.name = s.name
              · have hE9 : E = 9 := by
                  rw [← HE.out]
                  refine err_late HB0.out ?_
                  have : namedB (steps.take i) s = true := by
                    unfold namedB
                    rw [List.any_eq_true]
                    refine ⟨sj, ?_, by simp [hnn]⟩
                    refine List.mem_of_getElem? (i := j) ?_
                    rw [List.getElem?_take_of_lt hlj]
                    exact HSJ.out
                  rw [this]; rfl
                obtain ⟨e1, e2⟩ := HDN.out 9 (by omega) hE9
                have E1 := hide e1
                have E2 := hide e2
                have LR : Hid (Later w W8) := L2.out.trans (LJ.out.trans L8.out)
                have hb : (sj.name.toList == s.name.toList) = true := by rw [hnn]; simp
                clear hE9 e1 e2 HDN hnn
                go_wp2_with (fail)
                have hw := HW8.out
                try simp only [hw]
                clear hw r0 r1 r2 r3 r4 r5
                go_ret2
                exact ⟨by rw [E1.out, E2.out]; rfl, LR.out⟩
              · have hb : (sj.name.toList == s.name.toList) = false := by rw [Sd.str_eq]; simpa using hnn
                have HNJ : Hid (namedB (steps.take (j + 1)) s = false) := by
                  show _ = _
                  have h0 := HNM.out
                  unfold namedB at h0 ⊢
                  rw [List.take_add_one, HSJ.out, List.any_append, h0]
                  simp [hnn]
                have LR : Hid (Later w6 W8) := HLJ.out.trans L8.out
                clear hnn
                go_wp2_with (fail)
                have hw := HW8.out
                try simp only [hw]
                clear hw r0 r1 r2 r3 r4 r5
                go_roundw
                case rel => exact ⟨j + 1, by go_num, by omega, HNJ.out, LR.out⟩
                case measure => simp [intOf]; omega
            · obtain rfl : j = i := by omega
              obtain ⟨_, b1, b2, b3, b4, b5, bf⟩ := BJ.out.cells
              have hxj : x < wr.heap.size := lt_of_block BJ.out
              have LR : Hid (Later w wr) := L2.out.trans (HL6.out.trans HLJ.out)
              have LQ : Hid (Later w2 wr) := HL6.out.trans HLJ.out
              obtain ⟨un, hun⟩ : ∃ un, s.undo = un := ⟨_, rfl⟩
              obtain ⟨pv, hpv⟩ : ∃ pv, s.pivot = pv := ⟨_, rfl⟩
              rw [hun] at b4
              rw [hpv] at b5
              have HUN := hide hun
              have HPV := hide hpv
              have HPP : Hid (pivotB (steps.take (j + 1)) = (pb || pv)) := by
                show _ = _
                have h0 := HPB.out
                unfold pivotB at h0 ⊢
                rw [List.take_add_one, HSI.out, List.any_append, h0, ← hpv]
                simp
              clear hun hpv b1 b2 b3 bf d1
              have HFB := firstBad_at HSI.out
              rw [HE.out] at HFB
              have HFB' := hide HFB
              clear HFB
              cases pb <;> cases pv <;> cases un <;> first
                | (have hEv : E = 9 := by rw [← HE.out]; exact err_late HB0.out (by rw [HNM.out, HPB.out, HPV.out]; rfl)
                   obtain ⟨e1, e2⟩ := HDN.out 9 (by omega) hEv
                   have E1 := hide e1
                   have E2 := hide e2
                   clear hEv e1 e2 HDN
                   go_wp2_with (fail)
                   go_ret2
                   exact ⟨by rw [E1.out, E2.out]; rfl, LR.out⟩)
                | (have hEv : E = 10 := by rw [← HE.out]; exact err_undo HB0.out (by rw [HNM.out, HPB.out, HPV.out]; rfl) (by rw [HPB.out, HPV.out, HUN.out]; rfl)
                   obtain ⟨e1, e2⟩ := HDN.out 10 (by omega) hEv
                   have E1 := hide e1
                   have E2 := hide e2
                   clear hEv e1 e2 HDN
                   go_wp2_with (fail)
                   go_ret2
                   exact ⟨by rw [E1.out, E2.out]; rfl, LR.out⟩)
                | (have hEv : Hid (E = 0) := by show _ = _; rw [← HE.out]; exact err_none HB0.out (by rw [HNM.out, HPB.out, HPV.out]; rfl) (by rw [HPB.out, HPV.out, HUN.out]; rfl)
                   clear HDN
                   go_wp2_with (fail)
                   go_roundw
                   case rel => exact ⟨j + 1, by go_num, by omega, by rw [HPP.out]; rfl, by rw [HS.out, HFB'.out, if_pos hEv.out], LQ.out⟩
                   case measure => simp [intOf]; omega)
      · have hie : i = n := by omega
        have hres : checkF name steps = (0, 0) := by rw [HS.out, hie, ← HN.out, firstBad_end]
        have e1 : c1 = 0 := by rw [← HC1.out, hres]
        have e2 : c2 = 0 := by rw [← HC2.out, hres]
        have E1 := hide e1
        have E2 := hide e2
        have cR : wr.cell? ⟨y, 1, none⟩ = some (.slice A n cap) := (cell_of_row wr y 1 _ _ _ BR.out).trans rfl
        clear hres e1 e2 hie
        go_wp2_with (fail)
        go_ret2
        exact ⟨by rw [E1.out, E2.out]; rfl, L2.out.trans HL.out⟩
end
end Go.Proofs.Ytodifeoficjamaa
/- Sums over the steps: the code's, by a function that is given one, and the document's. -/
namespace Go.Proofs.Ytodifeoficjamaa
open Go.RowKit

/-- The closure v tells f of each step that may be, in all later worlds. -/
def AskI (w : World) (v : SetV) (f : StepD → Int) : Prop :=
  Enters v.F ∧ ∀ (W : World) (s : StepD), Later w W → stepBad s = false → Calls Try.prog v.F (#[.agg s.cells.toArray] ++ v.cs) W fun e W' => e = .returned (.int .i64 (f s)) ∧ Later W W'
theorem good_in {name : ByteArray} {l : List StepD} {i : Nat} {s : StepD} (h : (checkF name l).2 = 0) (hs : l[i]? = some s) : stepBad s = false := (check_good h).2.2.2 s (List.mem_of_getElem? hs)
theorem sum_at {f : StepD → Int} (hf : ∀ s, stepBad s = false → 0 ≤ f s ∧ f s ≤ 1000) {name : ByteArray} {l : List StepD} (h : (checkF name l).2 = 0) (i : Nat) : 0 ≤ sumL f (l.take i) ∧ sumL f (l.take i) ≤ 16000 := by
  obtain ⟨h1, _, _, h3⟩ := check_good h
  have := sumL_range (f := f) (l := l.take i) fun s hs => hf s (h3 s (List.mem_of_mem_take hs))
  have h4 : (l.take i).length ≤ 8 := by rw [List.length_take]; omega
  omega
theorem sum_next (f : StepD → Int) {l : List StepD} {i : Nat} {s : StepD} (hs : l[i]? = some s) : sumL f (l.take (i + 1)) = sumL f (l.take i) + (if s.undo then f s * 2 else f s) := by
  rw [List.take_add_one, hs, Option.toList_some, sumL_app]

theorem wrap_fits {x : Int} (h : 0 ≤ x ∧ x ≤ 1000) : IntKind.i64.wrap x = x := by
  unfold IntKind.wrap
  simp [IntKind.bits, IntKind.signed]
  omega
section
variable {w : World}
end
end Go.Proofs.Ytodifeoficjamaa
/- What comes of a saga: whether it came, is sealed, its next step, its way back. -/
namespace Go.Proofs.Ytodifeoficjamaa
open Go.RowKit
section
variable {w : World}
set_option maxHeartbeats 4000000 in
theorem sealedS_any {F : Nat → Prop} {s : SagaD} {l : List StepD} (h : StepsAt F w s.v l) (hl : l.length ≤ 1000) : Calls Try.prog 45 #[s.val] w (Gives (.bool (sealedS l s)) w) := by
  obtain ⟨W1, hW1⟩ : ∃ W1, W1 = (w.alloc (.cells s.cells.toArray 27 (0, 0))) := ⟨_, rfl⟩
  obtain ⟨g, hg⟩ : ∃ g, g = w.heap.size := ⟨_, rfl⟩
  have X1 : Hid (SBox 27 g s W1) := by rw [hW1, hg]; exact heap_alloc_new _ _
  have L1 : Hid (Later w W1) := by rw [hW1]; exact (Below.refl _ _).alloc (Nat.le_refl _) _
  have HG0 : Hid (w.heap.size ≤ g) := Nat.le_of_eq hg.symm
  have C : Hid (∀ W, Later W1 W → Calls Try.prog 57 #[.agg #[.string s.name, .slice s.p s.n s.c], .slice (some ⟨g, 5, none⟩) 8 8] W fun e w' => e = .returned (.bool (sealedS l s)) ∧ Later W w') := fun W hW => sealed_any (StepsAt.kept h (Kept.of_below (L1.out.trans hW) _)) hl (X1.out.below hW).bools
  obtain ⟨q, hq⟩ : ∃ q, sealedS l s = q := ⟨_, rfl⟩
  rw [hq] at C ⊢
  have HW1 := hide hW1.symm
  have HG := hide hg.symm
  clear hW1 hg h hl hq
  go_enter Try.func45, Try.ntmps45
  go_wp2_with (fail)
  simp only [HW1.out, HG.out]
  have XD := hide (show SBox 27 g s W1.drew from X1.out)
  have LD := hide (L1.out.trans (Later.drew W1))
  refine wp_region_L (by kernel_rfl) ?_
  refine wpAnyL_take (i := 0) (d := some 3) (v := ?vaa0) rfl rfl (by kernel_rfl) (by kernel_rfl) (by kernel_rfl) (fun _ _ _ h => h) (by rfl) ?yaa0 ?_
  case yaa0 => (intro w' hw'; go_simp; try (with_reducible rfl))
  simp only [Act.put]; try simp only [List.setIfInBounds_toArray]; try simp only [List.set_cons_zero, List.set_cons_succ]
  refine wpAnyL_take (i := 1) (d := some 4) (v := .agg #[.string s.name, .slice s.p s.n s.c]) rfl rfl (by kernel_rfl) (by kernel_rfl) (by kernel_rfl) (fun _ _ _ h => h) (by rfl) ?yaa1 ?_
  case yaa1 => (intro w' hw'; exact exec_load_sdef _ (by rfl) (by rfl) (XD.out.below hw'))
  simp only [Act.put]; try simp only [List.setIfInBounds_toArray]; try simp only [List.set_cons_zero, List.set_cons_succ]
  refine wpAnyL_take (i := 2) (d := some 5) (v := ?vaa2) rfl rfl (by kernel_rfl) (by kernel_rfl) (by kernel_rfl) (fun _ _ _ h => h) (by rfl) ?yaa2 ?_
  case yaa2 => (intro w' hw'; go_simp; try (with_reducible rfl))
  simp only [Act.put]; try simp only [List.setIfInBounds_toArray]; try simp only [List.set_cons_zero, List.set_cons_succ]
  refine wpAnyL_take (i := 3) (d := some 6) (v := .slice (some ⟨g, 5, none⟩) 8 8) rfl rfl (by kernel_rfl) (by kernel_rfl) (by kernel_rfl) (fun _ _ _ h => h) (by rfl) ?yaa3 ?_
  case yaa3 => (intro w' hw'; go_simp; try (with_reducible rfl))
  simp only [Act.put]; try simp only [List.setIfInBounds_toArray]; try simp only [List.set_cons_zero, List.set_cons_succ]
  refine wpAnyL_only (i := 4) rfl (by kernel_rfl) (by rfl) fun K hK => ?_
  go_simp
  refine (C.out _ (Later.drew W1)).mono ?_
  rintro e w_4 ⟨rfl, hl_⟩
  have L4 := hide (LD.out.trans hl_)
  refine hK.out _ _ hl_ ?_
  clear hl_
  clear hK K
  try (simp only [Act.put]; try simp only [List.setIfInBounds_toArray]; try simp only [List.set_cons_zero, List.set_cons_succ])
  refine wpAnyL_take (i := 5) (d := some 2) (v := ?vaa5) rfl rfl (by kernel_rfl) (by kernel_rfl) (by kernel_rfl) (fun _ _ _ h => h) (by rfl) ?yaa5 ?_
  case yaa5 => (intro w' hw'; go_simp; try (with_reducible rfl))
  simp only [Act.put]; try simp only [List.setIfInBounds_toArray]; try simp only [List.set_cons_zero, List.set_cons_succ]
  refine wpAnyL_done (by kernel_rfl) ?_ _
  go_wp2
  go_ret
  exact ⟨rfl, L4.out⟩

theorem exec_eql_hits {op : Oper} {a : Act} {w : World} (x y : Hits) (p q : Operand) (t : TypeId) (ho : op.op = .binOp .eql 25 p q t) (hp : a.eval p = x.val) (hq : a.eval q = y.val) : (execOp a.eval op).run Try.prog w = .ok (.value (.bool (decide (x = y)))) w := by
  unfold execOp
  simp only [ho, hp, hq, Sem.run_bind, eql_hits, run_eqGuard_agg (P := Try.prog) w .eql 25 p q x.cells.toArray y.cells.toArray (by kernel_rfl), Result.andThen_ok, Sem.run_pure]
set_option maxHeartbeats 4000000 in
theorem came_yes {s : SagaD} (h1 : 1 ≤ s.step) (h8 : s.step ≤ 8) (hq : decide (s.hit = upH (s.step - 1)) = true) : Calls Try.prog 25 #[s.val] w (Gives (.bool (cameF s)) w) := by
  obtain ⟨W1, hW1⟩ : ∃ W1, W1 = (w.alloc (.cells s.cells.toArray 27 (0, 0))) := ⟨_, rfl⟩
  obtain ⟨g, hg⟩ : ∃ g, g = w.heap.size := ⟨_, rfl⟩
  have X1 : Hid (SBox 27 g s W1) := by rw [hW1, hg]; exact heap_alloc_new _ _
  have L1 : Hid (Later w W1) := by rw [hW1]; exact (Below.refl _ _).alloc (Nat.le_refl _) _
  have HG0 : Hid (w.heap.size ≤ g) := Nat.le_of_eq hg.symm
  have C : Hid (∀ (W : World) (k : Int), k ≤ 8 → Calls Try.prog 26 #[.int .i64 k] W (Gives (upH k).val W)) := fun W k hk => upTo_any k hk
  obtain ⟨Q, hQ⟩ : ∃ q, cameF s = q := ⟨_, rfl⟩
  have HQ : Hid (Q = (true || decide (s.hit = upH s.step))) := by show _ = _; rw [← hQ, ← hq]; rfl
  rw [hQ]
  have H1 := hide hq
  have hwr : IntKind.i64.wrap (s.step - 1) = s.step - 1 := wrap_fits (by omega)
  have HW1 := hide hW1.symm
  have HG := hide hg.symm
  clear hW1 hg hq hQ
  go_enter Try.func25, Try.ntmps25
  go_wp2_with (fail)
  simp only [HW1.out, HG.out]
  have XD := hide (show SBox 27 g s W1.drew from X1.out)
  have LD := hide (L1.out.trans (Later.drew W1))
  refine wp_region_L (by kernel_rfl) ?_
  refine wpAnyL_take (i := 0) (d := some 3) (v := ?vac00) rfl rfl (by kernel_rfl) (by kernel_rfl) (by kernel_rfl) (fun _ _ _ h => h) (by rfl) ?yac00 ?_
  case yac00 => (intro w' hw'; go_simp; try (with_reducible rfl))
  simp only [Act.put]; try simp only [List.setIfInBounds_toArray]; try simp only [List.set_cons_zero, List.set_cons_succ]
  refine wpAnyL_take (i := 1) (d := some 4) (v := s.hit.val) rfl rfl (by kernel_rfl) (by kernel_rfl) (by kernel_rfl) (fun _ _ _ h => h) (by rfl) ?yac01 ?_
  case yac01 => (intro w' hw'; exact exec_load_hits _ (by rfl) (by rfl) (XD.out.below hw'))
  simp only [Act.put]; try simp only [List.setIfInBounds_toArray]; try simp only [List.set_cons_zero, List.set_cons_succ]
  refine wpAnyL_take (i := 2) (d := some 5) (v := ?vac02) rfl rfl (by kernel_rfl) (by kernel_rfl) (by kernel_rfl) (fun _ _ _ h => h) (by rfl) ?yac02 ?_
  case yac02 => (intro w' hw'; go_simp; try (with_reducible rfl))
  simp only [Act.put]; try simp only [List.setIfInBounds_toArray]; try simp only [List.set_cons_zero, List.set_cons_succ]
  refine wpAnyL_take (i := 3) (d := some 6) (v := ?vac03) rfl rfl (by kernel_rfl) (by kernel_rfl) (by kernel_rfl) (fun _ _ _ h => h) (by rfl) ?yac03 ?_
  case yac03 => (intro w' hw'; have c3 := (XD.out.below hw').c3; go_simp; try (with_reducible rfl))
  simp only [Act.put]; try simp only [List.setIfInBounds_toArray]; try simp only [List.set_cons_zero, List.set_cons_succ]
  refine wpAnyL_take (i := 4) (d := some 7) (v := ?vac04) rfl rfl (by kernel_rfl) (by kernel_rfl) (by kernel_rfl) (fun _ _ _ h => h) (by rfl) ?yac04 ?_
  case yac04 => (intro w' hw'; go_simp; try (with_reducible rfl))
  simp only [Act.put]; try simp only [List.setIfInBounds_toArray]; try simp only [List.set_cons_zero, List.set_cons_succ]
  refine wpAnyL_only (i := 5) rfl (by kernel_rfl) (by rfl) fun K hK => ?_
  go_simp
  refine (C.out _ (s.step - 1) (by omega)).mono ?_
  rintro e w_5 ⟨rfl, hl_⟩
  have L5 := hide (LD.out.trans hl_)
  have X5 := hide (XD.out.below hl_)
  refine hK.out _ _ hl_ ?_
  clear hl_
  clear hK K
  try (simp only [Act.put]; try simp only [List.setIfInBounds_toArray]; try simp only [List.set_cons_zero, List.set_cons_succ])
  refine wpAnyL_take (i := 6) (d := some 9) (v := .bool true) rfl rfl (by kernel_rfl) (by kernel_rfl) (by kernel_rfl) (fun _ _ _ h => h) (by rfl) ?yac06 ?_
  case yac06 => (intro w' hw'; exact (exec_eql_hits s.hit (upH (s.step - 1)) _ _ _ (by rfl) (by rfl) (by rfl)).trans (by rw [H1.out]))
  simp only [Act.put]; try simp only [List.setIfInBounds_toArray]; try simp only [List.set_cons_zero, List.set_cons_succ]
  refine wpAnyL_take (i := 7) (d := some 10) (v := ?vac07) rfl rfl (by kernel_rfl) (by kernel_rfl) (by kernel_rfl) (fun _ _ _ h => h) (by rfl) ?yac07 ?_
  case yac07 => (intro w' hw'; go_simp; try (with_reducible rfl))
  simp only [Act.put]; try simp only [List.setIfInBounds_toArray]; try simp only [List.set_cons_zero, List.set_cons_succ]
  refine wpAnyL_pass (i := 8) (d := some 11) rfl rfl (by kernel_rfl) (by kernel_rfl) (by kernel_rfl) (fun _ _ _ h => h) (by rfl) ?_
  try (simp only [Act.put]; try simp only [List.setIfInBounds_toArray]; try simp only [List.set_cons_zero, List.set_cons_succ])
  refine wpAnyL_pass (i := 9) (d := some 12) rfl rfl (by kernel_rfl) (by kernel_rfl) (by kernel_rfl) (fun _ _ _ h => h) (by rfl) ?_
  try (simp only [Act.put]; try simp only [List.setIfInBounds_toArray]; try simp only [List.set_cons_zero, List.set_cons_succ])
  refine wpAnyL_pass (i := 10) (d := some 13) rfl rfl (by kernel_rfl) (by kernel_rfl) (by kernel_rfl) (fun _ _ _ h => h) (by rfl) ?_
  try (simp only [Act.put]; try simp only [List.setIfInBounds_toArray]; try simp only [List.set_cons_zero, List.set_cons_succ])
  refine wpAnyL_pass (i := 11) (d := some 14) rfl rfl (by kernel_rfl) (by kernel_rfl) (by kernel_rfl) (fun _ _ _ h => h) (by rfl) ?_
  try (simp only [Act.put]; try simp only [List.setIfInBounds_toArray]; try simp only [List.set_cons_zero, List.set_cons_succ])
  refine wpAnyL_pass (i := 12) (d := some 15) rfl rfl (by kernel_rfl) (by kernel_rfl) (by kernel_rfl) (fun _ _ _ h => h) (by rfl) ?_
  try (simp only [Act.put]; try simp only [List.setIfInBounds_toArray]; try simp only [List.set_cons_zero, List.set_cons_succ])
  refine wpAnyL_pass (i := 13) (d := some 16) rfl rfl (by kernel_rfl) (by kernel_rfl) (by kernel_rfl) (fun _ _ _ h => h) (by rfl) ?_
  try (simp only [Act.put]; try simp only [List.setIfInBounds_toArray]; try simp only [List.set_cons_zero, List.set_cons_succ])
  refine wpAnyL_take (i := 14) (d := some 17) (v := ?vac014) rfl rfl (by kernel_rfl) (by kernel_rfl) (by kernel_rfl) (fun _ _ _ h => h) (by rfl) ?yac014 ?_
  case yac014 => (intro w' hw'; go_simp; try (with_reducible rfl))
  simp only [Act.put]; try simp only [List.setIfInBounds_toArray]; try simp only [List.set_cons_zero, List.set_cons_succ]
  refine wpAnyL_take (i := 15) (d := some 2) (v := ?vac015) rfl rfl (by kernel_rfl) (by kernel_rfl) (by kernel_rfl) (fun _ _ _ h => h) (by rfl) ?yac015 ?_
  case yac015 => (intro w' hw'; go_simp; try (with_reducible rfl))
  simp only [Act.put]; try simp only [List.setIfInBounds_toArray]; try simp only [List.set_cons_zero, List.set_cons_succ]
  refine wpAnyL_done (by kernel_rfl) ?_ _
  go_wp2
  go_ret
  exact ⟨ret_bool (by rw [HQ.out]; rfl), L5.out⟩
set_option maxHeartbeats 4000000 in
theorem came_no {s : SagaD} (h1 : 1 ≤ s.step) (h8 : s.step ≤ 8) (hq : decide (s.hit = upH (s.step - 1)) = false) : Calls Try.prog 25 #[s.val] w (Gives (.bool (cameF s)) w) := by
  obtain ⟨W1, hW1⟩ : ∃ W1, W1 = (w.alloc (.cells s.cells.toArray 27 (0, 0))) := ⟨_, rfl⟩
  obtain ⟨g, hg⟩ : ∃ g, g = w.heap.size := ⟨_, rfl⟩
  have X1 : Hid (SBox 27 g s W1) := by rw [hW1, hg]; exact heap_alloc_new _ _
  have L1 : Hid (Later w W1) := by rw [hW1]; exact (Below.refl _ _).alloc (Nat.le_refl _) _
  have HG0 : Hid (w.heap.size ≤ g) := Nat.le_of_eq hg.symm
  have C : Hid (∀ (W : World) (k : Int), k ≤ 8 → Calls Try.prog 26 #[.int .i64 k] W (Gives (upH k).val W)) := fun W k hk => upTo_any k hk
  obtain ⟨Q, hQ⟩ : ∃ q, cameF s = q := ⟨_, rfl⟩
  have HQ : Hid (Q = (false || decide (s.hit = upH s.step))) := by show _ = _; rw [← hQ, ← hq]; rfl
  rw [hQ]
  have H1 := hide hq
  have hwr : IntKind.i64.wrap (s.step - 1) = s.step - 1 := wrap_fits (by omega)
  have HW1 := hide hW1.symm
  have HG := hide hg.symm
  clear hW1 hg hq hQ
  go_enter Try.func25, Try.ntmps25
  go_wp2_with (fail)
  simp only [HW1.out, HG.out]
  have XD := hide (show SBox 27 g s W1.drew from X1.out)
  have LD := hide (L1.out.trans (Later.drew W1))
  refine wp_region_L (by kernel_rfl) ?_
  refine wpAnyL_take (i := 0) (d := some 3) (v := ?vac10) rfl rfl (by kernel_rfl) (by kernel_rfl) (by kernel_rfl) (fun _ _ _ h => h) (by rfl) ?yac10 ?_
  case yac10 => (intro w' hw'; go_simp; try (with_reducible rfl))
  simp only [Act.put]; try simp only [List.setIfInBounds_toArray]; try simp only [List.set_cons_zero, List.set_cons_succ]
  refine wpAnyL_take (i := 1) (d := some 4) (v := s.hit.val) rfl rfl (by kernel_rfl) (by kernel_rfl) (by kernel_rfl) (fun _ _ _ h => h) (by rfl) ?yac11 ?_
  case yac11 => (intro w' hw'; exact exec_load_hits _ (by rfl) (by rfl) (XD.out.below hw'))
  simp only [Act.put]; try simp only [List.setIfInBounds_toArray]; try simp only [List.set_cons_zero, List.set_cons_succ]
  refine wpAnyL_take (i := 2) (d := some 5) (v := ?vac12) rfl rfl (by kernel_rfl) (by kernel_rfl) (by kernel_rfl) (fun _ _ _ h => h) (by rfl) ?yac12 ?_
  case yac12 => (intro w' hw'; go_simp; try (with_reducible rfl))
  simp only [Act.put]; try simp only [List.setIfInBounds_toArray]; try simp only [List.set_cons_zero, List.set_cons_succ]
  refine wpAnyL_take (i := 3) (d := some 6) (v := ?vac13) rfl rfl (by kernel_rfl) (by kernel_rfl) (by kernel_rfl) (fun _ _ _ h => h) (by rfl) ?yac13 ?_
  case yac13 => (intro w' hw'; have c3 := (XD.out.below hw').c3; go_simp; try (with_reducible rfl))
  simp only [Act.put]; try simp only [List.setIfInBounds_toArray]; try simp only [List.set_cons_zero, List.set_cons_succ]
  refine wpAnyL_take (i := 4) (d := some 7) (v := ?vac14) rfl rfl (by kernel_rfl) (by kernel_rfl) (by kernel_rfl) (fun _ _ _ h => h) (by rfl) ?yac14 ?_
  case yac14 => (intro w' hw'; go_simp; try (with_reducible rfl))
  simp only [Act.put]; try simp only [List.setIfInBounds_toArray]; try simp only [List.set_cons_zero, List.set_cons_succ]
  refine wpAnyL_only (i := 5) rfl (by kernel_rfl) (by rfl) fun K hK => ?_
  go_simp
  refine (C.out _ (s.step - 1) (by omega)).mono ?_
  rintro e w_5 ⟨rfl, hl_⟩
  have L5 := hide (LD.out.trans hl_)
  have X5 := hide (XD.out.below hl_)
  refine hK.out _ _ hl_ ?_
  clear hl_
  clear hK K
  try (simp only [Act.put]; try simp only [List.setIfInBounds_toArray]; try simp only [List.set_cons_zero, List.set_cons_succ])
  refine wpAnyL_take (i := 6) (d := some 9) (v := .bool false) rfl rfl (by kernel_rfl) (by kernel_rfl) (by kernel_rfl) (fun _ _ _ h => h) (by rfl) ?yac16 ?_
  case yac16 => (intro w' hw'; exact (exec_eql_hits s.hit (upH (s.step - 1)) _ _ _ (by rfl) (by rfl) (by rfl)).trans (by rw [H1.out]))
  simp only [Act.put]; try simp only [List.setIfInBounds_toArray]; try simp only [List.set_cons_zero, List.set_cons_succ]
  refine wpAnyL_take (i := 7) (d := some 10) (v := ?vac17) rfl rfl (by kernel_rfl) (by kernel_rfl) (by kernel_rfl) (fun _ _ _ h => h) (by rfl) ?yac17 ?_
  case yac17 => (intro w' hw'; go_simp; try (with_reducible rfl))
  simp only [Act.put]; try simp only [List.setIfInBounds_toArray]; try simp only [List.set_cons_zero, List.set_cons_succ]
  refine wpAnyL_take (i := 8) (d := some 11) (v := ?vac18) rfl rfl (by kernel_rfl) (by kernel_rfl) (by kernel_rfl) (fun _ _ _ h => h) (by rfl) ?yac18 ?_
  case yac18 => (intro w' hw'; go_simp; try (with_reducible rfl))
  simp only [Act.put]; try simp only [List.setIfInBounds_toArray]; try simp only [List.set_cons_zero, List.set_cons_succ]
  refine wpAnyL_take (i := 9) (d := some 12) (v := s.hit.val) rfl rfl (by kernel_rfl) (by kernel_rfl) (by kernel_rfl) (fun _ _ _ h => h) (by rfl) ?yac19 ?_
  case yac19 => (intro w' hw'; exact exec_load_hits _ (by rfl) (by rfl) (X5.out.below hw'))
  simp only [Act.put]; try simp only [List.setIfInBounds_toArray]; try simp only [List.set_cons_zero, List.set_cons_succ]
  refine wpAnyL_take (i := 10) (d := some 13) (v := ?vac110) rfl rfl (by kernel_rfl) (by kernel_rfl) (by kernel_rfl) (fun _ _ _ h => h) (by rfl) ?yac110 ?_
  case yac110 => (intro w' hw'; go_simp; try (with_reducible rfl))
  simp only [Act.put]; try simp only [List.setIfInBounds_toArray]; try simp only [List.set_cons_zero, List.set_cons_succ]
  refine wpAnyL_take (i := 11) (d := some 14) (v := ?vac111) rfl rfl (by kernel_rfl) (by kernel_rfl) (by kernel_rfl) (fun _ _ _ h => h) (by rfl) ?yac111 ?_
  case yac111 => (intro w' hw'; have c3 := (X5.out.below hw').c3; go_simp; try (with_reducible rfl))
  simp only [Act.put]; try simp only [List.setIfInBounds_toArray]; try simp only [List.set_cons_zero, List.set_cons_succ]
  refine wpAnyL_only (i := 12) rfl (by kernel_rfl) (by rfl) fun K hK => ?_
  go_simp
  refine (C.out _ s.step h8).mono ?_
  rintro e w_12 ⟨rfl, hl_⟩
  have L12 := hide (L5.out.trans hl_)
  refine hK.out _ _ hl_ ?_
  clear hl_
  clear hK K
  try (simp only [Act.put]; try simp only [List.setIfInBounds_toArray]; try simp only [List.set_cons_zero, List.set_cons_succ])
  refine wpAnyL_take (i := 13) (d := some 16) (v := .bool (decide (s.hit = upH s.step))) rfl rfl (by kernel_rfl) (by kernel_rfl) (by kernel_rfl) (fun _ _ _ h => h) (by rfl) ?yac113 ?_
  case yac113 => (intro w' hw'; exact exec_eql_hits s.hit (upH s.step) _ _ _ (by rfl) (by rfl) (by rfl))
  simp only [Act.put]; try simp only [List.setIfInBounds_toArray]; try simp only [List.set_cons_zero, List.set_cons_succ]
  refine wpAnyL_take (i := 14) (d := some 17) (v := ?vac114) rfl rfl (by kernel_rfl) (by kernel_rfl) (by kernel_rfl) (fun _ _ _ h => h) (by rfl) ?yac114 ?_
  case yac114 => (intro w' hw'; go_simp; try (with_reducible rfl))
  simp only [Act.put]; try simp only [List.setIfInBounds_toArray]; try simp only [List.set_cons_zero, List.set_cons_succ]
  refine wpAnyL_take (i := 15) (d := some 2) (v := ?vac115) rfl rfl (by kernel_rfl) (by kernel_rfl) (by kernel_rfl) (fun _ _ _ h => h) (by rfl) ?yac115 ?_
  case yac115 => (intro w' hw'; go_simp; try (with_reducible rfl))
  simp only [Act.put]; try simp only [List.setIfInBounds_toArray]; try simp only [List.set_cons_zero, List.set_cons_succ]
  refine wpAnyL_done (by kernel_rfl) ?_ _
  go_wp2
  go_ret
  exact ⟨ret_bool (by rw [HQ.out]; rfl), L12.out⟩
theorem came_any {s : SagaD} (h1 : 1 ≤ s.step) (h8 : s.step ≤ 8) : Calls Try.prog 25 #[s.val] w (Gives (.bool (cameF s)) w) := by
  cases hq : decide (s.hit = upH (s.step - 1)) with
  | true => exact came_yes h1 h8 hq
  | false => exact came_no h1 h8 hq
end
end Go.Proofs.Ytodifeoficjamaa
/- What comes of a saga: its own memory, its next step, its way back. -/
namespace Go.Proofs.Ytodifeoficjamaa
open Go.RowKit
section
variable {w : World}
theorem cells_one (l : List StepD) : ∀ u ∈ l.flatMap StepD.cells, u.oneCell' = true := by
  intro u hu
  obtain ⟨s, _, hs⟩ := List.mem_flatMap.1 hu
  simp only [StepD.cells, List.mem_cons, List.not_mem_nil, or_false] at hs
  rcases hs with rfl | rfl | rfl | rfl | rfl | rfl <;> rfl
/-- A call that says this saga, its steps in new memory. -/
def Owns (s : SagaD) (l : List StepD) (w : World) (e : Ending) (w' : World) : Prop := ∃ p n c, e = .returned (s.withV p n c).val ∧ StepsAt (w.heap.size ≤ ·) w' (.slice p n c) l ∧ Later w w'
set_option maxHeartbeats 4000000 in
theorem own_any {F : Nat → Prop} {s : SagaD} {l : List StepD} (h : StepsAt F w s.v l) (hl : l.length ≤ 1000000) : Calls Try.prog 21 #[s.val] w (Owns s l w) := by
  obtain ⟨W1, hW1⟩ : ∃ W1, W1 = (w.alloc (.cells s.cells.toArray 27 (0, 0))).alloc (.cells #[.string ⟨#[]⟩, .slice none 0 0, .int .i64 0, .int .i64 0, .int .i64 0, .bool false, .bool false, .bool false, .bool false, .bool false, .bool false, .bool false, .bool false] 27 (0, 0)) := ⟨_, rfl⟩
  obtain ⟨g, hg⟩ : ∃ g, g = w.heap.size := ⟨_, rfl⟩
  have X1 : Hid (SBox 27 g s W1) := by rw [hW1, hg]; exact (heap_alloc_old _ _ (by simp)).trans (heap_alloc_new _ _)
  have Y1 : Hid (SBox 27 (g + 1) SagaD.zero W1) := by rw [hW1, hg]; exact heap_second _ _ _
  have L1 : Hid (Later w W1) := by rw [hW1]; exact ((Below.refl _ _).alloc (Nat.le_refl _) _).alloc (by simp) _
  have HG0 : Hid (w.heap.size ≤ g) := Nat.le_of_eq hg.symm
  have C := hide (Sd.clone_steps F s.v l.length _ W1 (StepsAt.kept h (Kept.of_below L1.out _)) hl)
  have HW1 := hide hW1.symm
  have HG := hide hg.symm
  clear hW1 hg h hl
  have xe := X1.out
  rw [← HW1.out, ← HG.out] at xe
  have XE := hide xe
  clear xe
  have e1 := XE.out.c1
  go_enter Try.func21, Try.ntmps21
  unfold SagaD.v at C
  go_wp2_with (fail)
  simp only [HW1.out, HG.out]
  refine C.out.mono ?_
  rintro e w2 ⟨v, rfl, ho, hb⟩
  have hs : StepsAt (W1.heap.size ≤ ·) w2 v l := FlatAt.of_own ho (cells_one l)
  obtain ⟨A, c, rfl, _, _, _⟩ := FlatAt.shape hs
  have S2 : Hid (StepsAt (fun _ => True) w2 (.slice A l.length c) l) := FlatAt.mono hs (fun _ _ _ => trivial)
  have L2 := hide (L1.out.trans hb)
  have X2 := hide (X1.out.below hb)
  have Y2 := hide (Y1.out.below hb)
  have d1 := X2.out.c1
  have f1 := X2.out.thaw 1
  obtain ⟨n, hn⟩ : ∃ n, l.length = n := ⟨_, rfl⟩
  rw [hn] at S2 ⊢
  have X3 : Hid (SBox 27 g (s.withV A n c) (w2.setCell ⟨g, 1, none⟩ (.slice A n c))) := heap_setCell_same w2 g 1 _ _ _ X2.out
  have Y3 : Hid (SBox 27 (g + 1) SagaD.zero (w2.setCell ⟨g, 1, none⟩ (.slice A n c))) := (heap_setCell_other _ _ _ _ (by simp)).trans Y2.out
  have L3 : Hid (Later w (w2.setCell ⟨g, 1, none⟩ (.slice A n c))) := L2.out.setCell (p := ⟨g, 1, none⟩) HG0.out _
  have S3 : Hid (StepsAt (W1.heap.size ≤ ·) (w2.setCell ⟨g, 1, none⟩ (.slice A n c)) (.slice A n c) l) := by
    rw [hn] at hs
    exact StepsAt.kept hs ⟨by simp, fun i _ hf => heap_setCell_other _ _ _ _ (fun e => by have := X1.out.lt; simp at e; omega)⟩
  clear e1 ho hb hs C hn
  go_wp2_with (first | (refine wpList_load_saga (by rfl) _ (by rfl) (by rfl) X3.out ?_) | (refine wpList_store_saga (by rfl) _ _ (by rfl) (by rfl) Y3.out (by rfl) ?_; intro w4 Z4 G4))
  have S4 : Hid (StepsAt (w.heap.size ≤ ·) w4 (.slice A n c) l) := FlatAt.mono (StepsAt.kept S3.out (Kept.of_grown G4 (fun k hk hf => by have := Option.some.inj hk; have := Y1.out.lt; omega))) (fun i _ hf => Nat.le_trans (Below.size L1.out) hf)
  have HLF : Hid (Later w _) := L3.out.grown G4 (Below.size L3.out) (fun k hk => by have := Option.some.inj hk; have := HG0.out; omega)
  refine bodyPost_ret (results_cell_row Try.results21 _ _ (g + 1) 27 _ (0, 0) _ (by rfl) Z4 Try.underlying27 (by rfl) (by kernel_rfl)) (by rfl) ?_
  exact ⟨A, n, c, rfl, S4.out, HLF.out⟩
set_option maxHeartbeats 4000000 in
theorem next_end {s : SagaD} (hq : s.step = (s.n : Int)) : Calls Try.prog 36 #[s.val] w (Gives (s.ended 3 0).val w) := by
  obtain ⟨W1, hW1⟩ : ∃ W1, W1 = (w.alloc (.cells s.cells.toArray 27 (0, 0))).alloc (.cells #[.string ⟨#[]⟩, .slice none 0 0, .int .i64 0, .int .i64 0, .int .i64 0, .bool false, .bool false, .bool false, .bool false, .bool false, .bool false, .bool false, .bool false] 27 (0, 0)) := ⟨_, rfl⟩
  obtain ⟨g, hg⟩ : ∃ g, g = w.heap.size := ⟨_, rfl⟩
  have X1 : Hid (SBox 27 g s W1) := by rw [hW1, hg]; exact (heap_alloc_old _ _ (by simp)).trans (heap_alloc_new _ _)
  have Y1 : Hid (SBox 27 (g + 1) SagaD.zero W1) := by rw [hW1, hg]; exact heap_second _ _ _
  have L1 : Hid (Later w W1) := by rw [hW1]; exact ((Below.refl _ _).alloc (Nat.le_refl _) _).alloc (by simp) _
  have HG0 : Hid (w.heap.size ≤ g) := Nat.le_of_eq hg.symm
  have C := hide (fun W => ended_any (w := W) s 3 0)
  have HW1 := hide hW1.symm
  have HG := hide hg.symm
  clear hW1 hg 
  have xe := X1.out
  rw [← HW1.out, ← HG.out] at xe
  have XE := hide xe
  clear xe
  have e1 := XE.out.c1
  have e3 := XE.out.c3
  rw [hq] at e3
  clear hq
  go_enter Try.func36, Try.ntmps36
  go_wp2_with (refine wpList_load_saga (by rfl) _ (by rfl) (by rfl) XE.out ?_; simp only [HW1.out, HG.out])
  refine (C.out _).mono ?_
  rintro e w2 ⟨rfl, hl⟩
  have L2 := hide (L1.out.trans hl)
  have Y2 := hide (Y1.out.below hl)
  clear hl C e1 e3
  go_wp2_with (first | (refine wpList_load_saga (by rfl) _ (by rfl) (by rfl) X1.out ?_) | (refine wpList_store_saga (by rfl) _ _ (by rfl) (by rfl) Y2.out (by rfl) ?_; intro w3 Z3 G3))
  have HLF : Hid (Later w _) := L2.out.grown G3 (Below.size L2.out) (fun k hk => by have := Option.some.inj hk; have := HG0.out; omega)
  refine bodyPost_ret (results_cell_row Try.results36 _ _ (g + 1) 27 _ (0, 0) _ (by rfl) Z3 Try.underlying27 (by rfl) (by kernel_rfl)) (by rfl) ?_
  exact ⟨rfl, HLF.out⟩
set_option maxHeartbeats 4000000 in
theorem next_on {s : SagaD} (hq : s.step ≠ (s.n : Int)) (h1 : 0 ≤ s.step) (h8 : s.step ≤ 8) : Calls Try.prog 36 #[s.val] w (Gives (s.at_ 1 (s.step + 1)).val w) := by
  obtain ⟨W1, hW1⟩ : ∃ W1, W1 = (w.alloc (.cells s.cells.toArray 27 (0, 0))).alloc (.cells #[.string ⟨#[]⟩, .slice none 0 0, .int .i64 0, .int .i64 0, .int .i64 0, .bool false, .bool false, .bool false, .bool false, .bool false, .bool false, .bool false, .bool false] 27 (0, 0)) := ⟨_, rfl⟩
  obtain ⟨g, hg⟩ : ∃ g, g = w.heap.size := ⟨_, rfl⟩
  have X1 : Hid (SBox 27 g s W1) := by rw [hW1, hg]; exact (heap_alloc_old _ _ (by simp)).trans (heap_alloc_new _ _)
  have Y1 : Hid (SBox 27 (g + 1) SagaD.zero W1) := by rw [hW1, hg]; exact heap_second _ _ _
  have L1 : Hid (Later w W1) := by rw [hW1]; exact ((Below.refl _ _).alloc (Nat.le_refl _) _).alloc (by simp) _
  have HG0 : Hid (w.heap.size ≤ g) := Nat.le_of_eq hg.symm
  have C := hide (fun W => at_any (w := W) s 1 (s.step + 1))
  have c3 := X1.out.c3
  have HW1 := hide hW1.symm
  have HG := hide hg.symm
  clear hW1 hg 
  have xe := X1.out
  rw [← HW1.out, ← HG.out] at xe
  have XE := hide xe
  clear xe
  have e1 := XE.out.c1
  have e3 := XE.out.c3
  obtain ⟨k, hk⟩ : ∃ k, s.step = k := ⟨_, rfl⟩
  rw [hk] at c3 e3 C hq h1 h8 ⊢
  have hb : (k == (s.n : Int)) = false := by rw [beq_eq_false_iff_ne]; exact hq
  have hwr : IntKind.i64.wrap (k + 1) = k + 1 := wrap_fits (by omega)
  clear hq hk
  go_enter Try.func36, Try.ntmps36
  go_wp2_with (refine wpList_load_saga (by rfl) _ (by rfl) (by rfl) XE.out ?_; simp only [HW1.out, HG.out])
  refine (C.out _).mono ?_
  rintro e w2 ⟨rfl, hl⟩
  have L2 := hide (L1.out.trans hl)
  have Y2 := hide (Y1.out.below hl)
  clear hl C e1 e3
  go_wp2_with (first | (refine wpList_load_saga (by rfl) _ (by rfl) (by rfl) X1.out ?_) | (refine wpList_store_saga (by rfl) _ _ (by rfl) (by rfl) Y2.out (by rfl) ?_; intro w3 Z3 G3))
  have HLF : Hid (Later w _) := L2.out.grown G3 (Below.size L2.out) (fun k hk => by have := Option.some.inj hk; have := HG0.out; omega)
  refine bodyPost_ret (results_cell_row Try.results36 _ _ (g + 1) 27 _ (0, 0) _ (by rfl) Z3 Try.underlying27 (by rfl) (by kernel_rfl)) (by rfl) ?_
  exact ⟨rfl, HLF.out⟩
theorem next_any {s : SagaD} {l : List StepD} (hn : s.n = l.length) (h1 : 1 ≤ s.step) (h8 : s.step ≤ 8) : Calls Try.prog 36 #[s.val] w (Gives (nextS l s).val w) := by
  unfold nextS
  rw [← hn]
  by_cases hq : s.step = (s.n : Int)
  · rw [if_pos hq]; exact next_end hq
  · rw [if_neg hq]; exact next_on hq (by omega) h8
set_option maxHeartbeats 4000000 in
theorem downS_any {F : Nat → Prop} {s : SagaD} {l : List StepD} (h : StepsAt F w s.v l) (hl : l.length ≤ 1000) (h1 : I64 s.step) : Calls Try.prog 35 #[s.val] w (Gives (downS l s).val w) := by
  obtain ⟨W1, hW1⟩ : ∃ W1, W1 = (w.alloc (.cells s.cells.toArray 27 (0, 0))).alloc (.cells #[.string ⟨#[]⟩, .slice none 0 0, .int .i64 0, .int .i64 0, .int .i64 0, .bool false, .bool false, .bool false, .bool false, .bool false, .bool false, .bool false, .bool false] 27 (0, 0)) := ⟨_, rfl⟩
  obtain ⟨g, hg⟩ : ∃ g, g = w.heap.size := ⟨_, rfl⟩
  have X1 : Hid (SBox 27 g s W1) := by rw [hW1, hg]; exact (heap_alloc_old _ _ (by simp)).trans (heap_alloc_new _ _)
  have Y1 : Hid (SBox 27 (g + 1) SagaD.zero W1) := by rw [hW1, hg]; exact heap_second _ _ _
  have L1 : Hid (Later w W1) := by rw [hW1]; exact ((Below.refl _ _).alloc (Nat.le_refl _) _).alloc (by simp) _
  have HG0 : Hid (w.heap.size ≤ g) := Nat.le_of_eq hg.symm
  have C : Hid (∀ W, Later W1 W → Calls Try.prog 49 #[.agg #[.string s.name, .slice s.p s.n s.c], .slice (some ⟨g, 5, none⟩) 8 8, .int .i64 s.step] W fun e w' => e = .returned (.int .i64 ((downF l s.hit.l s.step : Nat) : Int)) ∧ Later W w') := fun W hW => Down_any (StepsAt.kept h (Kept.of_below (L1.out.trans hW) _)) hl (X1.out.below hW).bools h1
  have CA := hide (fun W k => at_any (w := W) s 2 k)
  have CE := hide (fun W => ended_any (w := W) s 4 0)
  obtain ⟨K, hK⟩ : ∃ K, downF l s.hit.l s.step = K := ⟨_, rfl⟩
  obtain ⟨R, hR⟩ : ∃ R, downS l s = R := ⟨_, rfl⟩
  have HD : Hid (R = if K = 0 then s.ended 4 0 else s.at_ 2 (K : Int)) := by show _ = _; rw [← hR, ← hK]; rfl
  rw [hK] at C
  rw [hR]
  have HW1 := hide hW1.symm
  have HG := hide hg.symm
  clear hW1 hg h hl hK h1 hR
  go_enter Try.func35, Try.ntmps35
  go_wp2_with (fail)
  simp only [HW1.out, HG.out]
  have XD := hide (show SBox 27 g s W1.drew from X1.out)
  have LD := hide (L1.out.trans (Later.drew W1))
  refine wp_region_L (by kernel_rfl) ?_
  refine wpAnyL_take (i := 0) (d := some 4) (v := ?vaa0) rfl rfl (by kernel_rfl) (by kernel_rfl) (by kernel_rfl) (fun _ _ _ h => h) (by rfl) ?yaa0 ?_
  case yaa0 => (intro w' hw'; go_simp; try (with_reducible rfl))
  simp only [Act.put]; try simp only [List.setIfInBounds_toArray]; try simp only [List.set_cons_zero, List.set_cons_succ]
  refine wpAnyL_take (i := 1) (d := some 5) (v := .agg #[.string s.name, .slice s.p s.n s.c]) rfl rfl (by kernel_rfl) (by kernel_rfl) (by kernel_rfl) (fun _ _ _ h => h) (by rfl) ?yaa1 ?_
  case yaa1 => (intro w' hw'; exact exec_load_sdef _ (by rfl) (by rfl) (XD.out.below hw'))
  simp only [Act.put]; try simp only [List.setIfInBounds_toArray]; try simp only [List.set_cons_zero, List.set_cons_succ]
  refine wpAnyL_take (i := 2) (d := some 6) (v := ?vaa2) rfl rfl (by kernel_rfl) (by kernel_rfl) (by kernel_rfl) (fun _ _ _ h => h) (by rfl) ?yaa2 ?_
  case yaa2 => (intro w' hw'; go_simp; try (with_reducible rfl))
  simp only [Act.put]; try simp only [List.setIfInBounds_toArray]; try simp only [List.set_cons_zero, List.set_cons_succ]
  refine wpAnyL_take (i := 3) (d := some 7) (v := .slice (some ⟨g, 5, none⟩) 8 8) rfl rfl (by kernel_rfl) (by kernel_rfl) (by kernel_rfl) (fun _ _ _ h => h) (by rfl) ?yaa3 ?_
  case yaa3 => (intro w' hw'; go_simp; try (with_reducible rfl))
  simp only [Act.put]; try simp only [List.setIfInBounds_toArray]; try simp only [List.set_cons_zero, List.set_cons_succ]
  refine wpAnyL_take (i := 4) (d := some 8) (v := ?vaa4) rfl rfl (by kernel_rfl) (by kernel_rfl) (by kernel_rfl) (fun _ _ _ h => h) (by rfl) ?yaa4 ?_
  case yaa4 => (intro w' hw'; go_simp; try (with_reducible rfl))
  simp only [Act.put]; try simp only [List.setIfInBounds_toArray]; try simp only [List.set_cons_zero, List.set_cons_succ]
  refine wpAnyL_take (i := 5) (d := some 9) (v := ?vaa5) rfl rfl (by kernel_rfl) (by kernel_rfl) (by kernel_rfl) (fun _ _ _ h => h) (by rfl) ?yaa5 ?_
  case yaa5 => (intro w' hw'; have c3 := (XD.out.below hw').c3; go_simp; try (with_reducible rfl))
  simp only [Act.put]; try simp only [List.setIfInBounds_toArray]; try simp only [List.set_cons_zero, List.set_cons_succ]
  refine wpAnyL_only (i := 6) rfl (by kernel_rfl) (by rfl) fun K hK => ?_
  go_simp
  refine (C.out _ (Later.drew W1)).mono ?_
  rintro e w_6 ⟨rfl, hl_⟩
  have L6 := hide (LD.out.trans hl_)
  have X6 := hide (XD.out.below hl_)
  have Y6 := hide (SBox.below (show SBox 27 (g + 1) SagaD.zero W1.drew from Y1.out) hl_)
  refine hK.out _ _ hl_ ?_
  clear hl_
  clear hK K
  try (simp only [Act.put]; try simp only [List.setIfInBounds_toArray]; try simp only [List.set_cons_zero, List.set_cons_succ])
  refine wpAnyL_take (i := 7) (d := some 3) (v := ?vaa7) rfl rfl (by kernel_rfl) (by kernel_rfl) (by kernel_rfl) (fun _ _ _ h => h) (by rfl) ?yaa7 ?_
  case yaa7 => (intro w' hw'; go_simp; try (with_reducible rfl))
  simp only [Act.put]; try simp only [List.setIfInBounds_toArray]; try simp only [List.set_cons_zero, List.set_cons_succ]
  refine wpAnyL_done (by kernel_rfl) ?_ _
  clear C
  by_cases hk : K = 0
  · subst hk
    obtain rfl : R = s.ended 4 0 := by rw [HD.out, if_pos rfl]
    clear HD
    go_wp2_with (refine wpList_load_saga (by rfl) _ (by rfl) (by rfl) X6.out ?_)
    refine (CE.out _).mono ?_
    rintro e w2 ⟨rfl, hl⟩
    have L2 := hide (L6.out.trans hl)
    have Y2 := hide (Y6.out.below hl)
    clear hl CE CA
    go_wp2_with (first | (refine wpList_load_saga (by rfl) _ (by rfl) (by rfl) X6.out ?_) | (refine wpList_store_saga (by rfl) _ _ (by rfl) (by rfl) Y2.out (by rfl) ?_; intro w3 Z3 G3))
    have HLF : Hid (Later w _) := L2.out.grown G3 (Below.size L2.out) (fun k hk => by have := Option.some.inj hk; have := HG0.out; omega)
    refine bodyPost_ret (results_cell_row Try.results35 _ _ (g + 1) 27 _ (0, 0) _ (by rfl) Z3 Try.underlying27 (by rfl) (by kernel_rfl)) (by rfl) ?_
    exact ⟨rfl, HLF.out⟩
  · obtain rfl : R = s.at_ 2 (K : Int) := by rw [HD.out, if_neg hk]
    have hk0 : 0 < (K : Int) := by omega
    clear HD
    go_wp2_with (refine wpList_load_saga (by rfl) _ (by rfl) (by rfl) X6.out ?_)
    refine (CA.out _ _).mono ?_
    rintro e w2 ⟨rfl, hl⟩
    have L2 := hide (L6.out.trans hl)
    have Y2 := hide (Y6.out.below hl)
    clear hl CE CA
    go_wp2_with (first | (refine wpList_load_saga (by rfl) _ (by rfl) (by rfl) X6.out ?_) | (refine wpList_store_saga (by rfl) _ _ (by rfl) (by rfl) Y2.out (by rfl) ?_; intro w3 Z3 G3))
    have HLF : Hid (Later w _) := L2.out.grown G3 (Below.size L2.out) (fun k hk => by have := Option.some.inj hk; have := HG0.out; omega)
    refine bodyPost_ret (results_cell_row Try.results35 _ _ (g + 1) 27 _ (0, 0) _ (by rfl) Z3 Try.underlying27 (by rfl) (by kernel_rfl)) (by rfl) ?_
    exact ⟨rfl, HLF.out⟩
set_option maxHeartbeats 4000000 in
theorem failsS_any {F : Nat → Prop} {s : SagaD} {l : List StepD} (h : StepsAt F w s.v l) (hl : l.length ≤ 1000) (h1 : I64 s.step) : Calls Try.prog 47 #[s.val] w (Gives (failsS l s).val w) := by
  obtain ⟨W1, hW1⟩ : ∃ W1, W1 = (w.alloc (.cells s.cells.toArray 27 (0, 0))).alloc (.cells #[.string ⟨#[]⟩, .slice none 0 0, .int .i64 0, .int .i64 0, .int .i64 0, .bool false, .bool false, .bool false, .bool false, .bool false, .bool false, .bool false, .bool false] 27 (0, 0)) := ⟨_, rfl⟩
  obtain ⟨g, hg⟩ : ∃ g, g = w.heap.size := ⟨_, rfl⟩
  have X1 : Hid (SBox 27 g s W1) := by rw [hW1, hg]; exact (heap_alloc_old _ _ (by simp)).trans (heap_alloc_new _ _)
  have Y1 : Hid (SBox 27 (g + 1) SagaD.zero W1) := by rw [hW1, hg]; exact heap_second _ _ _
  have L1 : Hid (Later w W1) := by rw [hW1]; exact ((Below.refl _ _).alloc (Nat.le_refl _) _).alloc (by simp) _
  have HG0 : Hid (w.heap.size ≤ g) := Nat.le_of_eq hg.symm
  have C : Hid (∀ W, Later W1 W → Calls Try.prog 45 #[s.val] W (Gives (.bool (sealedS l s)) W)) := fun W hW => sealedS_any (StepsAt.kept h (Kept.of_below (L1.out.trans hW) _)) hl
  have CD : Hid (∀ W, Later W1 W → Calls Try.prog 35 #[s.val] W (Gives (downS l s).val W)) := fun W hW => downS_any (StepsAt.kept h (Kept.of_below (L1.out.trans hW) _)) hl h1
  have CE := hide (fun W => ended_any (w := W) s 5 s.step)
  obtain ⟨q, hq⟩ : ∃ q, sealedS l s = q := ⟨_, rfl⟩
  obtain ⟨R, hR⟩ : ∃ R, failsS l s = R := ⟨_, rfl⟩
  have HD : Hid (R = if q then s.ended 5 s.step else downS l s) := by show _ = _; rw [← hR, ← hq]; rfl
  rw [hq] at C
  rw [hR]
  have HW1 := hide hW1.symm
  have HG := hide hg.symm
  clear hW1 hg h hl hq h1 hR
  have xe := X1.out
  rw [← HW1.out, ← HG.out] at xe
  have XE := hide xe
  clear xe
  go_enter Try.func47, Try.ntmps47
  go_wp2_with (refine wpList_load_saga (by rfl) _ (by rfl) (by rfl) XE.out ?_; simp only [HW1.out, HG.out])
  refine (C.out _ (Later.refl _)).mono ?_
  rintro e w2 ⟨rfl, hl⟩
  have L12 := hide hl
  have L2 := hide (L1.out.trans hl)
  have X2 := hide (X1.out.below hl)
  have Y2 := hide (Y1.out.below hl)
  clear hl C
  cases q with
  | true =>
    obtain rfl : R = s.ended 5 s.step := by rw [HD.out, if_pos rfl]
    clear HD
    have c3 := X2.out.c3
    go_wp2_with (refine wpList_load_saga (by rfl) _ (by rfl) (by rfl) X2.out ?_)
    refine (CE.out _).mono ?_
    rintro e w3 ⟨rfl, hl⟩
    have L3 := hide (L2.out.trans hl)
    have Y3 := hide (Y2.out.below hl)
    clear hl CE CD c3
    go_wp2_with (first | (refine wpList_load_saga (by rfl) _ (by rfl) (by rfl) X2.out ?_) | (refine wpList_store_saga (by rfl) _ _ (by rfl) (by rfl) Y3.out (by rfl) ?_; intro w4 Z4 G4))
    have HLF : Hid (Later w _) := L3.out.grown G4 (Below.size L3.out) (fun k hk => by have := Option.some.inj hk; have := HG0.out; omega)
    refine bodyPost_ret (results_cell_row Try.results47 _ _ (g + 1) 27 _ (0, 0) _ (by rfl) Z4 Try.underlying27 (by rfl) (by kernel_rfl)) (by rfl) ?_
    exact ⟨rfl, HLF.out⟩
  | false =>
    obtain rfl : R = downS l s := by rw [HD.out, if_neg (by simp)]
    clear HD
    go_wp2_with (refine wpList_load_saga (by rfl) _ (by rfl) (by rfl) X2.out ?_)
    refine (CD.out _ L12.out).mono ?_
    rintro e w3 ⟨rfl, hl⟩
    have L3 := hide (L2.out.trans hl)
    have Y3 := hide (Y2.out.below hl)
    clear hl CE CD
    go_wp2_with (first | (refine wpList_load_saga (by rfl) _ (by rfl) (by rfl) X2.out ?_) | (refine wpList_store_saga (by rfl) _ _ (by rfl) (by rfl) Y3.out (by rfl) ?_; intro w4 Z4 G4))
    have HLF : Hid (Later w _) := L3.out.grown G4 (Below.size L3.out) (fun k hk => by have := Option.some.inj hk; have := HG0.out; omega)
    refine bodyPost_ret (results_cell_row Try.results47 _ _ (g + 1) 27 _ (0, 0) _ (by rfl) Z4 Try.underlying27 (by rfl) (by kernel_rfl)) (by rfl) ?_
    exact ⟨rfl, HLF.out⟩
set_option maxHeartbeats 8000000 in
theorem missed_any {F : Nat → Prop} {s : SagaD} {l : List StepD} (h : StepsAt F w s.v l) (hl : l.length ≤ 1000) (hw : ∀ x ∈ l, x.wf) (h1 : I64 s.step) (h2 : 0 ≤ s.tr) (h3 : s.tr ≤ 900) : Calls Try.prog 33 #[s.val] w (Gives (missedS l s).val w) := by
  obtain ⟨W1, hW1⟩ : ∃ W1, W1 = (w.alloc (.cells s.cells.toArray 27 (0, 0))).alloc (.cells #[.string ⟨#[]⟩, .slice none 0 0, .int .i64 0, .int .i64 0, .int .i64 0, .bool false, .bool false, .bool false, .bool false, .bool false, .bool false, .bool false, .bool false] 27 (0, 0)) := ⟨_, rfl⟩
  obtain ⟨g, hg⟩ : ∃ g, g = w.heap.size := ⟨_, rfl⟩
  have X1 : Hid (SBox 27 g s W1) := by rw [hW1, hg]; exact (heap_alloc_old _ _ (by simp)).trans (heap_alloc_new _ _)
  have Y1 : Hid (SBox 27 (g + 1) SagaD.zero W1) := by rw [hW1, hg]; exact heap_second _ _ _
  have L1 : Hid (Later w W1) := by rw [hW1]; exact ((Below.refl _ _).alloc (Nat.le_refl _) _).alloc (by simp) _
  have HG0 : Hid (w.heap.size ≤ g) := Nat.le_of_eq hg.symm
  have C : Hid (∀ W, Later W1 W → Calls Try.prog 24 #[.agg #[.string s.name, .slice s.p s.n s.c], .int .i64 s.step] W fun e w' => e = .returned (.int .i64 (triesN l s.step)) ∧ Later W w') := fun W hW => Tries_any (StepsAt.kept h (Kept.of_below (L1.out.trans hW) _)) h1 hw
  have CF : Hid (∀ W, Later W1 W → Calls Try.prog 47 #[s.val] W (Gives (failsS l s).val W)) := fun W hW => failsS_any (StepsAt.kept h (Kept.of_below (L1.out.trans hW) _)) hl h1
  have CE := hide (fun W => ended_any (w := W) s 5 s.step)
  obtain ⟨T, hT⟩ : ∃ T, triesN l s.step = T := ⟨_, rfl⟩
  obtain ⟨R, hR⟩ : ∃ R, missedS l s = R := ⟨_, rfl⟩
  have HD : Hid (R = if s.tr < T then ⟨s.name, s.p, s.n, s.c, s.st, s.step, s.tr + 1, s.hit⟩ else if s.st = 2 then s.ended 5 s.step else failsS l s) := by show _ = _; rw [← hR, ← hT]; rfl
  rw [hT] at C
  rw [hR]
  have hwr : IntKind.i64.wrap (s.tr + 1) = s.tr + 1 := wrap_fits (by omega)
  have HW1 := hide hW1.symm
  have HG := hide hg.symm
  clear hW1 hg h hl hT h1 h2 h3 hw hR
  go_enter Try.func33, Try.ntmps33
  go_wp2_with (fail)
  simp only [HW1.out, HG.out]
  have XD := hide (show SBox 27 g s W1.drew from X1.out)
  have LD := hide (L1.out.trans (Later.drew W1))
  refine wp_region_L (by kernel_rfl) ?_
  refine wpAnyL_take (i := 0) (d := some 4) (v := ?vaa0) rfl rfl (by kernel_rfl) (by kernel_rfl) (by kernel_rfl) (fun _ _ _ h => h) (by rfl) ?yaa0 ?_
  case yaa0 => (intro w' hw'; go_simp; try (with_reducible rfl))
  simp only [Act.put]; try simp only [List.setIfInBounds_toArray]; try simp only [List.set_cons_zero, List.set_cons_succ]
  refine wpAnyL_take (i := 1) (d := some 5) (v := ?vaa1) rfl rfl (by kernel_rfl) (by kernel_rfl) (by kernel_rfl) (fun _ _ _ h => h) (by rfl) ?yaa1 ?_
  case yaa1 => (intro w' hw'; have c4 := (XD.out.below hw').c4; go_simp; try (with_reducible rfl))
  simp only [Act.put]; try simp only [List.setIfInBounds_toArray]; try simp only [List.set_cons_zero, List.set_cons_succ]
  refine wpAnyL_take (i := 2) (d := some 6) (v := ?vaa2) rfl rfl (by kernel_rfl) (by kernel_rfl) (by kernel_rfl) (fun _ _ _ h => h) (by rfl) ?yaa2 ?_
  case yaa2 => (intro w' hw'; go_simp; try (with_reducible rfl))
  simp only [Act.put]; try simp only [List.setIfInBounds_toArray]; try simp only [List.set_cons_zero, List.set_cons_succ]
  refine wpAnyL_take (i := 3) (d := some 7) (v := .agg #[.string s.name, .slice s.p s.n s.c]) rfl rfl (by kernel_rfl) (by kernel_rfl) (by kernel_rfl) (fun _ _ _ h => h) (by rfl) ?yaa3 ?_
  case yaa3 => (intro w' hw'; exact exec_load_sdef _ (by rfl) (by rfl) (XD.out.below hw'))
  simp only [Act.put]; try simp only [List.setIfInBounds_toArray]; try simp only [List.set_cons_zero, List.set_cons_succ]
  refine wpAnyL_take (i := 4) (d := some 8) (v := ?vaa4) rfl rfl (by kernel_rfl) (by kernel_rfl) (by kernel_rfl) (fun _ _ _ h => h) (by rfl) ?yaa4 ?_
  case yaa4 => (intro w' hw'; go_simp; try (with_reducible rfl))
  simp only [Act.put]; try simp only [List.setIfInBounds_toArray]; try simp only [List.set_cons_zero, List.set_cons_succ]
  refine wpAnyL_take (i := 5) (d := some 9) (v := ?vaa5) rfl rfl (by kernel_rfl) (by kernel_rfl) (by kernel_rfl) (fun _ _ _ h => h) (by rfl) ?yaa5 ?_
  case yaa5 => (intro w' hw'; have c3 := (XD.out.below hw').c3; go_simp; try (with_reducible rfl))
  simp only [Act.put]; try simp only [List.setIfInBounds_toArray]; try simp only [List.set_cons_zero, List.set_cons_succ]
  refine wpAnyL_only (i := 6) rfl (by kernel_rfl) (by rfl) fun K hK => ?_
  go_simp
  refine (C.out _ (Later.drew W1)).mono ?_
  rintro e w_6 ⟨rfl, hl_⟩
  have L16 := hide ((Later.drew W1).trans hl_)
  have L6 := hide (LD.out.trans hl_)
  have X6 := hide (XD.out.below hl_)
  have Y6 := hide (SBox.below (show SBox 27 (g + 1) SagaD.zero W1.drew from Y1.out) hl_)
  refine hK.out _ _ hl_ ?_
  clear hl_
  clear hK K
  try (simp only [Act.put]; try simp only [List.setIfInBounds_toArray]; try simp only [List.set_cons_zero, List.set_cons_succ])
  refine wpAnyL_take (i := 7) (d := some 11) (v := ?vaa7) rfl rfl (by kernel_rfl) (by kernel_rfl) (by kernel_rfl) (fun _ _ _ h => h) (by rfl) ?yaa7 ?_
  case yaa7 => (intro w' hw'; go_simp; try (with_reducible rfl))
  simp only [Act.put]; try simp only [List.setIfInBounds_toArray]; try simp only [List.set_cons_zero, List.set_cons_succ]
  refine wpAnyL_take (i := 8) (d := some 3) (v := ?vaa8) rfl rfl (by kernel_rfl) (by kernel_rfl) (by kernel_rfl) (fun _ _ _ h => h) (by rfl) ?yaa8 ?_
  case yaa8 => (intro w' hw'; go_simp; try (with_reducible rfl))
  simp only [Act.put]; try simp only [List.setIfInBounds_toArray]; try simp only [List.set_cons_zero, List.set_cons_succ]
  refine wpAnyL_done (by kernel_rfl) ?_ _
  clear C
  by_cases hk : s.tr < T
  · obtain rfl : R = ⟨s.name, s.p, s.n, s.c, s.st, s.step, s.tr + 1, s.hit⟩ := by rw [HD.out, if_pos hk]
    clear HD
    have c4 := X6.out.c4
    have f4 := X6.out.thaw 4
    have X7 : Hid (SBox 27 g ⟨s.name, s.p, s.n, s.c, s.st, s.step, s.tr + 1, s.hit⟩ (w_6.setCell ⟨g, 4, none⟩ (.int .i64 (s.tr + 1)))) := heap_setCell_same w_6 g 4 _ _ _ X6.out
    have Y7 : Hid (SBox 27 (g + 1) SagaD.zero (w_6.setCell ⟨g, 4, none⟩ (.int .i64 (s.tr + 1)))) := (heap_setCell_other _ _ _ _ (by simp)).trans Y6.out
    have L7 : Hid (Later w (w_6.setCell ⟨g, 4, none⟩ (.int .i64 (s.tr + 1)))) := L6.out.setCell (p := ⟨g, 4, none⟩) HG0.out _
    go_wp2_with (first | (refine wpList_load_saga (by rfl) _ (by rfl) (by rfl) X7.out ?_) | (refine wpList_store_saga (by rfl) _ _ (by rfl) (by rfl) Y7.out (by rfl) ?_; intro w8 Z8 G8))
    have HLF : Hid (Later w _) := L7.out.grown G8 (Below.size L7.out) (fun k hk => by have := Option.some.inj hk; have := HG0.out; omega)
    refine bodyPost_ret (results_cell_row Try.results33 _ _ (g + 1) 27 _ (0, 0) _ (by rfl) Z8 Try.underlying27 (by rfl) (by kernel_rfl)) (by rfl) ?_
    exact ⟨rfl, HLF.out⟩
  · have c2 := X6.out.c2
    by_cases h2 : s.st = 2
    · obtain rfl : R = s.ended 5 s.step := by rw [HD.out, if_neg hk, if_pos h2]
      clear HD
      rw [h2] at c2
      have c3 := X6.out.c3
      clear h2
      go_wp2_with (refine wpList_load_saga (by rfl) _ (by rfl) (by rfl) X6.out ?_)
      refine (CE.out _).mono ?_
      rintro e w2 ⟨rfl, hl⟩
      have L2 := hide (L6.out.trans hl)
      have Y2 := hide (Y6.out.below hl)
      clear hl CE CF c2 c3
      go_wp2_with (first | (refine wpList_load_saga (by rfl) _ (by rfl) (by rfl) X6.out ?_) | (refine wpList_store_saga (by rfl) _ _ (by rfl) (by rfl) Y2.out (by rfl) ?_; intro w3 Z3 G3))
      have HLF : Hid (Later w _) := L2.out.grown G3 (Below.size L2.out) (fun k hk => by have := Option.some.inj hk; have := HG0.out; omega)
      refine bodyPost_ret (results_cell_row Try.results33 _ _ (g + 1) 27 _ (0, 0) _ (by rfl) Z3 Try.underlying27 (by rfl) (by kernel_rfl)) (by rfl) ?_
      exact ⟨rfl, HLF.out⟩
    · obtain rfl : R = failsS l s := by rw [HD.out, if_neg hk, if_neg h2]
      clear HD
      have hb : (s.st == (2 : Int)) = false := by rw [beq_eq_false_iff_ne]; exact h2
      go_wp2_with (refine wpList_load_saga (by rfl) _ (by rfl) (by rfl) X6.out ?_)
      refine (CF.out _ L16.out).mono ?_
      rintro e w2 ⟨rfl, hl⟩
      have L2 := hide (L6.out.trans hl)
      have Y2 := hide (Y6.out.below hl)
      clear hl CE CF c2
      go_wp2_with (first | (refine wpList_load_saga (by rfl) _ (by rfl) (by rfl) X6.out ?_) | (refine wpList_store_saga (by rfl) _ _ (by rfl) (by rfl) Y2.out (by rfl) ?_; intro w3 Z3 G3))
      have HLF : Hid (Later w _) := L2.out.grown G3 (Below.size L2.out) (fun k hk => by have := Option.some.inj hk; have := HG0.out; omega)
      refine bodyPost_ret (results_cell_row Try.results33 _ _ (g + 1) 27 _ (0, 0) _ (by rfl) Z3 Try.underlying27 (by rfl) (by kernel_rfl)) (by rfl) ?_
      exact ⟨rfl, HLF.out⟩
end
end Go.Proofs.Ytodifeoficjamaa
/- A long chain of '&&' over fields of two structs, one conjunct at a time: the frame is known by four of its slots alone. -/
namespace Go.Proofs.Ytodifeoficjamaa
open Go.RowKit

/-- The frame: two addresses in slots 2 and 3, and what holds so far in slot k. -/
structure Fr (X Y : Value) (k : Nat) (c : Bool) (n : Nat) (a : Act) : Prop where
  x : a.tmps[2]? = some X
  y : a.tmps[3]? = some Y
  c : a.tmps[k]? = some (.bool c)
  n : a.tmps.size = n
  d : a.defers = []
theorem put_tmps (a : Act) (d : Nat) (v : Value) (i : Nat) : (a.put (some d) v).tmps[i]? = if d = i then (if i < a.tmps.size then some v else none) else a.tmps[i]? := by
  show (a.tmps.setIfInBounds d v)[i]? = _
  rw [Array.getElem?_setIfInBounds]
  by_cases h : d = i
  · subst h
    simp
  · simp [h]
theorem put_same (a : Act) (d : Nat) (v : Value) (h : d < a.tmps.size) : (a.put (some d) v).tmps[d]? = some v := by rw [put_tmps, if_pos rfl, if_pos h]
theorem put_other (a : Act) (d : Nat) (v : Value) (i : Nat) (h : d ≠ i) : (a.put (some d) v).tmps[i]? = a.tmps[i]? := by rw [put_tmps, if_neg h]
theorem put_size (a : Act) (d : Nat) (v : Value) : (a.put (some d) v).tmps.size = a.tmps.size := by simp [Act.put]
theorem eval_of {a : Act} {i : Nat} {v : Value} (h : a.tmps[i]? = some v) : a.eval (.tmp i) = v := by
  show a.tmps.getD i undef = v
  rw [Array.getD_eq_getD_getElem?, h]
  rfl
/-- The same without a word of what holds so far. -/
structure Fr0 (X Y : Value) (n : Nat) (a : Act) : Prop where
  x : a.tmps[2]? = some X
  y : a.tmps[3]? = some Y
  n : a.tmps.size = n
  d : a.defers = []
section
variable {X Y : Value} {k n : Nat} {c : Bool} {a : Act}
theorem Fr0.put (h : Fr0 X Y n a) (d : Nat) (v : Value) (h2 : d ≠ 2) (h3 : d ≠ 3) : Fr0 X Y n (a.put (some d) v) := ⟨(put_other a d v 2 h2).trans h.x, (put_other a d v 3 h3).trans h.y, (put_size a d v).trans h.n, h.d⟩
theorem Fr.put (h : Fr X Y k c n a) (d : Nat) (v : Value) (h2 : d ≠ 2) (h3 : d ≠ 3) (hk : d ≠ k) : Fr X Y k c n (a.put (some d) v) :=
  ⟨(put_other a d v 2 h2).trans h.x, (put_other a d v 3 h3).trans h.y, (put_other a d v k hk).trans h.c, (put_size a d v).trans h.n, h.d⟩
variable {P : Program} {ops : Array Oper} {Q : Exit → Act → World → Prop} {rest : List Oper} {w : World}
theorem wpList_val {o : Oper} {d : Nat} {v : Value} {w' : World} (hd : o.dst = some d) (hw : Region.wanted o (yielded ops a.tmps) = true) (hx : (execOp a.eval o).run P w = .ok (.value v) w')
    (h : wpList P ops Q rest (a.put (some d) v) w') : wpList P ops Q (o :: rest) a w := by
  refine wpList_step fun K hK => ?_
  rw [if_pos hw]
  unfold Oper.wp
  rw [hx, Oper.upon_value, hd]
  exact hK _ _ h
theorem want_true {o : Oper} {j : Nat} {k : Nat} (hg : o.guard = some (j, true)) (hj : (ops[j]?).bind (·.dst) = some k) (hk : a.tmps[k]? = some (.bool true)) : Region.wanted o (yielded ops a.tmps) = true := by
  unfold Region.wanted yielded
  rw [hg]
  simp only [hj, Option.bind_some, hk]
  rfl
theorem want_false {o : Oper} {j : Nat} {k : Nat} (hg : o.guard = some (j, true)) (hj : (ops[j]?).bind (·.dst) = some k) (hk : a.tmps[k]? = some (.bool false)) : Region.wanted o (yielded ops a.tmps) = false := by
  unfold Region.wanted yielded
  rw [hg]
  simp only [hj, Option.bind_some, hk]
  rfl
theorem want_none {o : Oper} (hg : o.guard = none) : Region.wanted o (yielded ops a.tmps) = true := by
  unfold Region.wanted
  rw [hg]
theorem skip_one {o : Oper} {j d : Nat} (h : Fr X Y k false n a) (hj : (ops[j]?).bind (·.dst) = some k) (hd : o.dst = some d) (hg : o.guard = some (j, true)) (h2 : d ≠ 2) (h3 : d ≠ 3) (hk : d ≠ k)
    (next : ∀ a', Fr X Y k false n a' → wpList P ops Q rest a' w) : wpList P ops Q (o :: rest) a w := by
  refine wpList_skip (want_false hg hj h.c) ?_
  rw [hd]
  exact next _ (h.put d undef h2 h3 hk)

/-- One conjunct: the operations at slots s to s + 4 are wanted just if all holds so far; then the pick, then a move. -/
theorem conj {q : Bool} {s : Nat} {W : World → Prop} (j t : Nat) (h : Fr X Y k c n a) (hj : (ops[j]?).bind (·.dst) = some k) (hs : k < s) (hs3 : 3 < s) (hn : s + 6 ≤ n) (ht : 3 < t) (htn : t < n) (hW : W w)
    {o1 o2 o3 o4 o5 o6 o7 : Oper} {px py vx vy : Value}
    (g1 : o1.dst = some s ∧ o1.guard = some (j, true)) (g2 : o2.dst = some (s + 1) ∧ o2.guard = some (j, true)) (g3 : o3.dst = some (s + 2) ∧ o3.guard = some (j, true)) (g4 : o4.dst = some (s + 3) ∧ o4.guard = some (j, true)) (g5 : o5.dst = some (s + 4) ∧ o5.guard = some (j, true))
    (g6 : o6.op = .pick (.tmp k) (.tmp (s + 4)) (.const (.bool false)) ∧ o6.dst = some (s + 5) ∧ o6.guard = none) (g7 : (o7.op = .move (.tmp (s + 5)) ∨ o7.op = .assign (.tmp (s + 5))) ∧ o7.dst = some t ∧ o7.guard = none)
    (e1 : ∀ a' : Act, a'.tmps[2]? = some X → (execOp a'.eval o1).run P w = .ok (.value px) w)
    (e2 : ∀ a' : Act, a'.tmps[s]? = some px → (execOp a'.eval o2).run P w = .ok (.value vx) w)
    (e3 : ∀ a' : Act, a'.tmps[3]? = some Y → (execOp a'.eval o3).run P w = .ok (.value py) w)
    (e4 : ∀ a' : Act, a'.tmps[(s + 2)]? = some py → (execOp a'.eval o4).run P w = .ok (.value vy) w)
    (e5 : ∀ (a' : Act) (r : List Oper), a'.tmps[(s + 1)]? = some vx → a'.tmps[(s + 3)]? = some vy → Region.wanted o5 (yielded ops a'.tmps) = true → (∀ w', W w' → wpList P ops Q r (a'.put (some (s + 4)) (.bool q)) w') → wpList P ops Q (o5 :: r) a' w)
    (next : ∀ a' w', Fr X Y t (c && q) n a' → W w' → wpList P ops Q rest a' w') : wpList P ops Q (o1 :: o2 :: o3 :: o4 :: o5 :: o6 :: o7 :: rest) a w := by
  have last : ∀ (a' : Act) (w' : World) (b : Bool), Fr X Y k c n a' → (c = true → a'.tmps[s + 4]? = some (.bool q)) → W w' → wpList P ops Q (o6 :: o7 :: rest) a' w' := by
    intro a' w' b h' hq hw'
    refine wpList_val (w' := w') (v := .bool (c && q)) g6.2.1 (want_none g6.2.2) ?_ ?_
    · unfold execOp
      simp only [g6.1, eval_of h'.c]
      cases c with
      | false => rfl
      | true =>
        simp only [eval_of (hq rfl)]
        rfl
    · refine wpList_val (w' := w') (v := .bool (c && q)) g7.2.1 (want_none g7.2.2) ?_ ?_
      · unfold execOp
        rcases g7.1 with g | g <;> (simp only [g, eval_of (put_same a' (s + 5) (.bool (c && q)) (by have := h'.n; omega))]; rfl)
      · have h5 := h'.put (s + 5) (.bool (c && q)) (by omega) (by omega) (by omega)
        exact next _ _ ⟨(put_other _ t _ 2 (by omega)).trans h5.x, (put_other _ t _ 3 (by omega)).trans h5.y, put_same _ _ _ (by have := h5.n; omega), (put_size _ _ _).trans h5.n, h5.d⟩ hw'
  cases c with
  | false =>
    refine skip_one h hj g1.1 g1.2 (by omega) (by omega) (by omega) fun a1 h1 => ?_
    refine skip_one h1 hj g2.1 g2.2 (by omega) (by omega) (by omega) fun a2 h2 => ?_
    refine skip_one h2 hj g3.1 g3.2 (by omega) (by omega) (by omega) fun a3 h3 => ?_
    refine skip_one h3 hj g4.1 g4.2 (by omega) (by omega) (by omega) fun a4 h4 => ?_
    refine skip_one h4 hj g5.1 g5.2 (by omega) (by omega) (by omega) fun a5 h5 => ?_
    exact last a5 w false h5 (fun h => by cases h) hW
  | true =>
    have sz := h.n
    refine wpList_val g1.1 (want_true g1.2 hj h.c) (e1 a h.x) ?_
    have h1 := h.put s px (by omega) (by omega) (by omega)
    have t1 : (a.put (some s) px).tmps[s]? = some px := put_same a s px (by omega)
    refine wpList_val g2.1 (want_true g2.2 hj h1.c) (e2 _ t1) ?_
    have h2 := h1.put (s + 1) vx (by omega) (by omega) (by omega)
    have t2 := put_same (a.put (some s) px) (s + 1) vx (by have := h1.n; omega)
    refine wpList_val g3.1 (want_true g3.2 hj h2.c) (e3 _ h2.y) ?_
    have h3 := h2.put (s + 2) py (by omega) (by omega) (by omega)
    have t3 := put_same ((a.put (some s) px).put (some (s + 1)) vx) (s + 2) py (by have := h2.n; omega)
    have t2' := (put_other ((a.put (some s) px).put (some (s + 1)) vx) (s + 2) py (s + 1) (by omega)).trans t2
    refine wpList_val g4.1 (want_true g4.2 hj h3.c) (e4 _ t3) ?_
    have h4 := h3.put (s + 3) vy (by omega) (by omega) (by omega)
    have t4 := put_same (((a.put (some s) px).put (some (s + 1)) vx).put (some (s + 2)) py) (s + 3) vy (by have := h3.n; omega)
    have t2'' := (put_other (((a.put (some s) px).put (some (s + 1)) vx).put (some (s + 2)) py) (s + 3) vy (s + 1) (by omega)).trans t2'
    refine e5 _ _ t2'' t4 (want_true g5.2 hj h4.c) fun w' hw' => ?_
    have h5 := h4.put (s + 4) (.bool q) (by omega) (by omega) (by omega)
    exact last _ w' true h5 (fun _ => put_same _ _ _ (by have := h4.n; omega)) hw'
/-- One conjunct over fields of fields: the operations at slots s to s + 6 are wanted just if all holds so far; then the pick, then a move. -/
theorem conj2 {q : Bool} {s : Nat} {W : World → Prop} (j t : Nat) (h : Fr X Y k c n a) (hj : (ops[j]?).bind (·.dst) = some k) (hs : k < s) (hs3 : 3 < s) (hn : s + 8 ≤ n) (ht : 3 < t) (htn : t < n) (hW : W w)
    {o1 o1' o2 o3 o3' o4 o5 o6 o7 : Oper} {px px' py py' vx vy : Value}
    (g1 : o1.dst = some s ∧ o1.guard = some (j, true)) (g1' : o1'.dst = some (s + 1) ∧ o1'.guard = some (j, true)) (g2 : o2.dst = some (s + 2) ∧ o2.guard = some (j, true)) (g3 : o3.dst = some (s + 3) ∧ o3.guard = some (j, true)) (g3' : o3'.dst = some (s + 4) ∧ o3'.guard = some (j, true)) (g4 : o4.dst = some (s + 5) ∧ o4.guard = some (j, true)) (g5 : o5.dst = some (s + 6) ∧ o5.guard = some (j, true))
    (g6 : o6.op = .pick (.tmp k) (.tmp (s + 6)) (.const (.bool false)) ∧ o6.dst = some (s + 7) ∧ o6.guard = none) (g7 : (o7.op = .move (.tmp (s + 7)) ∨ o7.op = .assign (.tmp (s + 7))) ∧ o7.dst = some t ∧ o7.guard = none)
    (e1 : ∀ a' : Act, a'.tmps[2]? = some X → (execOp a'.eval o1).run P w = .ok (.value px) w)
    (e1' : ∀ a' : Act, a'.tmps[s]? = some px → (execOp a'.eval o1').run P w = .ok (.value px') w)
    (e2 : ∀ a' : Act, a'.tmps[s + 1]? = some px' → (execOp a'.eval o2).run P w = .ok (.value vx) w)
    (e3 : ∀ a' : Act, a'.tmps[3]? = some Y → (execOp a'.eval o3).run P w = .ok (.value py) w)
    (e3' : ∀ a' : Act, a'.tmps[s + 3]? = some py → (execOp a'.eval o3').run P w = .ok (.value py') w)
    (e4 : ∀ a' : Act, a'.tmps[s + 4]? = some py' → (execOp a'.eval o4).run P w = .ok (.value vy) w)
    (e5 : ∀ (a' : Act) (r : List Oper), a'.tmps[(s + 2)]? = some vx → a'.tmps[(s + 5)]? = some vy → Region.wanted o5 (yielded ops a'.tmps) = true → (∀ w', W w' → wpList P ops Q r (a'.put (some (s + 6)) (.bool q)) w') → wpList P ops Q (o5 :: r) a' w)
    (next : ∀ a' w', Fr X Y t (c && q) n a' → W w' → wpList P ops Q rest a' w') : wpList P ops Q (o1 :: o1' :: o2 :: o3 :: o3' :: o4 :: o5 :: o6 :: o7 :: rest) a w := by
  have last : ∀ (a' : Act) (w' : World) (b : Bool), Fr X Y k c n a' → (c = true → a'.tmps[s + 6]? = some (.bool q)) → W w' → wpList P ops Q (o6 :: o7 :: rest) a' w' := by
    intro a' w' b h' hq hw'
    refine wpList_val (w' := w') (v := .bool (c && q)) g6.2.1 (want_none g6.2.2) ?_ ?_
    · unfold execOp
      simp only [g6.1, eval_of h'.c]
      cases c with
      | false => rfl
      | true =>
        simp only [eval_of (hq rfl)]
        rfl
    · refine wpList_val (w' := w') (v := .bool (c && q)) g7.2.1 (want_none g7.2.2) ?_ ?_
      · unfold execOp
        rcases g7.1 with g | g <;> (simp only [g, eval_of (put_same a' (s + 7) (.bool (c && q)) (by have := h'.n; omega))]; rfl)
      · have h5 := h'.put (s + 7) (.bool (c && q)) (by omega) (by omega) (by omega)
        exact next _ _ ⟨(put_other _ t _ 2 (by omega)).trans h5.x, (put_other _ t _ 3 (by omega)).trans h5.y, put_same _ _ _ (by have := h5.n; omega), (put_size _ _ _).trans h5.n, h5.d⟩ hw'
  cases c with
  | false =>
    refine skip_one h hj g1.1 g1.2 (by omega) (by omega) (by omega) fun a1 h1 => ?_
    refine skip_one h1 hj g1'.1 g1'.2 (by omega) (by omega) (by omega) fun b1 hb1 => ?_
    refine skip_one hb1 hj g2.1 g2.2 (by omega) (by omega) (by omega) fun a2 h2 => ?_
    refine skip_one h2 hj g3.1 g3.2 (by omega) (by omega) (by omega) fun a3 h3 => ?_
    refine skip_one h3 hj g3'.1 g3'.2 (by omega) (by omega) (by omega) fun b3 hb3 => ?_
    refine skip_one hb3 hj g4.1 g4.2 (by omega) (by omega) (by omega) fun a4 h4 => ?_
    refine skip_one h4 hj g5.1 g5.2 (by omega) (by omega) (by omega) fun a5 h5 => ?_
    exact last a5 w false h5 (fun h => by cases h) hW
  | true =>
    have sz := h.n
    refine wpList_val g1.1 (want_true g1.2 hj h.c) (e1 a h.x) ?_
    have h1 := h.put s px (by omega) (by omega) (by omega)
    have t1 : (a.put (some s) px).tmps[s]? = some px := put_same a s px (by omega)
    generalize a.put (some s) px = a1 at t1 h1 ⊢
    refine wpList_val g1'.1 (want_true g1'.2 hj h1.c) (e1' _ t1) ?_
    have tb1 := put_same a1 (s + 1) px' (by have := h1.n; omega)
    have hb1 := h1.put (s + 1) px' (by omega) (by omega) (by omega)
    generalize a1.put (some (s + 1)) px' = b1 at tb1 hb1 ⊢
    refine wpList_val g2.1 (want_true g2.2 hj hb1.c) (e2 _ tb1) ?_
    have t2 := put_same b1 (s + 2) vx (by have := hb1.n; omega)
    have h2 := hb1.put (s + 2) vx (by omega) (by omega) (by omega)
    generalize b1.put (some (s + 2)) vx = a2 at t2 h2 ⊢
    refine wpList_val g3.1 (want_true g3.2 hj h2.c) (e3 _ h2.y) ?_
    have t3 := put_same a2 (s + 3) py (by have := h2.n; omega)
    have u3 := (put_other a2 (s + 3) py (s + 2) (by omega)).trans t2
    have h3 := h2.put (s + 3) py (by omega) (by omega) (by omega)
    generalize a2.put (some (s + 3)) py = a3 at t3 u3 h3 ⊢
    refine wpList_val g3'.1 (want_true g3'.2 hj h3.c) (e3' _ t3) ?_
    have tb3 := put_same a3 (s + 4) py' (by have := h3.n; omega)
    have ub3 := (put_other a3 (s + 4) py' (s + 2) (by omega)).trans u3
    have hb3 := h3.put (s + 4) py' (by omega) (by omega) (by omega)
    generalize a3.put (some (s + 4)) py' = b3 at tb3 ub3 hb3 ⊢
    refine wpList_val g4.1 (want_true g4.2 hj hb3.c) (e4 _ tb3) ?_
    have t4 := put_same b3 (s + 5) vy (by have := hb3.n; omega)
    have u4 := (put_other b3 (s + 5) vy (s + 2) (by omega)).trans ub3
    have h4 := hb3.put (s + 5) vy (by omega) (by omega) (by omega)
    generalize b3.put (some (s + 5)) vy = a4 at t4 u4 h4 ⊢
    refine e5 _ _ u4 t4 (want_true g5.2 hj h4.c) fun w' hw' => ?_
    have h5 := h4.put (s + 6) (.bool q) (by omega) (by omega) (by omega)
    exact last _ w' true h5 (fun _ => put_same _ _ _ (by have := h4.n; omega)) hw'
/-- The first conjunct, that is always wanted: no pick. -/
theorem conj_first {q : Bool} {s : Nat} (hx : a.tmps[2]? = some X) (hy : a.tmps[3]? = some Y) (hsz : a.tmps.size = n) (hd : a.defers = []) (hs3 : 3 < s) (hn : s + 5 < n)
    {o1 o2 o3 o4 o5 o6 : Oper} {px py vx vy : Value}
    (g1 : o1.dst = some s ∧ o1.guard = none) (g2 : o2.dst = some (s + 1) ∧ o2.guard = none) (g3 : o3.dst = some (s + 2) ∧ o3.guard = none) (g4 : o4.dst = some (s + 3) ∧ o4.guard = none) (g5 : o5.dst = some (s + 4) ∧ o5.guard = none)
    (g6 : o6.op = .move (.tmp (s + 4)) ∧ o6.dst = some (s + 5) ∧ o6.guard = none)
    (e1 : ∀ a' : Act, a'.tmps[2]? = some X → (execOp a'.eval o1).run P w = .ok (.value px) w)
    (e2 : ∀ a' : Act, a'.tmps[s]? = some px → (execOp a'.eval o2).run P w = .ok (.value vx) w)
    (e3 : ∀ a' : Act, a'.tmps[3]? = some Y → (execOp a'.eval o3).run P w = .ok (.value py) w)
    (e4 : ∀ a' : Act, a'.tmps[(s + 2)]? = some py → (execOp a'.eval o4).run P w = .ok (.value vy) w)
    (e5 : ∀ a' : Act, a'.tmps[(s + 1)]? = some vx → a'.tmps[(s + 3)]? = some vy → (execOp a'.eval o5).run P w = .ok (.value (.bool q)) w)
    (next : ∀ a', Fr X Y (s + 5) q n a' → wpList P ops Q rest a' w) : wpList P ops Q (o1 :: o2 :: o3 :: o4 :: o5 :: o6 :: rest) a w := by
  have h0 : Fr0 X Y n a := ⟨hx, hy, hsz, hd⟩
  refine wpList_val g1.1 (want_none g1.2) (e1 a h0.x) ?_
  have t1 := put_same a s px (by have := h0.n; omega)
  have h1 := h0.put s px (by omega) (by omega)
  generalize a.put (some s) px = a1 at t1 h1 ⊢
  refine wpList_val g2.1 (want_none g2.2) (e2 _ t1) ?_
  have t2 := put_same a1 (s + 1) vx (by have := h1.n; omega)
  have h2 := h1.put (s + 1) vx (by omega) (by omega)
  generalize a1.put (some (s + 1)) vx = a2 at t2 h2 ⊢
  refine wpList_val g3.1 (want_none g3.2) (e3 _ h2.y) ?_
  have t3 := put_same a2 (s + 2) py (by have := h2.n; omega)
  have t2' := (put_other a2 (s + 2) py (s + 1) (by omega)).trans t2
  have h3 := h2.put (s + 2) py (by omega) (by omega)
  generalize a2.put (some (s + 2)) py = a3 at t3 t2' h3 ⊢
  refine wpList_val g4.1 (want_none g4.2) (e4 _ t3) ?_
  have t4 := put_same a3 (s + 3) vy (by have := h3.n; omega)
  have t2'' := (put_other a3 (s + 3) vy (s + 1) (by omega)).trans t2'
  have h4 := h3.put (s + 3) vy (by omega) (by omega)
  generalize a3.put (some (s + 3)) vy = a4 at t4 t2'' h4 ⊢
  refine wpList_val g5.1 (want_none g5.2) (e5 _ t2'' t4) ?_
  have t5 := put_same a4 (s + 4) (.bool q) (by have := h4.n; omega)
  have h5 := h4.put (s + 4) (.bool q) (by omega) (by omega)
  generalize a4.put (some (s + 4)) (.bool q) = a5 at t5 h5 ⊢
  refine wpList_val (w' := w) (v := .bool q) g6.2.1 (want_none g6.2.2) ?_ ?_
  · unfold execOp
    simp only [g6.1, eval_of t5]
    rfl
  · have h6 := h5.put (s + 5) (.bool q) (by omega) (by omega)
    exact next _ ⟨h6.x, h6.y, put_same _ _ _ (by have := h5.n; omega), h6.n, h6.d⟩
end
end Go.Proofs.Ytodifeoficjamaa
